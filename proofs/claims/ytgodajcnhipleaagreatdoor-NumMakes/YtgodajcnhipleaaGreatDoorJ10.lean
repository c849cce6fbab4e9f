import Derived.Test.YtgodajcnhipleaaGreatDoorJ8
import Derived.Test.YtgodajcnhipleaaGreatDoorJ9
import Derived.Deep.RegionLaw
import Derived.Deep.RegionWith
import Derived.Deep.LoopGhost
import Derived.WalkMore
import Derived.Shelf.Spec.TrailingZeros
namespace Go.Proofs.YtgodajcnhipleaaGreatDoor
open Go.RowKit

theorem wrap_mod (n : Int) (m : Nat) (h : n % 18446744073709551616 = (m : Int)) : IntKind.u64.wrap n = (m : Int) := by rw [IntKind.wrap_u64]; exact h
/-- The state of the loops that mend a guessed digit. -/
structure Kn (y1 y0 u d q r : Nat) : Prop where
  eq : q * y1 + r = u
  ge : (u * 4294967296 + d) / (y1 * 4294967296 + y0) ≤ q
  le : q ≤ 4294967297
structure KnC (y1 y0 u d : Nat) : Prop where
  hy0 : y0 < 4294967296
  hd : d < 4294967296
  hu : u < y1 * 4294967296 + y0
  hy1 : 4294967296 ≤ 2 * y1
theorem Kn.down {y1 y0 u d q r : Nat} (k : Kn y1 y0 u d q r) (h : KnC y1 y0 u d) (hc : 4294967296 ≤ q ∨ 4294967296 * r + d < q * y0) : 1 ≤ q ∧ Kn y1 y0 u d (q - 1) (r + y1) := by
  have h1 := kn_more h.hd h.hu k.eq hc
  have h2 := k.le
  have h3 := k.eq
  refine ⟨by generalize (u * 4294967296 + d) / (y1 * 4294967296 + y0) = T at *; omega, ?_, by generalize (u * 4294967296 + d) / (y1 * 4294967296 + y0) = T at *; omega, by omega⟩
  have h4 : 1 ≤ q := by generalize (u * 4294967296 + d) / (y1 * 4294967296 + y0) = T at *; omega
  obtain ⟨t, rfl⟩ : ∃ t, q = t + 1 := ⟨q - 1, by omega⟩
  rw [Nat.add_sub_cancel]
  rw [Nat.add_mul, Nat.one_mul] at h3
  omega
theorem dm (N M : Nat) : N = N / M * M + N % M := by rw [Nat.mul_comm]; exact (Nat.div_add_mod N M).symm
/-- The digit is found: its quotient and rest. -/
structure KnD (y1 y0 u d q : Nat) (rest : Nat) : Prop where
  lt : q < 4294967296
  eq : u * 4294967296 + d = q * (y1 * 4294967296 + y0) + rest
  rlt : rest < y1 * 4294967296 + y0
theorem Kn.done {y1 y0 u d q r : Nat} (k : Kn y1 y0 u d q r) (h : KnC y1 y0 u d) (hc : q * y0 ≤ 4294967296 * r + d) : KnD y1 y0 u d q ((u * 4294967296 + d) % (y1 * 4294967296 + y0)) := by
  have h1 := kn_exit h.hu k.eq k.ge hc
  have h2 := kn_lt h.hd h.hu
  refine ⟨by omega, ?_, Nat.mod_lt _ (by have := h.hu; omega)⟩
  rw [h1]; exact dm _ _
theorem Kn.far {y1 y0 u d q r : Nat} (k : Kn y1 y0 u d q r) (h : KnC y1 y0 u d) (hq : q ≤ 4294967296) (hr : 4294967296 ≤ r) : KnD y1 y0 u d q ((u * 4294967296 + d) % (y1 * 4294967296 + y0)) :=
  k.done h (kn_far h.hy0 hq hr)
theorem and32 (v : Nat) (h : v < 18446744073709551616) : bits .and .u64 (v : Int) 4294967295 = ((v % 4294967296 : Nat) : Int) := by
  have h1 := bits_and_u64_nat v 4294967295 h (by omega)
  rw [show v &&& 4294967295 = v % 4294967296 from Nat.and_two_pow_sub_one_eq_mod v 32] at h1
  exact h1
theorem div32 (v : Nat) : (v : Int) / 4294967296 = ((v / 4294967296 : Nat) : Int) := by omega

end Go.Proofs.YtgodajcnhipleaaGreatDoor

namespace Go.Proofs.YtgodajcnhipleaaGreatDoor
open Go.RowKit

/-- append into a row of one's own, as one step of a region that draws. -/
theorem step_append_own {P : Program} {ops : Array Oper} {o : Oper} {a : Act} {w : World} {K : Act → World → Prop} {Q : Exit → Act → World → Prop} {E : Prop}
    (hg : o.guard = none) (s x : Operand) (t : TypeId) (hop : o.op = Op.call { callee := Callee.builtin Builtin.append, args := #[s, x], argTypes := #[t, t] })
    (base : Nat) (e : TypeId) (i : TypeInfo) (size : Nat) (h1 : P.underlying t = some (.slice e)) (h2 : P.info? e = some i) (h4 : i.size = size)
    (g k cap : Nat) (xs : List Value) (hs : a.eval s = .slice (some ⟨g, 0, none⟩) k cap) (hown : w.ownsRow base e size (.slice (some ⟨g, 0, none⟩) k cap) k xs) (ad : Addr) (m c : Nat) (news : List Value) (hx : a.eval x = .slice (some ad) m c) (hn : news.length = m * size)
    (hc : ∀ j u, news[j]? = some u → w.cell? (ad.add j) = some u) (h1c : ∀ u ∈ news, u.oneCell' = true) (b1 : k + m ≤ cap)
    (hK : ∀ w', w'.ownsRow base e size (.slice (some ⟨g, 0, none⟩) (k + m) cap) (k + m) (xs ++ news) → w.grownBy w' (some g) → K (a.put o.dst (.slice (some ⟨g, 0, none⟩) (k + m) cap)) w') :
    if Region.wanted o (yielded ops a.tmps) = true then Oper.wp P o a w K Q else E := by
  have hw : Region.wanted o (yielded ops a.tmps) = true := by simp [Region.wanted, hg]
  rw [if_pos hw]
  obtain ⟨w', hrun, r1, r2⟩ := run_append_fits (P := P) w base t o.type e i size h1 h2 h4 g k cap xs hown ad m c news hn hc h1c b1
  unfold Oper.wp
  simp [execOp, hop, resolve, invoke, builtin, hs, hx, hrun, Result.andThen]
  exact hK _ r1 r2
theorem bDrew {B : Nat} {a w : World} (h : Below B a w) : Below B a w.drew := ⟨h.os, h.tape, h.output, h.size, h.block⟩
theorem wrap32 (v : Nat) (h : v < B32) : IntKind.u32.wrap (v : Int) = (v : Int) := by
  rw [B32_eq] at h
  simp [IntKind.wrap, IntKind.signed, IntKind.bits]
  omega
theorem two_cells (w : World) (x y : Nat) : ∀ (j : Nat) (u : Value), [V x, V y][j]? = some u → (w.alloc (.cells #[V x, V y] 115)).cell? ((⟨w.heap.size, 0, none⟩ : Addr).add j) = some u := by
  intro j u h
  have hb : Blk32 (w.alloc (.cells #[V x, V y] 115)) w.heap.size [x, y] := heap_alloc_new w _
  have hj : j < 2 := by
    have := (List.getElem?_eq_some_iff.1 h).1
    simpa using this
  have hadd : (⟨w.heap.size, 0, none⟩ : Addr).add j = ⟨w.heap.size, j, none⟩ := by unfold Addr.add; split <;> simp_all
  rw [hadd, hb.cell j (by simpa using hj)]
  rcases Nat.lt_or_ge j 1 with h1 | h1
  · obtain rfl : j = 0 := by omega
    simpa using h
  · obtain rfl : j = 1 := by omega
    simpa using h

set_option maxRecDepth 20000 in
set_option maxHeartbeats 1000000 in
/-- ref.From: the digits of limbs. -/
theorem from_any {p : Option Addr} {n c : Nat} {xs : List Nat} {w : World} (h : At w p n c xs) (hn : n ≤ 17592186044416) :
    Calls Tryz.prog 85 #[.slice p n c] w fun e w' =>
      ∃ g zs, e = .returned (.slice (some ⟨g, 0, none⟩) zs.length zs.length) ∧ w.heap.size ≤ g ∧ Blk32 w' g zs ∧ Nf B32 zs (valB B64 xs) ∧ zs.length ≤ 2 * n ∧ Below w.heap.size w w' := by
  obtain ⟨i0, hi, hz0, hz1, hz2⟩ := info_parts Tryz.infoU32
  have hl := h.len; have cap := h.cap; have big := h.big
  unfold maxLen at big
  have HL : Hid (xs.length = n) := hl
  clear hl
  go_enter Tryz.func85, Tryz.ntmps85
  go_wp2_with (at_make; refine wpList_make_own _ rfl _ _ 68 rfl w.heap.size 115 i0 (.int .u32 0) 1 Tryz.underlying68 hi hz0 hz1 _ _ _ (2 * n) rfl rfl (by omega) (by rw [hz2]; omega) (by unfold maxLen; omega) (Nat.le_refl _) ?_; intro w1 hown hgrow)
  have HO : Hid (w1.ownsRow w.heap.size 115 1 (.slice (some ⟨w.heap.size, 0, none⟩) 0 (2 * n)) 0 []) := hown
  have hb1 : Below w.heap.size w w1 := (Below.refl _ _).grown hgrow (Nat.le_refl _) (fun k hk => by simp at hk)
  clear hown hgrow
  obtain ⟨N, hN⟩ : ∃ N, N = 2 * n := ⟨_, rfl⟩
  rw [← hN] at HO ⊢
  have HN : Hid (N = 2 * n) := hN
  clear hN
  go_loopg [3, 4] n (fun gk dv iv wr => ∃ k K2 : Nat, k + gk = n ∧ iv = .int .i64 k ∧ Hid (K2 = 2 * k) ∧ dv = .slice (some ⟨w.heap.size, 0, none⟩) K2 N ∧ Hid (wr.ownsRow w.heap.size 115 1 (.slice (some ⟨w.heap.size, 0, none⟩) K2 N) K2 (cellsV (dig32 (xs.take k)))) ∧ Below w.heap.size w wr)
  case atStart => exact ⟨0, 0, by omega, rfl, rfl, rfl, HO, hb1⟩
  case round =>
    obtain ⟨k, K2, hkg, rfl, HK2, rfl, HOW, hbx⟩ := hrel
    cases gk with
    | zero =>
      obtain rfl : k = n := by omega
      have hO := HOW.out
      rcases hO.2 with ⟨h', _⟩ | ⟨g', cap', cur, h', hbase, hgc, hcap', hmx, hsz, htake⟩
      · simp at h'
      simp only [Value.slice.injEq, Option.some.injEq, Addr.mk.injEq, and_true, true_and] at h'
      obtain ⟨rfl, rfl⟩ := h'
      have hK := HK2.out
      have hNN := HN.out
      have hdl : (dig32 xs).length = K2 := by rw [dig32_len, HL.out, hK]
      have etk : xs.take k = xs := List.take_of_length_le (by rw [HL.out]; omega)
      rw [etk] at htake
      have A32 : At32 wr (some ⟨w.heap.size, 0, none⟩) K2 N (dig32 xs) := by
        refine ⟨hdl, hcap', hmx, dig32_dig h.dig, .inr ⟨w.heap.size, 0, rfl, fun jj hj => ?_⟩⟩
        rw [Nat.zero_add, cell_of_row wr w.heap.size jj _ _ _ hgc]
        have e1 := cellsV_get (dig32 xs) jj (by omega)
        rw [← htake, Nat.mul_one, List.getElem?_take, if_pos hj] at e1
        rw [← Array.getElem?_toList]; exact e1
      have hle := trimL_length_le (dig32 xs)
      have HNF : Hid (Nf B32 (trimL (dig32 xs)) (valB B64 xs)) := by
        have := Nf.trim (dig32_dig h.dig)
        rw [dig32_val] at this; exact this
      have HLE : Hid ((trimL (dig32 xs)).length ≤ 2 * k) := by show _ ≤ _; omega
      clear hO hbase hgc hcap' hmx hsz htake hK hNN hle hdl
      go_wp2_with fail
      refine (rnorm_any A32 (by have := HK2.out; omega)).mono ?_
      rintro e w5 ⟨g5, rfl, hg5, hblk5, hb5⟩
      generalize trimL (dig32 xs) = zs at *
      go_wp2_with fail
      go_ret
      exact ⟨g5, zs, rfl, by have := hbx.size; omega, hblk5, HNF.out, HLE.out, Below.on hbx hb5⟩
    | succ gg =>
      obtain ⟨g, off, rfl, hc⟩ := h.cells.resolve_left (by omega)
      obtain ⟨x, hx⟩ : ∃ x, x = xs.getD k 0 := ⟨_, rfl⟩
      have hcx0 : w.cell? ⟨g, off + k, none⟩ = some (U x) := by rw [hx]; exact hc k (by omega)
      have hcx : wr.cell? ⟨g, off + k, none⟩ = some (U x) := (hbx.cell (p := ⟨g, off + k, none⟩) (World.block_lt_of_cell? w _ hcx0)).trans hcx0
      have hxb : x < B64 := by rw [hx]; exact h.dig.getD B64_pos k
      have HX : Hid (x = xs.getD k 0) := hx
      clear hc hx hcx0
      obtain ⟨lo, hlo⟩ : ∃ lo, lo = x % B32 := ⟨_, rfl⟩
      obtain ⟨hh, hhi⟩ : ∃ hh, hh = x / B32 := ⟨_, rfl⟩
      have hlob : lo < B32 := by rw [hlo]; exact Nat.mod_lt _ B32_pos
      have hhib : hh < B32 := by rw [hhi]; exact Nat.div_lt_of_lt_mul (by rw [B32_two]; exact hxb)
      have e1 : bits .and .u64 (x : Int) 4294967295 = (lo : Int) := by rw [hlo, B32_eq]; exact and32 x (by rw [← B64_eq]; exact hxb)
      have e2 : (x : Int) / 4294967296 = (hh : Int) := by rw [hhi, B32_eq]; exact div32 x
      have e3 : IntKind.u32.wrap (lo : Int) = (lo : Int) := wrap32 lo hlob
      have e4 : IntKind.u32.wrap (hh : Int) = (hh : Int) := wrap32 hh hhib
      have HLO : Hid (lo = x % B32) := hlo
      have HHI : Hid (hh = x / B32) := hhi
      have hsp : K2 + 2 ≤ N := by have := HK2.out; have := HN.out; omega
      have HOA : Hid ((wr.drew.alloc (.cells #[V lo, V hh] 115)).ownsRow w.heap.size 115 1 (.slice (some ⟨w.heap.size, 0, none⟩) K2 N) K2 (cellsV (dig32 (xs.take k)))) := by
        have h0 : wr.drew.ownsRow w.heap.size 115 1 (.slice (some ⟨w.heap.size, 0, none⟩) K2 N) K2 (cellsV (dig32 (xs.take k))) := HOW.out
        exact h0.alloc _
      clear hlo hhi
      go_wp2_with fail
      go_region_law (refine step_append_own rfl (.tmp 15) (.tmp 28) 68 rfl w.heap.size 115 i0 1 Tryz.underlying68 hi hz1 w.heap.size K2 N (cellsV (dig32 (xs.take k))) (by simp [Act.eval]) HOA.out ⟨wr.heap.size, 0, none⟩ 2 2 [V lo, V hh] (by simp [Act.eval]) rfl (two_cells wr.drew lo hh) (by intro u hu; simp at hu; rcases hu with rfl | rfl <;> rfl) hsp ?_; intro w3 hw3 hgr3)
      all_goals
        (have hbx3 : Below w.heap.size w w3 := ((bDrew hbx).alloc (by have := hbx.size; exact this) _).grown hgr3 (by have := hbx.size; simp; omega) (fun q hq => by simp at hq; omega)
         have HW3 : Hid (w3.ownsRow w.heap.size 115 1 (.slice (some ⟨w.heap.size, 0, none⟩) (K2 + 2) N) (K2 + 2) (cellsV (dig32 (xs.take (k + 1))))) := by
           have e0 : cellsV (dig32 (xs.take (k + 1))) = cellsV (dig32 (xs.take k)) ++ [V lo, V hh] := by
             rw [dig32_snoc xs k (by rw [HL.out]; omega), ← HX.out, ← HLO.out, ← HHI.out]; unfold cellsV; rw [List.map_append]; rfl
           rw [e0]; exact hw3
         clear hw3 hgr3
         go_wp2_with fail
         go_roundg gg
         case measure => omega
         case rel => exact ⟨k + 1, K2 + 2, by omega, by go_num, by have := HK2.out; show _ = _; omega, rfl, HW3, hbx3⟩)
end Go.Proofs.YtgodajcnhipleaaGreatDoor

namespace Go.Proofs.YtgodajcnhipleaaGreatDoor
open Go.RowKit Go.Shelf

theorem B64_sq (k : Nat) : B64 ^ k = B32 ^ (2 * k) := by rw [Nat.pow_mul, show B32 ^ 2 = B64 from rfl]
/-- What ref.To has done when k limbs are laid. -/
structure RToR (w : World) (g N m : Nat) (ds : List Nat) (k : Nat) (us : List Nat) (wr : World) : Prop where
  bel : Below g w wr
  own : wr.ownsRow g 43 1 (.slice (some ⟨g, 0, none⟩) k N) k (cellsU us)
  len : us.length = k
  dig : Dig B64 us
  top : m ≤ 2 * k → Top us
  val : valB B64 us = valB B32 (ds.take (2 * k))
theorem rto_val {us ds : List Nat} {k x y : Nat} (h : valB B64 us = valB B32 (ds.take (2 * k))) (hl : us.length = k) (ex : x = ds.getD (2 * k) 0) (ey : y = ds.getD (2 * k + 1) 0) : valB B64 (us ++ [x + B32 * y]) = valB B32 (ds.take (2 * (k + 1))) := by
  rw [valB_snoc, hl, h, B64_sq, show 2 * (k + 1) = 2 * k + 1 + 1 by omega, valB_take_any _ ds (2 * k + 1), valB_take_any _ ds (2 * k), ← ex, ← ey, Nat.pow_succ, Nat.mul_add, Nat.mul_assoc]
  omega
theorem top_snoc (us : List Nat) {x : Nat} (h : x ≠ 0) : Top (us ++ [x]) := by
  intro z hz; simp at hz; omega
theorem own_at {wr : World} {g i N : Nat} {ss : List Nat} (ho : wr.ownsRow g 43 1 (.slice (some ⟨g, 0, none⟩) i N) i (cellsU ss)) (hl : ss.length = i) (hd : Dig B64 ss) : At wr (some ⟨g, 0, none⟩) i N ss := by
  rcases ho.2 with ⟨h', _⟩ | ⟨g', cap', cur, h', hbase, hgc, hcap', hmx, hsz, htake⟩
  · simp at h'
  · simp only [Value.slice.injEq, Option.some.injEq, Addr.mk.injEq, and_true, true_and] at h'
    obtain ⟨rfl, rfl⟩ := h'
    refine ⟨hl, hcap', hmx, hd, .inr ⟨g, 0, rfl, fun jj hj => ?_⟩⟩
    rw [Nat.zero_add, cell_of_row wr g jj _ _ _ hgc]
    have e1 := cellsU_get ss jj (by rw [hl]; exact hj)
    rw [← htake, Nat.mul_one, List.getElem?_take, if_pos hj] at e1
    rw [← Array.getElem?_toList]; exact e1
theorem one_cellU (w : World) (x : Nat) : ∀ (j : Nat) (u : Value), [U x][j]? = some u → (w.alloc (.cells #[U x] 43)).cell? ((⟨w.heap.size, 0, none⟩ : Addr).add j) = some u := by
  intro j u h
  have hb : Blk (w.alloc (.cells #[U x] 43)) w.heap.size [x] := heap_alloc_new w _
  have hj : j < 1 := by
    have := (List.getElem?_eq_some_iff.1 h).1
    simpa using this
  have hadd : (⟨w.heap.size, 0, none⟩ : Addr).add j = ⟨w.heap.size, j, none⟩ := by unfold Addr.add; split <;> simp_all
  rw [hadd, hb.cell j (by simpa using hj)]
  obtain rfl : j = 0 := by omega
  simpa using h

set_option maxRecDepth 20000 in
set_option maxHeartbeats 2000000 in
/-- ref.To: the limbs of digits. -/
theorem rto_any {p : Option Addr} {n c : Nat} {xs : List Nat} {w : World} (h : At32 w p n c xs) (hn : n ≤ 35184372088832) :
    Calls Tryz.prog 76 #[.slice p n c] w fun e w' => ∃ g k N us, e = .returned (.slice (some ⟨g, 0, none⟩) k N) ∧ w.heap.size ≤ g ∧ At w' (some ⟨g, 0, none⟩) k N us ∧ Nf B64 us (valB B32 xs) ∧ Below w.heap.size w w' := by
  obtain ⟨i0, hi, hz0, hz1, hz2⟩ := info_parts Tryz.infoU64
  have HDG : Hid (Dig B32 xs) := h.dig
  have hlx := h.len
  have hle := trimL_length_le xs
  have hm0 : (trimL xs).length ≤ 35184372088832 := by omega
  have HV : Hid (valB B32 (trimL xs) = valB B32 xs) := valB_trimL _ _
  have HTOP : Hid (Top (trimL xs)) := Top_trimL xs
  have HDT : Hid (Dig B32 (trimL xs)) := h.dig.trimL
  clear hlx hle
  go_enter Tryz.func76, Tryz.ntmps76
  go_wp2_with fail
  refine (rnorm_any h (by omega)).mono ?_
  rintro e w0 ⟨gd, rfl, hgd, hblk, hb0⟩
  have A0 := hblk.at_ HDT.out rfl (by unfold maxLen; omega)
  generalize trimL xs = ds at *
  obtain ⟨m, hm⟩ : ∃ m, m = ds.length := ⟨_, rfl⟩
  rw [← hm] at A0 hm0 ⊢
  have HM : Hid (m = ds.length) := hm
  clear hm hblk h
  have hNi : (m : Int).tdiv 2 = ((m / 2 : Nat) : Int) := by rw [Int.tdiv_eq_ediv_of_nonneg (by omega)]; omega
  go_wp2_with (at_make; refine wpList_make_own _ rfl _ _ 26 rfl w0.heap.size 43 i0 (.int .u64 0) 1 Tryz.underlying26 hi hz0 hz1 _ _ _ (m / 2 + 1) rfl rfl (by omega) (by rw [hz2]; omega) (by unfold maxLen; omega) (Nat.le_refl _) ?_; intro w1 hown hgrow)
  have hb1 : Below w0.heap.size w0 w1 := (Below.refl _ _).grown hgrow (Nat.le_refl _) (fun k hk => by simp at hk)
  have HO : Hid (RToR w0 w0.heap.size (m / 2 + 1) m ds 0 [] w1) := ⟨hb1, hown, rfl, Dig.nil _, fun _ => by intro x hx; simp at hx, by simp [valB]⟩
  clear hown hgrow hb1 hNi
  obtain ⟨N, hN⟩ : ∃ N, N = m / 2 + 1 := ⟨_, rfl⟩
  rw [← hN] at HO ⊢
  have HN : Hid (N = m / 2 + 1) := hN
  have hNb : N ≤ 17592186044417 := by omega
  clear hN
  go_loopg [4, 5] N (fun gk lv iv wr => ∃ (k i : Nat) (us : List Nat), k + gk = N ∧ Hid (i = 2 * k) ∧ iv = .int .i64 i ∧ lv = .slice (some ⟨w0.heap.size, 0, none⟩) k N ∧ Hid (RToR w0 w0.heap.size N m ds k us wr))
  case atStart => exact ⟨0, 0, [], by omega, rfl, rfl, rfl, HO⟩
  case round =>
    obtain ⟨k, i, us, hkg, HI, rfl, rfl, HR⟩ := hrel
    by_cases him : i < m
    · have hsp : k + 1 ≤ N := by have := HI.out; have := HN.out; omega
      obtain ⟨x, hx⟩ : ∃ x, x = ds.getD i 0 := ⟨_, rfl⟩
      obtain ⟨y, hy⟩ : ∃ y, y = ds.getD (i + 1) 0 := ⟨_, rfl⟩
      have hxb : x < B32 := by rw [hx]; exact HDT.out.getD B32_pos i
      have hyb : y < B32 := by rw [hy]; exact HDT.out.getD B32_pos (i + 1)
      rw [B32_eq] at hxb hyb
      have c0 : w0.cell? ⟨gd, i, none⟩ = some (V x) := by
        have := A0.cellAt i (by omega)
        rw [Nat.zero_add] at this
        rw [hx]; exact this
      have c1 : wr.cell? ⟨gd, i, none⟩ = some (V x) := (HR.out.bel.cell (p := ⟨gd, i, none⟩) (World.block_lt_of_cell? w0 _ c0)).trans c0
      have hxw : IntKind.u64.wrap (x : Int) = (x : Int) := wrap_mod _ _ (by omega)
      have hyw : IntKind.u64.wrap (y : Int) = (y : Int) := wrap_mod _ _ (by omega)
      obtain ⟨yh, eyh⟩ : ∃ yh, yh = 4294967296 * y := ⟨_, rfl⟩
      have f1 : IntKind.u64.wrap ((y : Int) * 4294967296) = (yh : Int) := wrap_mod _ _ (by omega)
      obtain ⟨ww, eww⟩ : ∃ ww, ww = x + yh := ⟨_, rfl⟩
      have f2 : IntKind.u64.wrap ((x : Int) + (yh : Int)) = (ww : Int) := wrap_mod _ _ (by omega)
      have hwb : ww < B64 := by rw [B64_eq]; omega
      have EW : Hid (ww = x + B32 * y) := by show _ = _; rw [B32_eq]; omega
      have HXE : Hid (x = ds.getD (2 * k) 0) := by rw [← HI.out]; exact hx
      have HYE : Hid (y = ds.getD (2 * k + 1) 0) := by rw [← HI.out]; exact hy
      have HTT : Hid (m ≤ 2 * (k + 1) → ww ≠ 0) := by
        intro hle
        have hi2 := HI.out
        by_cases h1 : i + 1 < m
        · have : y ≠ 0 := by
            refine HTOP.out y ?_
            rw [List.getLast?_eq_getElem?, ← HM.out, show m - 1 = i + 1 by omega, hy, List.getD_eq_getElem?_getD, List.getElem?_eq_getElem (by have := HM.out; omega)]; rfl
          omega
        · have : x ≠ 0 := by
            refine HTOP.out x ?_
            rw [List.getLast?_eq_getElem?, ← HM.out, show m - 1 = i by omega, hx, List.getD_eq_getElem?_getD, List.getElem?_eq_getElem (by have := HM.out; omega)]; rfl
          omega
      have HOA : Hid ((wr.alloc (.cells #[U ww] 43)).ownsRow w0.heap.size 43 1 (.slice (some ⟨w0.heap.size, 0, none⟩) k N) k (cellsU us)) := HR.out.own.alloc _
      by_cases h1 : i + 1 < m
      · have d0 : w0.cell? ⟨gd, i + 1, none⟩ = some (V y) := by
          have := A0.cellAt (i + 1) (by omega)
          rw [Nat.zero_add] at this
          rw [hy]; exact this
        have d1 : wr.cell? ⟨gd, i + 1, none⟩ = some (V y) := (HR.out.bel.cell (p := ⟨gd, i + 1, none⟩) (World.block_lt_of_cell? w0 _ d0)).trans d0
        clear hx hy c0 d0 eyh eww hxb hyb
        go_wp2_with (at_builtin; refine wpList_append_fits _ rfl (.tmp 39) (.tmp 41) 26 rfl w0.heap.size 43 i0 1 Tryz.underlying26 hi hz1 w0.heap.size k N (cellsU us) rfl HOA.out ⟨wr.heap.size, 0, none⟩ 1 1 [U ww] rfl rfl (one_cellU wr ww) (by intro u hu; simp at hu; subst hu; rfl) hsp ?_; intro w3 hw3 hgr3)
        have HR3 : Hid (RToR w0 w0.heap.size N m ds (k + 1) (us ++ [ww]) w3) := by
          have hR := HR.out
          refine ⟨(hR.bel.alloc hR.bel.size _).grown hgr3 (by have := hR.bel.size; simp; omega) (fun q hq => by simp at hq; omega), ?_, by simp [hR.len], hR.dig.append (dig1 hwb), fun hle => top_snoc us (HTT.out hle), ?_⟩
          · have e0 : cellsU (us ++ [ww]) = cellsU us ++ [U ww] := by unfold cellsU; rw [List.map_append]; rfl
            rw [e0]; exact hw3
          · rw [EW.out]; exact rto_val hR.val hR.len HXE.out HYE.out
        clear hw3 hgr3
        go_roundg (gk - 1)
        case measure => omega
        case rel => exact ⟨k + 1, i + 2, us ++ [ww], by omega, by have := HI.out; show _ = _; omega, by go_num, rfl, HR3⟩
      · have hy0 : y = 0 := by rw [hy, List.getD_eq_getElem?_getD, List.getElem?_eq_none (by have := HM.out; omega)]; rfl
        have eyx : ww = x := by omega
        subst eyx
        clear hx hy c0 eyh eww hxb hyb f1 f2 hyw
        go_wp2_with (at_builtin; refine wpList_append_fits _ rfl (.tmp 39) (.tmp 41) 26 rfl w0.heap.size 43 i0 1 Tryz.underlying26 hi hz1 w0.heap.size k N (cellsU us) rfl HOA.out ⟨wr.heap.size, 0, none⟩ 1 1 [U ww] rfl rfl (one_cellU wr ww) (by intro u hu; simp at hu; subst hu; rfl) hsp ?_; intro w3 hw3 hgr3)
        have HR3 : Hid (RToR w0 w0.heap.size N m ds (k + 1) (us ++ [ww]) w3) := by
          have hR := HR.out
          refine ⟨(hR.bel.alloc hR.bel.size _).grown hgr3 (by have := hR.bel.size; simp; omega) (fun q hq => by simp at hq; omega), ?_, by simp [hR.len], hR.dig.append (dig1 hwb), fun hle => top_snoc us (HTT.out hle), ?_⟩
          · have e0 : cellsU (us ++ [ww]) = cellsU us ++ [U ww] := by unfold cellsU; rw [List.map_append]; rfl
            rw [e0]; exact hw3
          · rw [EW.out]; exact rto_val hR.val hR.len HXE.out HYE.out
        clear hw3 hgr3
        go_roundg (gk - 1)
        case measure => omega
        case rel => exact ⟨k + 1, i + 2, us ++ [ww], by omega, by have := HI.out; show _ = _; omega, by go_num, rfl, HR3⟩
    · have hR := HR.out
      have hi2 := HI.out
      have AT := own_at hR.own hR.len hR.dig
      have HNF : Hid (Nf B64 us (valB B32 xs)) := by
        refine ⟨hR.dig, hR.top (by omega), ?_⟩
        have hv := hR.val
        rw [List.take_of_length_le (by have := HM.out; omega), HV.out] at hv; exact hv
      have hbx := Below.on hb0 hR.bel
      have hgz := hb0.size
      clear hR hi2
      go_wp2_with fail
      go_ret
      exact ⟨_, k, N, us, rfl, by omega, AT, HNF.out, hbx⟩
end Go.Proofs.YtgodajcnhipleaaGreatDoor

namespace Go.Proofs.YtgodajcnhipleaaGreatDoor
open Go.RowKit Go.Shelf

theorem At32.setOther {w : World} {g off n c : Nat} {xs : List Nat} (h : At32 w (some ⟨g, off, none⟩) n c xs) (g2 o2 : Nat) (v : Value) (hne : g ≠ g2) : At32 (w.setCell ⟨g2, o2, none⟩ v) (some ⟨g, off, none⟩) n c xs := by
  refine ⟨h.len, h.cap, h.big, h.dig, ?_⟩
  rcases h.cells with h0 | ⟨g', o', he, hcl⟩
  · exact .inl h0
  · refine .inr ⟨g', o', he, fun j hj => ?_⟩
    simp only [Option.some.injEq, Addr.mk.injEq, and_true] at he
    rw [World.cell?_setCell_other _ _ _ _ (by intro e; apply hne; have := congrArg Addr.block e; simp at this; omega)]
    exact hcl j hj
theorem At.setOther {w : World} {g off n c : Nat} {xs : List Nat} (h : At w (some ⟨g, off, none⟩) n c xs) (g2 o2 : Nat) (v : Value) (hne : g ≠ g2) : At (w.setCell ⟨g2, o2, none⟩ v) (some ⟨g, off, none⟩) n c xs := by
  refine ⟨h.len, h.cap, h.big, h.dig, ?_⟩
  rcases h.cells with h0 | ⟨g', o', he, hcl⟩
  · exact .inl h0
  · refine .inr ⟨g', o', he, fun j hj => ?_⟩
    simp only [Option.some.injEq, Addr.mk.injEq, and_true] at he
    rw [World.cell?_setCell_other _ _ _ _ (by intro e; apply hne; have := congrArg Addr.block e; simp at this; omega)]
    exact hcl j hj

set_option maxRecDepth 20000 in
set_option maxHeartbeats 1000000 in
theorem mk04 {p : Option Addr} {n c : Nat} {xs : List Nat} {w : World} (s : Bool) (h : At32 w p n c xs) (hn : n ≤ 35184372088832) :
    Calls Tryz.prog 77 #[.bool s, .slice p n c] w fun e w' => ∃ g m, m = (trimL xs).length ∧ e = .returned (.agg #[.bool (s && decide (0 < m)), .slice (some ⟨g, 0, none⟩) m m]) ∧ w.heap.size ≤ g ∧ At32 w' (some ⟨g, 0, none⟩) m m (trimL xs) ∧ Below w.heap.size w w' := by
  have hd := h.dig.trimL
  have hle := trimL_length_le xs
  have hlx := h.len
  obtain ⟨zs, hzs⟩ : ∃ zs, zs = trimL xs := ⟨_, rfl⟩
  rw [← hzs] at hd hle
  rw [← hzs]
  have HZS : Hid (zs = trimL xs) := hzs
  clear hzs
  go_enter Tryz.func77, Tryz.ntmps77
  go_wp2_with fail
  have B0 : Box (w.alloc (.cells #[.bool false, .slice none 0 0] 70)) w.heap.size (.bool false) (.slice none 0 0) := ⟨by go_simp, by go_simp, by go_simp, by go_simp⟩
  refine (rnorm_any (h.alloc _) hn).mono ?_
  rintro e w1 ⟨g, rfl, hg, hblk, hb⟩
  rw [← HZS.out] at hblk ⊢
  obtain ⟨c0, c1, f0, f1⟩ := B0.below hb
  have hbw := Below.on (below1 w _) hb
  have HA : Hid (At32 w1 (some ⟨g, 0, none⟩) zs.length zs.length zs) := hblk.at_ hd rfl (by unfold maxLen; omega)
  have hg1 : w.heap.size + 1 ≤ g := by simp at hg; exact hg
  clear B0 hb hblk hg hle hlx h
  obtain ⟨m, hm⟩ : ∃ m, m = zs.length := ⟨_, rfl⟩
  rw [← hm] at HA ⊢
  have HM : Hid (m = zs.length) := hm
  clear hm
  have key : ∀ r : Bool, Hid (At32 ((w1.setCell ⟨w.heap.size, 0, none⟩ (.bool r)).setCell ⟨w.heap.size, 1, none⟩ (.slice (some ⟨g, 0, none⟩) m m)) (some ⟨g, 0, none⟩) m m zs) := by
    intro r
    have hA := HA.out
    refine ⟨hA.len, hA.cap, hA.big, hA.dig, ?_⟩
    rcases hA.cells with h0 | ⟨g', o', he, hcl⟩
    · exact .inl h0
    · refine .inr ⟨g', o', he, fun j hj => ?_⟩
      simp only [Option.some.injEq, Addr.mk.injEq, and_true] at he
      have hne : g' ≠ w.heap.size := by omega
      rw [World.cell?_setCell_other _ _ _ _ (by intro e; apply hne; have := congrArg Addr.block e; simp at this; omega), World.cell?_setCell_other _ _ _ _ (by intro e; apply hne; have := congrArg Addr.block e; simp at this; omega)]
      exact hcl j hj
  cases s
  · go_wp2_with fail
    exact bodyPost_ret (v := .agg #[.bool false, .slice (some ⟨g, 0, none⟩) m m]) (by rw [results_cell1 rfl]; go_simp) rfl ⟨g, m, HM.out, rfl, by omega, (key false).out, bSet (bSet hbw _ _ _ (Nat.le_refl _)) _ _ _ (Nat.le_refl _)⟩
  · by_cases hm0 : 0 < m
    · have hd0 : decide ((0 : Int) < (m : Int)) = true := decide_eq_true (by omega)
      go_wp2_with fail
      exact bodyPost_ret (v := .agg #[.bool true, .slice (some ⟨g, 0, none⟩) m m]) (by rw [results_cell1 rfl]; go_simp) rfl ⟨g, m, HM.out, by simp [hm0], by omega, (key true).out, bSet (bSet hbw _ _ _ (Nat.le_refl _)) _ _ _ (Nat.le_refl _)⟩
    · have hd0 : decide ((0 : Int) < (m : Int)) = false := decide_eq_false (by omega)
      go_wp2_with fail
      exact bodyPost_ret (v := .agg #[.bool false, .slice (some ⟨g, 0, none⟩) m m]) (by rw [results_cell1 rfl]; go_simp) rfl ⟨g, m, HM.out, by simp [hm0], by omega, (key false).out, bSet (bSet hbw _ _ _ (Nat.le_refl _)) _ _ _ (Nat.le_refl _)⟩

set_option maxRecDepth 20000 in
set_option maxHeartbeats 2000000 in
theorem from04 {p : Option Addr} {n c : Nat} {xs : List Nat} {w : World} (s : Bool) (h : At w p n c xs) (hn : n ≤ 17592186044416) :
    Calls Tryz.prog 54 #[ZV s p n c] w fun e w' => ∃ p' m zs, e = .returned (.agg #[.bool (s && decide (0 < m)), .slice p' m m]) ∧ At32 w' p' m m zs ∧ Nf B32 zs (valB B64 xs) ∧ m ≤ 2 * n ∧ Below w.heap.size w w' := by
  go_enter Tryz.func54, Tryz.ntmps54
  go_wp2_with fail
  have B0 : Box ((w.alloc (.cells #[.bool s, .slice p n c] 28)).alloc (.cells #[.bool false, .slice none 0 0] 70)) w.heap.size (.bool s) (.slice p n c) := ⟨by go_simp, by go_simp, by go_simp, by go_simp⟩
  have B1 : Box ((w.alloc (.cells #[.bool s, .slice p n c] 28)).alloc (.cells #[.bool false, .slice none 0 0] 70)) (w.heap.size + 1) (.bool false) (.slice none 0 0) := ⟨by go_simp, by go_simp, by go_simp, by go_simp⟩
  have hbw : Below w.heap.size w ((w.alloc (.cells #[.bool s, .slice p n c] 28)).alloc (.cells #[.bool false, .slice none 0 0] 70)) := below2 w _ _
  have hsW : ((w.alloc (.cells #[.bool s, .slice p n c] 28)).alloc (.cells #[.bool false, .slice none 0 0] 70)).heap.size = w.heap.size + 1 + 1 := by simp
  generalize ((w.alloc (.cells #[.bool s, .slice p n c] 28)).alloc (.cells #[.bool false, .slice none 0 0] 70)) = W at *
  obtain ⟨hs, ehs⟩ : ∃ hs, hs = w.heap.size := ⟨_, rfl⟩
  have HHS : Hid (hs = w.heap.size) := ehs
  rw [← ehs] at B0 B1 hsW ⊢
  have HSW : Hid (W.heap.size = hs + 1 + 1) := hsW
  have HBW : Hid (Below w.heap.size w W.drew) := bDrew hbw
  have HAT : Hid (At W.drew p n c xs) := (h.below hbw).drewN 1
  have X0 : Hid (Box W.drew hs (.bool s) (.slice p n c)) := ⟨B0.c0, B0.c1, B0.f0, B0.f1⟩
  have X1 : Hid (Box W.drew (hs + 1) (.bool false) (.slice none 0 0)) := ⟨B1.c0, B1.c1, B1.f0, B1.f1⟩
  obtain ⟨c00, c01, f00, f01⟩ := B0
  obtain ⟨c10, c11, f10, f11⟩ := B1
  clear ehs hsW hbw h
  go_region_with (first
    | (go_at_call 85; refine (from_any HAT.out hn).mono ?_; rintro e w1 ⟨g1, zs, rfl, hg1, hblk1, hnf1, hl1, hb1⟩; obtain ⟨d00, d01, e00, e01⟩ := X0.out.below hb1; have Y1 : Hid (Box w1 (hs + 1) (.bool false) (.slice none 0 0)) := X1.out.below hb1; have HA1 : Hid (At32 w1 (some ⟨g1, 0, none⟩) zs.length zs.length zs) := hblk1.at_ hnf1.dig rfl (by unfold maxLen; omega); have HN1 : Hid (Nf B32 zs (valB B64 xs)) := hnf1; have HL1 : Hid (zs.length ≤ 2 * n) := hl1; have HB1 : Hid (Below w.heap.size w w1) := Below.on HBW.out hb1; have HS1 : Hid (hs + 1 + 1 ≤ w1.heap.size) := Nat.le_trans (Nat.le_of_eq HSW.out.symm) hb1.size; clear hblk1 hnf1 hl1 hb1 hg1)
    | (go_at_call 77; refine (mk04 s HA1.out (by have := HL1.out; omega)).mono ?_; rintro e w2 ⟨g2, m2, hm2, rfl, hg2, hA2, hb2⟩; obtain ⟨c10, c11, f10, f11⟩ := Y1.out.below hb2; have HM2 : Hid (m2 = (trimL zs).length) := hm2; have HA2 : Hid (At32 w2 (some ⟨g2, 0, none⟩) m2 m2 (trimL zs)) := hA2; have HB2 : Hid (Below w.heap.size w w2) := Below.on HB1.out hb2; have HG2 : Hid (hs + 1 + 1 ≤ g2) := Nat.le_trans HS1.out hg2; clear hm2 hA2 hb2 hg2))
  all_goals
    (obtain ⟨sb, esb⟩ : ∃ sb, sb = (s && decide (0 < m2)) := ⟨_, rfl⟩
     rw [← esb]
     have HSB : Hid (sb = (s && decide (0 < m2))) := esb
     clear esb
     go_wp2_with fail
     refine bodyPost_ret (v := .agg #[.bool sb, .slice (some ⟨g2, 0, none⟩) m2 m2]) (by rw [results_cell1 rfl]; go_simp) rfl ⟨_, m2, trimL zs, by rw [HSB.out], (HA2.out.setOther _ _ _ (by have := HG2.out; omega)).setOther _ _ _ (by have := HG2.out; omega), ?_, ?_, bSet (bSet HB2.out _ _ _ (by have := HHS.out; omega)) _ _ _ (by have := HHS.out; omega)⟩
     · rw [trimL_of_Top HN1.out.top]; exact HN1.out
     · have h1 := HM2.out; have h2 := HL1.out; rw [trimL_of_Top HN1.out.top] at h1; omega)
end Go.Proofs.YtgodajcnhipleaaGreatDoor

namespace Go.Proofs.YtgodajcnhipleaaGreatDoor
open Go.RowKit Go.Shelf

set_option maxRecDepth 20000 in
set_option maxHeartbeats 2000000 in
theorem to04_f {p : Option Addr} {n : Nat} {zs : List Nat} {a : Nat} {w : World} (h : At32 w p n n zs) (hx : Nf B32 zs a) (hn : n ≤ 35184372088832) :
    Calls Tryz.prog 44 #[.agg #[.bool false, .slice p n n]] w fun e w' => ∃ g k N us, e = .returned (ZV (false && decide (0 < n)) (some ⟨g, 0, none⟩) k N) ∧ At w' (some ⟨g, 0, none⟩) k N us ∧ Nf B64 us a ∧ w.heap.size ≤ g ∧ Below w.heap.size w w' := by
  have HX : Hid (Nf B32 zs a) := hx
  clear hx
  obtain ⟨sb, esb⟩ : ∃ sb, sb = (false && decide (0 < n)) := ⟨_, rfl⟩
  rw [← esb]
  have HSB : Hid (sb = (false && decide (0 < n))) := esb
  clear esb
  go_enter Tryz.func44, Tryz.ntmps44
  go_wp2_with fail
  have B0 : Box ((w.alloc (.cells #[.bool false, .slice p n n] 70)).alloc (.cells #[.bool false, .slice none 0 0] 28)) w.heap.size (.bool false) (.slice p n n) := ⟨by go_simp, by go_simp, by go_simp, by go_simp⟩
  have B1 : Box ((w.alloc (.cells #[.bool false, .slice p n n] 70)).alloc (.cells #[.bool false, .slice none 0 0] 28)) (w.heap.size + 1) (.bool false) (.slice none 0 0) := ⟨by go_simp, by go_simp, by go_simp, by go_simp⟩
  have hbw : Below w.heap.size w ((w.alloc (.cells #[.bool false, .slice p n n] 70)).alloc (.cells #[.bool false, .slice none 0 0] 28)) := below2 w _ _
  have hsW : ((w.alloc (.cells #[.bool false, .slice p n n] 70)).alloc (.cells #[.bool false, .slice none 0 0] 28)).heap.size = w.heap.size + 1 + 1 := by simp
  generalize ((w.alloc (.cells #[.bool false, .slice p n n] 70)).alloc (.cells #[.bool false, .slice none 0 0] 28)) = W at *
  obtain ⟨hs, ehs⟩ : ∃ hs, hs = w.heap.size := ⟨_, rfl⟩
  have HHS : Hid (hs = w.heap.size) := ehs
  rw [← ehs] at B0 B1 hsW ⊢
  have HSW : Hid (W.heap.size = hs + 1 + 1) := hsW
  have HBW : Hid (Below w.heap.size w W.drew) := bDrew hbw
  have HAT : Hid (At32 W.drew p n n zs) := (h.below hbw).drewN 1
  have X0 : Hid (Box W.drew hs (.bool false) (.slice p n n)) := ⟨B0.c0, B0.c1, B0.f0, B0.f1⟩
  have X1 : Hid (Box W.drew (hs + 1) (.bool false) (.slice none 0 0)) := ⟨B1.c0, B1.c1, B1.f0, B1.f1⟩
  obtain ⟨c00, c01, f00, f01⟩ := B0
  obtain ⟨c10, c11, f10, f11⟩ := B1
  clear ehs hsW hbw h
  have HF : Hid (sb = false) := by show _ = _; rw [HSB.out]; simp
  first | (go_region_with ((go_at_call 76; refine (rto_any HAT.out hn).mono ?_; rintro e w1 ⟨g1, k1, N1, us, rfl, hg1, hA1, hnf1, hb1⟩; obtain ⟨d00, d01, e00, e01⟩ := X0.out.below hb1; obtain ⟨d10, d11, e10, e11⟩ := X1.out.below hb1; have HA1 : Hid (At w1 (some ⟨g1, 0, none⟩) k1 N1 us) := hA1; have HN1 : Hid (Nf B64 us (valB B32 zs)) := hnf1; have HB1 : Hid (Below w.heap.size w w1) := Below.on HBW.out hb1; have HG1 : Hid (hs + 1 + 1 ≤ g1) := Nat.le_trans (Nat.le_of_eq HSW.out.symm) hg1; clear hA1 hnf1 hb1 hg1))) | fail
  all_goals
    (go_wp2_with fail
     refine bodyPost_ret (v := ZV false (some ⟨g1, 0, none⟩) k1 N1) (by rw [results_cell1 rfl]; go_simp) rfl ⟨g1, k1, N1, us, by rw [HF.out], (HA1.out.setOther _ _ _ (by have := HG1.out; omega)).setOther _ _ _ (by have := HG1.out; omega), ?_, by have := HG1.out; have := HHS.out; omega, bSet (bSet HB1.out _ _ _ (by have := HHS.out; omega)) _ _ _ (by have := HHS.out; omega)⟩
     have hq := HN1.out
     rw [HX.out.val] at hq; exact hq)
end Go.Proofs.YtgodajcnhipleaaGreatDoor

namespace Go.Proofs.YtgodajcnhipleaaGreatDoor
open Go.RowKit Go.Shelf

set_option maxRecDepth 20000 in
set_option maxHeartbeats 2000000 in
theorem to04_p {p : Option Addr} {n : Nat} {zs : List Nat} {a : Nat} {w : World} (h : At32 w p n n zs) (hx : Nf B32 zs a) (hn : n ≤ 35184372088832) (h0 : 0 < n) :
    Calls Tryz.prog 44 #[.agg #[.bool true, .slice p n n]] w fun e w' => ∃ g k N us, e = .returned (ZV (true && decide (0 < n)) (some ⟨g, 0, none⟩) k N) ∧ At w' (some ⟨g, 0, none⟩) k N us ∧ Nf B64 us a ∧ w.heap.size ≤ g ∧ Below w.heap.size w w' := by
  have HX : Hid (Nf B32 zs a) := hx
  clear hx
  obtain ⟨sb, esb⟩ : ∃ sb, sb = (true && decide (0 < n)) := ⟨_, rfl⟩
  rw [← esb]
  have HSB : Hid (sb = (true && decide (0 < n))) := esb
  clear esb
  go_enter Tryz.func44, Tryz.ntmps44
  go_wp2_with fail
  have B0 : Box ((w.alloc (.cells #[.bool true, .slice p n n] 70)).alloc (.cells #[.bool false, .slice none 0 0] 28)) w.heap.size (.bool true) (.slice p n n) := ⟨by go_simp, by go_simp, by go_simp, by go_simp⟩
  have B1 : Box ((w.alloc (.cells #[.bool true, .slice p n n] 70)).alloc (.cells #[.bool false, .slice none 0 0] 28)) (w.heap.size + 1) (.bool false) (.slice none 0 0) := ⟨by go_simp, by go_simp, by go_simp, by go_simp⟩
  have hbw : Below w.heap.size w ((w.alloc (.cells #[.bool true, .slice p n n] 70)).alloc (.cells #[.bool false, .slice none 0 0] 28)) := below2 w _ _
  have hsW : ((w.alloc (.cells #[.bool true, .slice p n n] 70)).alloc (.cells #[.bool false, .slice none 0 0] 28)).heap.size = w.heap.size + 1 + 1 := by simp
  generalize ((w.alloc (.cells #[.bool true, .slice p n n] 70)).alloc (.cells #[.bool false, .slice none 0 0] 28)) = W at *
  obtain ⟨hs, ehs⟩ : ∃ hs, hs = w.heap.size := ⟨_, rfl⟩
  have HHS : Hid (hs = w.heap.size) := ehs
  rw [← ehs] at B0 B1 hsW ⊢
  have HSW : Hid (W.heap.size = hs + 1 + 1) := hsW
  have HBW : Hid (Below w.heap.size w W.drew) := bDrew hbw
  have HAT : Hid (At32 W.drew p n n zs) := (h.below hbw).drewN 1
  have X0 : Hid (Box W.drew hs (.bool true) (.slice p n n)) := ⟨B0.c0, B0.c1, B0.f0, B0.f1⟩
  have X1 : Hid (Box W.drew (hs + 1) (.bool false) (.slice none 0 0)) := ⟨B1.c0, B1.c1, B1.f0, B1.f1⟩
  obtain ⟨c00, c01, f00, f01⟩ := B0
  obtain ⟨c10, c11, f10, f11⟩ := B1
  clear ehs hsW hbw h
  have HF : Hid (sb = true) := by show _ = _; rw [HSB.out]; simp [h0]
  have hd0 : decide ((0 : Int) < (n : Int)) = true := decide_eq_true (by omega)
  first | (go_region_with ((go_at_call 76; refine (rto_any HAT.out hn).mono ?_; rintro e w1 ⟨g1, k1, N1, us, rfl, hg1, hA1, hnf1, hb1⟩; obtain ⟨d00, d01, e00, e01⟩ := X0.out.below hb1; obtain ⟨d10, d11, e10, e11⟩ := X1.out.below hb1; have HA1 : Hid (At w1 (some ⟨g1, 0, none⟩) k1 N1 us) := hA1; have HN1 : Hid (Nf B64 us (valB B32 zs)) := hnf1; have HB1 : Hid (Below w.heap.size w w1) := Below.on HBW.out hb1; have HG1 : Hid (hs + 1 + 1 ≤ g1) := Nat.le_trans (Nat.le_of_eq HSW.out.symm) hg1; clear hA1 hnf1 hb1 hg1))) | fail
  all_goals
    (go_wp2_with fail
     refine bodyPost_ret (v := ZV true (some ⟨g1, 0, none⟩) k1 N1) (by rw [results_cell1 rfl]; go_simp) rfl ⟨g1, k1, N1, us, by rw [HF.out], (HA1.out.setOther _ _ _ (by have := HG1.out; omega)).setOther _ _ _ (by have := HG1.out; omega), ?_, by have := HG1.out; have := HHS.out; omega, bSet (bSet HB1.out _ _ _ (by have := HHS.out; omega)) _ _ _ (by have := HHS.out; omega)⟩
     have hq := HN1.out
     rw [HX.out.val] at hq; exact hq)
end Go.Proofs.YtgodajcnhipleaaGreatDoor

namespace Go.Proofs.YtgodajcnhipleaaGreatDoor
open Go.RowKit Go.Shelf

/-- What a pair told of the whole number z holds. -/
def Told (z : Int) (s : Bool) (m : Nat) (zs : List Nat) (er : Int) : Prop :=
  (z.natAbs < LIM ∧ s = decide (z < 0) ∧ Nf B64 zs z.natAbs ∧ m ≤ 8192 ∧ er = 0) ∨ (LIM ≤ z.natAbs ∧ s = false ∧ zs = [] ∧ m = 0 ∧ er = 5)
theorem AnsI.any {B : Nat} {w' : World} {e : Ending} {z : Int} (h : AnsI B w' e z) : ∃ s p m zs er, e = .returned (.tuple #[ZV s p m m, .int .i64 er]) ∧ At w' p m m zs ∧ Told z s m zs er := by
  rcases h with ⟨hz, p, m, zs, rfl, ho, hn, hm⟩ | ⟨hz, rfl⟩
  · exact ⟨_, p, m, zs, 0, rfl, ho.at_ hm, .inl ⟨hz, rfl, hn, hm, rfl⟩⟩
  · exact ⟨false, none, 0, [], 5, rfl, At.empty _ none 0 (by decide), .inr ⟨hz, rfl, rfl, rfl, rfl⟩⟩
theorem Told.inj {z : Int} {s s' : Bool} {m m' : Nat} {zs zs' : List Nat} {er er' : Int} (h : Told z s m zs er) (k : Told z s' m' zs' er') : s = s' ∧ zs = zs' ∧ er = er' := by
  rcases h with ⟨hz, rfl, hn, hm, rfl⟩ | ⟨hz, rfl, rfl, rfl, rfl⟩ <;> rcases k with ⟨kz, rfl, kn, km, rfl⟩ | ⟨kz, rfl, rfl, rfl, rfl⟩
  · exact ⟨rfl, hn.inj B64_one kn, rfl⟩
  · omega
  · omega
  · exact ⟨rfl, rfl, rfl⟩
theorem Told.er {z : Int} {s : Bool} {m : Nat} {zs : List Nat} {er : Int} (h : Told z s m zs er) : er = 0 ∨ er = 5 := by
  rcases h with ⟨_, _, _, _, rfl⟩ | ⟨_, _, _, _, rfl⟩
  · exact .inl rfl
  · exact .inr rfl
theorem Told.ok {z : Int} {s : Bool} {m : Nat} {zs : List Nat} {w : World} {p : Option Addr} (h : Told z s m zs 0) (a : At w p m m zs) : Num w p m m zs z.natAbs ∧ s = decide (z < 0) := by
  rcases h with ⟨_, h1, h2, h3, _⟩ | ⟨_, _, _, _, h⟩
  · exact ⟨⟨a, h2, h3⟩, h1⟩
  · exact absurd h (by decide)
theorem Told.no {z : Int} {s : Bool} {m : Nat} {zs : List Nat} (h : Told z s m zs 5) : LIM ≤ z.natAbs := by
  rcases h with ⟨_, _, _, _, h⟩ | ⟨h, _⟩
  · exact absurd h (by decide)
  · exact h
theorem iv_abs (z : Int) : iv (decide (z < 0)) z.natAbs = z := by
  unfold iv
  by_cases h : z < 0
  · simp only [h, decide_true, if_true]; omega
  · simp only [h, decide_false, Bool.false_eq_true, if_false]; omega
theorem iv_natAbs (s : Bool) (a : Nat) : (iv s a).natAbs = a := by cases s <;> simp [iv]
theorem to04_any {p : Option Addr} {n : Nat} {zs : List Nat} {a : Nat} {w : World} (b : Bool) (h : At32 w p n n zs) (hx : Nf B32 zs a) (hn : n ≤ 35184372088832) (h0 : b = true → 0 < n) :
    Calls Tryz.prog 44 #[.agg #[.bool b, .slice p n n]] w fun e w' => ∃ g k N us, e = .returned (ZV b (some ⟨g, 0, none⟩) k N) ∧ At w' (some ⟨g, 0, none⟩) k N us ∧ Nf B64 us a ∧ w.heap.size ≤ g ∧ Below w.heap.size w w' := by
  cases b
  · exact to04_f h hx hn
  · have := to04_p h hx hn (h0 rfl)
    rwa [decide_eq_true (h0 rfl)] at this

end Go.Proofs.YtgodajcnhipleaaGreatDoor

namespace Go.Proofs.YtgodajcnhipleaaGreatDoor
open Go.RowKit Go.Shelf

/-- What SubMul has done at place k. -/
structure SubMulRel (w : World) (g off m : Nat) (zs ys : List Nat) (v k cy : Nat) (dk : List Nat) (wr : World) : Prop where
  wrs : Wr g off m w wr
  row : Row wr g off m dk
  hi : dk.drop k = zs.drop k
  car : cy < B64
  sum : valB B64 (zs.take k) + B64 ^ k * cy = valB B64 (dk.take k) + valB B64 (ys.take k) * v

theorem SubMulRel.step {w : World} {g off m : Nat} {zs ys : List Nat} {v k cy : Nat} {dk : List Nat} {wr : World} (h : SubMulRel w g off m zs ys v k cy dk wr) (hk : k < m)
    {x z l d : Nat} (hz : z = dk.getD k 0) (hx : x = ys.getD k 0) (hs : l + x * v + cy = z + B64 * d) (hl : l < B64) (hd : d < B64) :
    SubMulRel w g off m zs ys v (k + 1) d (dk.set k l) (wr.setCell ⟨g, off + k, none⟩ (U l)) := by
  have hlen := h.row.len
  refine ⟨h.wrs.setCell (off + k) ⟨by omega, by omega⟩ _, h.row.set k l hk hl, ?_, hd, ?_⟩
  · rw [drop_set_lt]; exact drop_succ_of_drop h.hi
  · have hzz : z = zs.getD k 0 := hz.trans (getD_of_drop h.hi)
    rw [take_set_succ dk k l (by omega), valB_snoc, List.length_take, hlen, Nat.min_eq_left (by omega), valB_take_any _ zs k, valB_take_any _ ys k, ← hzz, ← hx, Nat.pow_succ, Nat.add_mul]
    have e1 := h.sum
    have e2 : B64 ^ k * (l + x * v + cy) = B64 ^ k * (z + B64 * d) := by rw [hs]
    rw [Nat.mul_add, Nat.mul_add, Nat.mul_add, ← Nat.mul_assoc] at e2
    have e3 : B64 ^ k * x * v = B64 ^ k * (x * v) := Nat.mul_assoc _ _ _
    have e4 : B64 ^ k * B64 * d = B64 ^ k * (B64 * d) := Nat.mul_assoc _ _ _
    rw [e3, e4]
    rw [← Nat.mul_assoc] at e2
    generalize B64 ^ k * x * v = X0 at *
    generalize B64 ^ k * (x * v) = X1 at *
    generalize B64 ^ k * B64 * d = X2 at *
    generalize B64 ^ k * (B64 * d) = X3 at *
    generalize B64 ^ k * z = X4 at *
    generalize B64 ^ k * cy = X5 at *
    generalize B64 ^ k * l = X6 at *
    omega

end Go.Proofs.YtgodajcnhipleaaGreatDoor

namespace Go.Proofs.YtgodajcnhipleaaGreatDoor
open Go.RowKit

end Go.Proofs.YtgodajcnhipleaaGreatDoor

namespace Go.Proofs.YtgodajcnhipleaaGreatDoor
open Go.RowKit Go.Shelf

theorem trial_step {q d l f s w0 w1 w2 : Nat} (h : q * (s + B64 * f) ≤ w0 + B64 * (w1 + B64 * w2)) (hi : d * f + l = w1 + B64 * w2) (hg : l * B64 + w0 < d * s) : q < d := by
  have h1 : d * (s + B64 * f) = d * s + B64 * (d * f) := by rw [Nat.mul_add, Nat.mul_left_comm]
  have h2 : B64 * (d * f) + B64 * l = B64 * (w1 + B64 * w2) := by rw [← Nat.mul_add, hi]
  have h3 : l * B64 = B64 * l := Nat.mul_comm _ _
  have h4 : q * (s + B64 * f) < d * (s + B64 * f) := by omega
  exact Nat.lt_of_mul_lt_mul_right h4
/-- What trial needs of its two lists. -/
structure TrialC (ws ds : List Nat) (n w0 w1 w2 s f q : Nat) : Prop where
  e0 : w0 = ws.getD (n - 2) 0
  e1 : w1 = ws.getD (n - 1) 0
  e2 : w2 = ws.getD n 0
  es : s = ds.getD (n - 2) 0
  ef : f = ds.getD (n - 1) 0
  b0 : w0 < B64
  b1 : w1 < B64
  b2 : w2 < B64
  bs : s < B64
  bf : f < B64
  top : q * (s + B64 * f) ≤ w0 + B64 * (w1 + B64 * w2)
  le : w2 ≤ f
  qb : q < B64
theorem At.cellAt {w : World} {g off n c : Nat} {xs : List Nat} (h : At w (some ⟨g, off, none⟩) n c xs) (j : Nat) (hj : j < n) : w.cell? ⟨g, off + j, none⟩ = some (U (xs.getD j 0)) := by
  obtain ⟨g', o', he, hcell⟩ := h.cells.resolve_left (by omega)
  simp only [Option.some.injEq, Addr.mk.injEq, and_true] at he
  obtain ⟨rfl, rfl⟩ := he
  exact hcell j hj

/-- The state of trial's loop. -/
structure TrialR (w1 w2 f q d l o : Nat) : Prop where
  qd : q ≤ d
  db : d < B64
  lb : l < B64
  ob : o ≤ 1
  sum : o = 0 → d * f + l = w1 + B64 * w2
theorem TrialR.down {w0 w1 w2 s f q d l o l' o' : Nat} (h : TrialR w1 w2 f q d l o) {ws ds : List Nat} {n : Nat} (c : TrialC ws ds n w0 w1 w2 s f q) (ho : o = 0) (hg : l * B64 + w0 < d * s) (ha : l + f + 0 = l' + B64 * o') (hl' : l' < B64) (ho' : o' ≤ 1) : 1 ≤ d ∧ TrialR w1 w2 f q (d - 1) l' o' := by
  have h1 := trial_step c.top (h.sum ho) hg
  have h2 := h.db
  refine ⟨by omega, by omega, by omega, hl', ho', fun h0 => ?_⟩
  subst h0
  have h3 := h.sum ho
  have h4 : d * f = (d - 1) * f + f := by rw [← Nat.succ_mul, show (d - 1).succ = d by omega]
  omega

end Go.Proofs.YtgodajcnhipleaaGreatDoor

namespace Go.Proofs.YtgodajcnhipleaaGreatDoor
open Go.RowKit

set_option maxRecDepth 20000 in
set_option maxHeartbeats 400000 in
theorem docform_any {p : Option Addr} {n c : Nat} {xs : List Nat} {w : World} (h : At w p n c xs) :
    Calls Tryz.prog 52 #[.slice p n c] w fun e w' => e = .returned (.bool (formB xs)) ∧ w' = w := by
  have hl := h.len; have hcap := h.cap; have hbig := h.big
  unfold maxLen at hbig
  by_cases h1 : n ≤ 8192
  · by_cases h0 : n = 0
    · subst h0
      have hf : formB xs = true := by unfold formB; rw [decide_eq_true_iff]; omega
      have HF : Hid (formB xs = true) := hf
      clear hf hl
      go_enter Tryz.func52, Tryz.ntmps52
      go_wp2
      go_ret
      exact ⟨ret_bool HF.out.symm, rfl⟩
    · obtain ⟨g, off, rfl, hc⟩ := h.cells.resolve_left h0
      obtain ⟨x, hx⟩ : ∃ x, x = xs.getD (n - 1) 0 := ⟨_, rfl⟩
      have hcx : w.cell? ⟨g, off + (n - 1), none⟩ = some (U x) := by rw [hx]; exact hc _ (by omega)
      have h0' : ((n : Int) == 0) = false := by simp; omega
      have hf : formB xs = ((x : Int) != 0) := by
        unfold formB
        rw [hl, ← hx]
        by_cases e : x = 0
        · simp [e, h0]
        · simp [e, h1]
      have HF : Hid (formB xs = ((x : Int) != 0)) := hf
      clear hf hl hx hc
      go_enter Tryz.func52, Tryz.ntmps52
      go_wp2
      go_ret
      exact ⟨ret_bool HF.out.symm, rfl⟩
  · have hf : formB xs = false := by unfold formB; rw [decide_eq_false_iff_not]; omega
    have HF : Hid (formB xs = false) := hf
    clear hf hl
    go_enter Tryz.func52, Tryz.ntmps52
    go_wp2
    go_ret
    exact ⟨ret_bool HF.out.symm, rfl⟩

end Go.Proofs.YtgodajcnhipleaaGreatDoor

namespace Go.Proofs.YtgodajcnhipleaaGreatDoor
open Go.RowKit Go.Shelf

end Go.Proofs.YtgodajcnhipleaaGreatDoor

namespace Go.Proofs.YtgodajcnhipleaaGreatDoor
open Go.RowKit Go.Shelf

/-- One window: what it holds once k digits' worth too many have been given back. -/
structure WinRel (w : World) (g off n : Nat) (W D d b : Nat) (ws : List Nat) (wr : World) : Prop where
  wrs : Wr g off (n + 1) w wr
  row : Row wr g off (n + 1) ws
  db : d < B64
  bb : b ≤ 1
  ge : W / D ≤ d
  sum : valB B64 ws + D * d = W + B64 ^ (n + 1) * b
theorem WinRel.done {w : World} {g off n W D d : Nat} {ws : List Nat} {wr : World} (h : WinRel w g off n W D d 0 ws wr) (hD : 0 < D) : d = W / D ∧ valB B64 ws = W % D := by
  have h1 := h.sum; have h2 := h.ge
  rw [Nat.mul_zero, Nat.add_zero] at h1
  have h3 : d ≤ W / D := (Nat.le_div_iff_mul_le hD).2 (by rw [Nat.mul_comm]; omega)
  have h4 : d = W / D := by omega
  refine ⟨h4, ?_⟩
  have h5 := Nat.div_add_mod W D
  rw [← h4] at h5
  omega
/-- What takeDigits has done when the digits from place L - k on are taken. -/
structure DigRel (w : World) (gq gr L n : Nat) (A D : Nat) (k : Nat) (qs rs : List Nat) (wr : World) : Prop where
  bel : ∀ B, B ≤ gq → B ≤ gr → Below B w wr
  rowq : Row wr gq 0 L qs
  rowr : Row wr gr 0 (L + n) rs
  cell : ∀ b o, b ≠ gq → b ≠ gr → wr.cell? ⟨b, o, none⟩ = w.cell? ⟨b, o, none⟩
  lt : valB B64 (rs.drop (L - k)) < D
  sum : valB B64 rs + B64 ^ (L - k) * valB B64 (qs.drop (L - k)) * D = A

theorem win_take (rs : List Nat) (a m : Nat) (h : a + m ≤ rs.length) : valB B64 rs = valB B64 (rs.take a) + B64 ^ a * (valB B64 ((rs.drop a).take m) + B64 ^ m * valB B64 (rs.drop (a + m))) := by
  rw [valB_split B64 rs a (by omega), valB_split B64 (rs.drop a) m (by rw [List.length_drop]; omega), List.drop_drop]
/-- The new list once a window has turned. -/
def winPut (rs ws : List Nat) (a : Nat) : List Nat := rs.take a ++ ws ++ rs.drop (a + ws.length)
theorem winPut_len (rs ws : List Nat) (a : Nat) (h : a + ws.length ≤ rs.length) : (winPut rs ws a).length = rs.length := by
  unfold winPut; simp; omega
theorem winPut_drop (rs ws : List Nat) (a : Nat) (h : a + ws.length ≤ rs.length) : (winPut rs ws a).drop a = ws ++ rs.drop (a + ws.length) := by
  unfold winPut
  rw [List.append_assoc, List.drop_append_of_le_length (by simp; omega), List.drop_of_length_le (by simp; omega), List.nil_append]
theorem winPut_take (rs ws : List Nat) (a : Nat) (h : a + ws.length ≤ rs.length) : (winPut rs ws a).take a = rs.take a := by
  unfold winPut
  rw [List.append_assoc, List.take_append_of_le_length (by simp; omega), List.take_take, Nat.min_self]
theorem winPut_get (rs ws : List Nat) (a j : Nat) (h : a + ws.length ≤ rs.length) : (winPut rs ws a).getD j 0 = if a ≤ j ∧ j < a + ws.length then ws.getD (j - a) 0 else rs.getD j 0 := by
  unfold winPut
  rw [List.getD_eq_getElem?_getD, List.getElem?_append, List.getElem?_append]
  simp only [List.length_append, List.length_take, Nat.min_eq_left (by omega : a ≤ rs.length)]
  by_cases h1 : j < a
  · rw [if_pos (by omega), if_pos (by omega), List.getElem?_take, if_pos h1, if_neg (by omega), List.getD_eq_getElem?_getD]
  · by_cases h2 : j < a + ws.length
    · rw [if_pos h2, if_neg h1, if_pos ⟨by omega, h2⟩, List.getD_eq_getElem?_getD]
    · rw [if_neg h2, if_neg (by omega), List.getElem?_drop, List.getD_eq_getElem?_getD]
      congr 2; omega

end Go.Proofs.YtgodajcnhipleaaGreatDoor

namespace Go.Proofs.YtgodajcnhipleaaGreatDoor
open Go.RowKit

/-- What shiftUp has done when k places from the top are done. -/
structure UpRel (w : World) (g n : Nat) (zs : List Nat) (s ov k : Nat) (dk : List Nat) (wr : World) : Prop where
  wrs : Wr g 0 n w wr
  row : Row wr g 0 n dk
  lo : dk.take (n - k) = zs.take (n - k)
  sum : valB B64 (dk.drop (n - k)) + B64 ^ k * ov = 2 ^ s * valB B64 (zs.drop (n - k)) + cin zs s (n - k)

theorem getD_of_take {dk zs : List Nat} {m j : Nat} (h : dk.take m = zs.take m) (hj : j < m) : dk.getD j 0 = zs.getD j 0 := by
  have := congrArg (fun l : List Nat => l[j]?) h
  simp only [List.getElem?_take, hj, if_true] at this
  rw [List.getD_eq_getElem?_getD, List.getD_eq_getElem?_getD, this]
theorem drop_set_at (dk : List Nat) (a y : Nat) (ha : a < dk.length) : (dk.set a y).drop a = y :: dk.drop (a + 1) := by
  rw [drop_getD _ a (by simpa using ha), getD_set dk a y a ha, if_pos rfl, drop_set_lt]
theorem take_set_at (dk : List Nat) (a y : Nat) : (dk.set a y).take a = dk.take a := by
  rw [List.take_set, List.set_eq_of_length_le (by simp; omega)]
theorem take_of_take {dk zs : List Nat} {m j : Nat} (h : dk.take m = zs.take m) (hj : j ≤ m) : dk.take j = zs.take j := by
  have := congrArg (List.take j) h
  rw [List.take_take, List.take_take, Nat.min_eq_left hj] at this
  exact this

theorem UpRel.step {w : World} {g n : Nat} {zs : List Nat} {s ov k : Nat} {dk : List Nat} {wr wr' : World} (h : UpRel w g n zs s ov k dk wr) (hk : k < n) (hz : zs.length = n) {d : Nat}
    (hd : d = shlW (dk.getD (n - 1 - k) 0) s + cin zs s (n - 1 - k)) (hw : Wr g 0 n w wr') (hr : Row wr' g 0 n (dk.set (n - 1 - k) d)) : UpRel w g n zs s ov (k + 1) (dk.set (n - 1 - k) d) wr' := by
  have hl := h.row.len
  have e : n - (k + 1) = n - 1 - k := by omega
  have e2 : n - 1 - k + 1 = n - k := by omega
  refine ⟨hw, hr, ?_, ?_⟩
  · rw [e, take_set_at]; exact take_of_take h.lo (by omega)
  · rw [e, drop_set_at dk _ d (by omega), e2]
    have h1 := h.sum
    rw [← e2] at h1
    have hdz : d = shlW (zs.getD (n - 1 - k) 0) s + cin zs s (n - 1 - k) := by rw [hd, getD_of_take h.lo (by omega)]
    rw [← e2]
    exact up_step (by omega) hdz h1

end Go.Proofs.YtgodajcnhipleaaGreatDoor

namespace Go.Proofs.YtgodajcnhipleaaGreatDoor
open Go.RowKit Go.Shelf

theorem Row.win {w : World} {g m : Nat} {rs : List Nat} (h : Row w g 0 m rs) (a l : Nat) (ha : a + l ≤ m) : Row w g a l ((rs.drop a).take l) := by
  have hl := h.len
  refine ⟨by simp; omega, (h.dig.drop a).take l, fun j hj => ?_, fun j hj => ?_⟩
  · have e : ((rs.drop a).take l).getD j 0 = rs.getD (a + j) 0 := by
      rw [List.getD_eq_getElem?_getD, List.getD_eq_getElem?_getD, List.getElem?_take, if_pos hj, List.getElem?_drop]
    rw [e]
    have := h.cell (a + j) (by omega)
    rw [Nat.zero_add] at this; exact this
  · have := h.frozen (a + j) (by omega)
    rw [Nat.zero_add] at this; exact this
theorem Row.put {w w' : World} {g m a l : Nat} {rs ws : List Nat} (h : Row w g 0 m rs) (hwr : Wr g a l w w') (hr : Row w' g a l ws) (ha : a + l ≤ m) : Row w' g 0 m (winPut rs ws a) := by
  have hl := h.len; have hwl := hr.len
  have hle : a + ws.length ≤ rs.length := by omega
  refine ⟨by rw [winPut_len rs ws a hle]; exact hl, ?_, fun j hj => ?_, fun j hj => ?_⟩
  · unfold winPut; exact ((h.dig.take a).append hr.dig).append (h.dig.drop _)
  · rw [winPut_get rs ws a j hle, Nat.zero_add]
    by_cases hc : a ≤ j ∧ j < a + ws.length
    · rw [if_pos hc]
      have := hr.cell (j - a) (by omega)
      rw [show a + (j - a) = j by omega] at this; exact this
    · rw [if_neg hc, hwr.cell g j (by omega)]
      have := h.cell j hj
      rw [Nat.zero_add] at this; exact this
  · rw [hwr.frozen]; exact h.frozen j hj
theorem Row.other {w : World} {g off n : Nat} {xs : List Nat} (h : Row w g off n xs) (g2 o2 : Nat) (v : Value) (hne : g ≠ g2) : Row (w.setCell ⟨g2, o2, none⟩ v) g off n xs := by
  refine ⟨h.len, h.dig, fun j hj => ?_, fun j hj => by rw [World.frozen?_setCell]; exact h.frozen j hj⟩
  exact (World.cell?_setCell_other _ _ _ _ (by intro e; apply hne; have := congrArg Addr.block e; simp at this; omega)).trans (h.cell j hj)
theorem Row.wr {w w' : World} {g off n g2 o2 l2 : Nat} {xs : List Nat} (h : Row w g off n xs) (hwr : Wr g2 o2 l2 w w') (hne : g ≠ g2) : Row w' g off n xs :=
  ⟨h.len, h.dig, fun j hj => (hwr.cell g (off + j) (.inl hne)).trans (h.cell j hj), fun j hj => (hwr.frozen _).trans (h.frozen j hj)⟩
theorem At.wr {w w' : World} {g off n c g2 o2 l2 : Nat} {xs : List Nat} (h : At w (some ⟨g, off, none⟩) n c xs) (hwr : Wr g2 o2 l2 w w') (hne : g ≠ g2) : At w' (some ⟨g, off, none⟩) n c xs :=
  ⟨h.len, h.cap, h.big, h.dig, by
    rcases h.cells with h0 | ⟨g', o', he, hc⟩
    · exact .inl h0
    · refine .inr ⟨g', o', he, fun j hj => ?_⟩
      simp only [Option.some.injEq, Addr.mk.injEq, and_true] at he
      rw [← he.1, ← he.2] at hc ⊢
      exact (hwr.cell g (off + j) (.inl hne)).trans (hc j hj)⟩
theorem dig_abs {P W q r D T Q A : Nat} (hW : q * D + r = W) (h : T + P * W + P * B64 * Q * D = A) : T + P * r + P * (q + B64 * Q) * D = A := by
  subst hW
  have e1 : P * (q + B64 * Q) * D = P * (q * D) + P * B64 * Q * D := by
    rw [Nat.mul_add, Nat.add_mul, Nat.mul_assoc P q D, ← Nat.mul_assoc P B64 Q]
  rw [e1]
  rw [Nat.mul_add] at h
  omega
/-- The window at the next place. -/
theorem DigRel.window {w : World} {gq gr L n A D k : Nat} {qs rs : List Nat} {wr : World} (h : DigRel w gq gr L n A D k qs rs wr) (hk : k < L) (hDn : D < B64 ^ n) :
    ∃ a ws, a = L - 1 - k ∧ ws = (rs.drop a).take (n + 1) ∧ Row wr gr a (n + 1) ws ∧ valB B64 ws < B64 * D ∧ valB B64 rs = valB B64 (rs.take a) + B64 ^ a * valB B64 ws ∧ valB B64 (rs.drop (a + (n + 1))) = 0 := by
  have hl := h.rowr.len
  obtain ⟨a, ha⟩ : ∃ a, a = L - 1 - k := ⟨_, rfl⟩
  have hlt := h.lt
  rw [show L - k = a + 1 by omega] at hlt
  have hz : valB B64 (rs.drop (a + (n + 1))) = 0 := by
    have hs := valB_split B64 (rs.drop (a + 1)) n (by rw [List.length_drop]; omega)
    rw [List.drop_drop, show a + 1 + n = a + (n + 1) by omega] at hs
    rcases Nat.eq_zero_or_pos (valB B64 (rs.drop (a + (n + 1)))) with e | e
    · exact e
    · exfalso
      have : B64 ^ n * 1 ≤ B64 ^ n * valB B64 (rs.drop (a + (n + 1))) := Nat.mul_le_mul_left _ e
      omega
  have hw := win_take rs a (n + 1) (by omega)
  rw [hz, Nat.mul_zero, Nat.add_zero] at hw
  refine ⟨a, _, ha, rfl, h.rowr.win a (n + 1) (by omega), ?_, hw, hz⟩
  have hs := valB_split B64 (rs.drop a) (n + 1) (by rw [List.length_drop]; omega)
  rw [List.drop_drop, hz, Nat.mul_zero, Nat.add_zero] at hs
  rw [← hs, valB_drop B64 rs a (by omega)]
  have hb := h.rowr.dig.getD B64_pos a
  have : B64 * (valB B64 (rs.drop (a + 1)) + 1) ≤ B64 * D := Nat.mul_le_mul_left _ hlt
  rw [Nat.mul_add] at this
  omega
theorem DigRel.step {w : World} {gq gr L n A D k : Nat} {qs rs : List Nat} {wr wr' : World} (h : DigRel w gq gr L n A D k qs rs wr) (hk : k < L) (hne : gq ≠ gr) {a q : Nat} {ws ws' : List Nat} (ha : a = L - 1 - k)
    (hrs : valB B64 rs = valB B64 (rs.take a) + B64 ^ a * valB B64 ws) (hz : valB B64 (rs.drop (a + (n + 1))) = 0) (hD : 0 < D) (hq : q = valB B64 ws / D) (hqb : q < B64) (hr : valB B64 ws' = valB B64 ws % D)
    (hwr : Wr gr a (n + 1) wr wr') (hrow : Row wr' gr a (n + 1) ws') : DigRel w gq gr L n A D (k + 1) (qs.set a q) (winPut rs ws' a) (wr'.setCell ⟨gq, a, none⟩ (U q)) := by
  have hl := h.rowr.len; have hql := h.rowq.len; have hwl := hrow.len
  have hle : a + ws'.length ≤ rs.length := by omega
  have e1 : L - (k + 1) = a := by omega
  have e2 : L - k = a + 1 := by omega
  have hdrop : valB B64 ((winPut rs ws' a).drop a) = valB B64 ws % D := by
    rw [winPut_drop rs ws' a hle, valB_append, hwl, hz, Nat.mul_zero, Nat.add_zero, hr]
  refine ⟨fun B h1 h2 => ?_, ?_, ?_, fun b o h1 h2 => ?_, ?_, ?_⟩
  · exact ((h.bel B h1 h2).trans (hwr.below h2)).trans ((Wr.refl gq 0 L wr').setCell a ⟨by omega, by omega⟩ (U q) |>.below h1)
  · have := (h.rowq.wr hwr hne).set a q (by omega) hqb
    rw [Nat.zero_add] at this; exact this
  · exact (h.rowr.put hwr hrow (by omega)).other gq a _ (Ne.symm hne)
  · rw [World.cell?_setCell_other _ _ _ _ (by intro e; apply h1; have := congrArg Addr.block e; simp at this; omega), hwr.cell b o (.inl h2)]
    exact h.cell b o h1 h2
  · rw [e1, hdrop]; exact Nat.mod_lt _ hD
  · have hs := h.sum
    rw [e2, hrs, Nat.pow_succ] at hs
    rw [e1, valB_split B64 (winPut rs ws' a) a (by rw [winPut_len rs ws' a hle]; omega), winPut_take rs ws' a hle, hdrop, drop_set_at qs a q (by omega), valB_cons]
    refine dig_abs (W := valB B64 ws) (q := q) ?_ hs
    rw [hq, Nat.mul_comm]; exact Nat.div_add_mod _ _

end Go.Proofs.YtgodajcnhipleaaGreatDoor

namespace Go.Proofs.YtgodajcnhipleaaGreatDoor
open Go.RowKit Go.Shelf

/-- A row of words of one's own: its cells hold xs and may be written. -/
structure Row32 (w : World) (g off n : Nat) (xs : List Nat) : Prop where
  len : xs.length = n
  dig : Dig B32 xs
  cell : ∀ j, j < n → w.cell? ⟨g, off + j, none⟩ = some (V (xs.getD j 0))
  frozen : ∀ j, j < n → w.frozen? ⟨g, off + j, none⟩ = false
theorem Row32.at_ {w : World} {g off n c : Nat} {xs : List Nat} (h : Row32 w g off n xs) (hc : n ≤ c) (hb : c ≤ maxLen) : At32 w (some ⟨g, off, none⟩) n c xs :=
  ⟨h.len, hc, hb, h.dig, .inr ⟨g, off, rfl, h.cell⟩⟩
theorem Row32.set {w : World} {g off n : Nat} {xs : List Nat} (h : Row32 w g off n xs) (k y : Nat) (hk : k < n) (hy : y < B32) : Row32 (w.setCell ⟨g, off + k, none⟩ (V y)) g off n (xs.set k y) := by
  refine ⟨by rw [List.length_set]; exact h.len, h.dig.set k hy, fun j hj => ?_, fun j hj => by rw [World.frozen?_setCell]; exact h.frozen j hj⟩
  rw [getD_set xs k y j (by rw [h.len]; exact hk)]
  by_cases e : j = k
  · subst e; rw [if_pos rfl]; exact World.cell?_setCell_same _ _ _ (h.cell j hj)
  · rw [if_neg e]
    exact (World.cell?_setCell_other _ _ _ _ (by intro e2; apply e; have := congrArg Addr.off e2; simp at this; omega)).trans (h.cell j hj)
theorem Row32.drewN {w : World} {g off n : Nat} {xs : List Nat} (h : Row32 w g off n xs) (q : Nat) : Row32 (w.drewN q) g off n xs := ⟨h.len, h.dig, h.cell, h.frozen⟩
theorem Row32.drew {w : World} {g off n : Nat} {xs : List Nat} (h : Row32 w g off n xs) : Row32 w.drew g off n xs := ⟨h.len, h.dig, h.cell, h.frozen⟩
theorem Blk32.frozen {w : World} {g : Nat} {xs : List Nat} (h : Blk32 w g xs) (j : Nat) : w.frozen? ⟨g, j, none⟩ = false := frozen_of_row w g j _ _ h
theorem Blk32.row {w : World} {g : Nat} {xs : List Nat} (h : Blk32 w g xs) (hd : Dig B32 xs) : Row32 w g 0 xs.length xs :=
  ⟨rfl, hd, fun j hj => by rw [Nat.zero_add]; exact h.cell j hj, fun j _ => h.frozen _⟩
theorem Row32.win {w : World} {g m : Nat} {rs : List Nat} (h : Row32 w g 0 m rs) (a l : Nat) (ha : a + l ≤ m) : Row32 w g a l ((rs.drop a).take l) := by
  have hl := h.len
  refine ⟨by simp; omega, (h.dig.drop a).take l, fun j hj => ?_, fun j hj => ?_⟩
  · have e : ((rs.drop a).take l).getD j 0 = rs.getD (a + j) 0 := by
      rw [List.getD_eq_getElem?_getD, List.getD_eq_getElem?_getD, List.getElem?_take, if_pos hj, List.getElem?_drop]
    rw [e]
    have := h.cell (a + j) (by omega)
    rw [Nat.zero_add] at this; exact this
  · have := h.frozen (a + j) (by omega)
    rw [Nat.zero_add] at this; exact this
theorem Row32.put {w w' : World} {g m a l : Nat} {rs ws : List Nat} (h : Row32 w g 0 m rs) (hwr : Wr g a l w w') (hr : Row32 w' g a l ws) (ha : a + l ≤ m) : Row32 w' g 0 m (winPut rs ws a) := by
  have hl := h.len; have hwl := hr.len
  have hle : a + ws.length ≤ rs.length := by omega
  refine ⟨by rw [winPut_len rs ws a hle]; exact hl, ?_, fun j hj => ?_, fun j hj => ?_⟩
  · unfold winPut; exact ((h.dig.take a).append hr.dig).append (h.dig.drop _)
  · rw [winPut_get rs ws a j hle, Nat.zero_add]
    by_cases hc : a ≤ j ∧ j < a + ws.length
    · rw [if_pos hc]
      have := hr.cell (j - a) (by omega)
      rw [show a + (j - a) = j by omega] at this; exact this
    · rw [if_neg hc, hwr.cell g j (by omega)]
      have := h.cell j hj
      rw [Nat.zero_add] at this; exact this
  · rw [hwr.frozen]; exact h.frozen j hj
theorem win_take32 (rs : List Nat) (a m : Nat) (h : a + m ≤ rs.length) : valB B32 rs = valB B32 (rs.take a) + B32 ^ a * (valB B32 ((rs.drop a).take m) + B32 ^ m * valB B32 (rs.drop (a + m))) := by
  rw [valB_split B32 rs a (by omega), valB_split B32 (rs.drop a) m (by rw [List.length_drop]; omega), List.drop_drop]

/-- What a row of ref.Mul has done at place k. -/
structure RMulRel (w : World) (g off m : Nat) (zs ys : List Nat) (v k cy : Nat) (dk : List Nat) (wr : World) : Prop where
  wrs : Wr g off m w wr
  row : Row32 wr g off m dk
  hi : dk.drop k = zs.drop k
  car : cy < B32
  sum : valB B32 (dk.take k) + B32 ^ k * cy = valB B32 (zs.take k) + valB B32 (ys.take k) * v
theorem RMulRel.step {w : World} {g off m : Nat} {zs ys : List Nat} {v k cy : Nat} {dk : List Nat} {wr : World} (h : RMulRel w g off m zs ys v k cy dk wr) (hk : k < m)
    {x z l d : Nat} (hz : z = dk.getD k 0) (hx : x = ys.getD k 0) (hs : x * v + z + cy = l + B32 * d) (hl : l < B32) (hd : d < B32) :
    RMulRel w g off m zs ys v (k + 1) d (dk.set k l) (wr.setCell ⟨g, off + k, none⟩ (V l)) := by
  have hlen := h.row.len
  refine ⟨h.wrs.setCell (off + k) ⟨by omega, by omega⟩ _, h.row.set k l hk hl, ?_, hd, ?_⟩
  · rw [drop_set_lt]; exact drop_succ_of_drop h.hi
  · have hzz : z = zs.getD k 0 := hz.trans (getD_of_drop h.hi)
    rw [take_set_succ dk k l (by omega), valB_snoc, List.length_take, hlen, Nat.min_eq_left (by omega), valB_take_any _ zs k, valB_take_any _ ys k, ← hzz, ← hx, Nat.pow_succ, Nat.add_mul]
    have e1 := h.sum
    have e2 : B32 ^ k * (x * v + z + cy) = B32 ^ k * (l + B32 * d) := by rw [hs]
    rw [Nat.mul_add, Nat.mul_add, Nat.mul_add, ← Nat.mul_assoc] at e2
    have e3 : B32 ^ k * x * v = B32 ^ k * (x * v) := Nat.mul_assoc _ _ _
    have e4 : B32 ^ k * B32 * d = B32 ^ k * (B32 * d) := Nat.mul_assoc _ _ _
    rw [e3, e4]
    rw [← Nat.mul_assoc] at e2
    generalize B32 ^ k * x * v = X0 at *
    generalize B32 ^ k * (x * v) = X1 at *
    generalize B32 ^ k * B32 * d = X2 at *
    generalize B32 ^ k * (B32 * d) = X3 at *
    generalize B32 ^ k * z = X4 at *
    generalize B32 ^ k * cy = X5 at *
    generalize B32 ^ k * l = X6 at *
    omega

theorem RMulRel.drewN {w : World} {g off m : Nat} {zs ys : List Nat} {v k cy : Nat} {dk : List Nat} {wr : World} (h : RMulRel w g off m zs ys v k cy dk wr) (q : Nat) : RMulRel w g off m zs ys v k cy dk (wr.drewN q) :=
  ⟨h.wrs.drewN q, h.row.drewN q, h.hi, h.car, h.sum⟩
theorem valB_set_zero (b : Nat) (xs : List Nat) (k y : Nat) (hk : k < xs.length) (h0 : xs.getD k 0 = 0) : valB b (xs.set k y) = valB b xs + b ^ k * y := by
  have h1 := valB_split b xs k (by omega)
  have h2 := valB_split b (xs.set k y) k (by simp; omega)
  rw [drop_set_at xs k y hk, take_set_at, valB_cons] at h2
  rw [valB_drop b xs k hk, h0] at h1
  rw [h2, h1, Nat.mul_add, Nat.zero_add]
  omega
theorem valB_drop_zero {b : Nat} (hb : 0 < b) {xs : List Nat} {k : Nat} (h : valB b (xs.drop k) = 0) : xs.getD k 0 = 0 ∧ valB b (xs.drop (k + 1)) = 0 := by
  by_cases hk : k < xs.length
  · rw [valB_drop b xs k hk] at h
    have h1 : b * valB b (xs.drop (k + 1)) = 0 := by omega
    refine ⟨by omega, ?_⟩
    rcases Nat.mul_eq_zero.1 h1 with e | e
    · omega
    · exact e
  · refine ⟨?_, ?_⟩
    · rw [List.getD_eq_getElem?_getD, List.getElem?_eq_none (by omega)]; rfl
    · rw [List.drop_of_length_le (by omega)]; rfl
/-- What ref.Mul has done when i digits of a are through. -/
structure RMulO (w : World) (g N m : Nat) (xs ys : List Nat) (i : Nat) (ps : List Nat) (wr : World) : Prop where
  bel : Below g w wr
  row : Row32 wr g 0 N ps
  val : valB B32 ps = valB B32 (xs.take i) * valB B32 ys
  zero : valB B32 (ps.drop (i + m)) = 0
theorem rmul_abs {P Y x T Z D V cy B m : Nat} (h1 : V = T + P * Z) (h2 : D + B ^ m * cy = Z + Y * x) : T + P * D + P * B ^ m * cy = V + P * (Y * x) := by
  have e1 : P * (D + B ^ m * cy) = P * (Z + Y * x) := by rw [h2]
  rw [Nat.mul_add, Nat.mul_add, ← Nat.mul_assoc] at e1
  omega
theorem RMulO.step {w : World} {g N m n : Nat} {xs ys : List Nat} {i : Nat} {ps : List Nat} {wr wr' : World} (h : RMulO w g N m xs ys i ps wr) (hi : i < n) (hN : N = n + m) (hx : xs.length = n) (hy : ys.length = m) {x cy : Nat} {dk : List Nat} (ex : x = xs.getD i 0) (hR : RMulRel wr g i m ((ps.drop i).take m) ys x m cy dk wr') :
    RMulO w g N m xs ys (i + 1) ((winPut ps dk i).set (i + m) cy) (wr'.setCell ⟨g, i + m, none⟩ (V cy)) := by
  have hl := h.row.len; have hdl := hR.row.len
  have hle : i + dk.length ≤ ps.length := by omega
  have hrow := h.row.put hR.wrs hR.row (by omega)
  have hz := valB_drop_zero B32_pos h.zero
  have hsum := hR.sum
  have t1 : dk.take m = dk := List.take_of_length_le (by omega)
  have t2 : ((ps.drop i).take m).take m = (ps.drop i).take m := by rw [List.take_take, Nat.min_self]
  have t3 : ys.take m = ys := List.take_of_length_le (by omega)
  rw [t1, t2, t3] at hsum
  have hv := win_take32 ps i m (by omega)
  rw [h.zero, Nat.mul_zero, Nat.add_zero] at hv
  have hv1 : valB B32 (winPut ps dk i) = valB B32 (ps.take i) + B32 ^ i * valB B32 dk := by
    rw [valB_split B32 (winPut ps dk i) i (by rw [winPut_len ps dk i hle]; omega), winPut_take ps dk i hle, winPut_drop ps dk i hle, valB_append, hdl, h.zero, Nat.mul_zero, Nat.add_zero]
  have hg0 : (winPut ps dk i).getD (i + m) 0 = 0 := by
    rw [winPut_get ps dk i (i + m) hle, if_neg (by omega)]; exact hz.1
  refine ⟨(h.bel.trans (hR.wrs.below (Nat.le_refl _))).trans (((Wr.refl g 0 N wr').setCell (i + m) ⟨by omega, by omega⟩ (V cy)).below (Nat.le_refl _)), ?_, ?_, ?_⟩
  · have := hrow.set (i + m) cy (by omega) hR.car
    rw [Nat.zero_add] at this; exact this
  · rw [valB_set_zero B32 _ (i + m) cy (by rw [winPut_len ps dk i hle]; omega) hg0, hv1, Nat.pow_add, rmul_abs hv hsum, h.val, valB_take_succ B32 xs i (by omega), ← ex, Nat.add_mul, Nat.mul_assoc, Nat.mul_comm (valB B32 ys) x]
  · rw [show i + 1 + m = i + m + 1 by omega, drop_set_lt]
    have e : (winPut ps dk i).drop (i + m + 1) = ps.drop (i + m + 1) := by
      have e1 : (winPut ps dk i).drop (i + m) = ps.drop (i + m) := by
        have := congrArg (List.drop dk.length) (winPut_drop ps dk i hle)
        rw [List.drop_drop, List.drop_left, hdl] at this
        exact this
      have := congrArg (List.drop 1) e1
      rw [List.drop_drop, List.drop_drop] at this; exact this
    rw [e]; exact hz.2
end Go.Proofs.YtgodajcnhipleaaGreatDoor

namespace Go.Proofs.YtgodajcnhipleaaGreatDoor
open Go.RowKit Go.Shelf

/-- What ref.Add has done when i digits are through. -/
structure RAddR (w : World) (g N M : Nat) (xs ys : List Nat) (i cy : Nat) (ss : List Nat) (wr : World) : Prop where
  bel : Below g w wr
  own : wr.ownsRow g 115 1 (.slice (some ⟨g, 0, none⟩) i N) i (cellsV ss)
  len : ss.length = i
  dig : Dig B32 ss
  car : cy ≤ 1
  fin : i ≤ M + 1
  last : i = M + 1 → cy = 0
  sum : valB B32 ss + B32 ^ i * cy = valB B32 (xs.take i) + valB B32 (ys.take i)
theorem radd_step {xs ys ss : List Nat} {i cy x y lo hh : Nat} (h : valB B32 ss + B32 ^ i * cy = valB B32 (xs.take i) + valB B32 (ys.take i)) (hl : ss.length = i) (ex : x = xs.getD i 0) (ey : y = ys.getD i 0) (hs : cy + x + y = lo + B32 * hh) :
    valB B32 (ss ++ [lo]) + B32 ^ (i + 1) * hh = valB B32 (xs.take (i + 1)) + valB B32 (ys.take (i + 1)) := by
  rw [valB_snoc, hl, valB_take_any _ xs i, valB_take_any _ ys i, ← ex, ← ey, Nat.pow_succ]
  have e1 : B32 ^ i * (cy + x + y) = B32 ^ i * (lo + B32 * hh) := by rw [hs]
  rw [Nat.mul_add, Nat.mul_add, Nat.mul_add, ← Nat.mul_assoc] at e1
  omega
theorem RAddR.at_ {w : World} {g N M : Nat} {xs ys : List Nat} {i cy : Nat} {ss : List Nat} {wr : World} (h : RAddR w g N M xs ys i cy ss wr) : At32 wr (some ⟨g, 0, none⟩) i N ss := by
  rcases h.own.2 with ⟨h', _⟩ | ⟨g', cap', cur, h', hbase, hgc, hcap', hmx, hsz, htake⟩
  · simp at h'
  · simp only [Value.slice.injEq, Option.some.injEq, Addr.mk.injEq, and_true, true_and] at h'
    obtain ⟨rfl, rfl⟩ := h'
    refine ⟨h.len, hcap', hmx, h.dig, .inr ⟨g, 0, rfl, fun jj hj => ?_⟩⟩
    rw [Nat.zero_add, cell_of_row wr g jj _ _ _ hgc]
    have e1 := cellsV_get ss jj (by rw [h.len]; exact hj)
    rw [← htake, Nat.mul_one, List.getElem?_take, if_pos hj] at e1
    rw [← Array.getElem?_toList]; exact e1
theorem one_cell (w : World) (x : Nat) : ∀ (j : Nat) (u : Value), [V x][j]? = some u → (w.alloc (.cells #[V x] 115)).cell? ((⟨w.heap.size, 0, none⟩ : Addr).add j) = some u := by
  intro j u h
  have hb : Blk32 (w.alloc (.cells #[V x] 115)) w.heap.size [x] := heap_alloc_new w _
  have hj : j < 1 := by
    have := (List.getElem?_eq_some_iff.1 h).1
    simpa using this
  have hadd : (⟨w.heap.size, 0, none⟩ : Addr).add j = ⟨w.heap.size, j, none⟩ := by unfold Addr.add; split <;> simp_all
  rw [hadd, hb.cell j (by simpa using hj)]
  obtain rfl : j = 0 := by omega
  simpa using h

set_option maxRecDepth 20000 in
set_option maxHeartbeats 2000000 in
/-- ref.Add. -/
theorem radd_any {p q : Option Addr} {n m c d : Nat} {xs ys : List Nat} {a b : Nat} {w : World} (h : At32 w p n c xs) (k : At32 w q m d ys) (hx : Nf B32 xs a) (hy : Nf B32 ys b) (hn : n ≤ 4398046511104) (hm : m ≤ 4398046511104) :
    Calls Tryz.prog 78 #[.slice p n c, .slice q m d] w fun e w' => ∃ p' m' zs, e = .returned (.slice p' m' m') ∧ At32 w' p' m' m' zs ∧ Nf B32 zs (a + b) ∧ Below w.heap.size w w' := by
  obtain ⟨i0, hi, hz0, hz1, hz2⟩ := info_parts Tryz.infoU32
  have HX : Hid (Nf B32 xs a) := hx
  have HY : Hid (Nf B32 ys b) := hy
  have HLX : Hid (xs.length = n) := h.len
  have HLY : Hid (ys.length = m) := k.len
  have hcap := h.cap; have hbig := h.big; have kcap := k.cap; have kbig := k.big
  unfold maxLen at hbig kbig
  obtain ⟨M, hM⟩ : ∃ M, M = max n m := ⟨_, rfl⟩
  have hM1 : n ≤ M := by omega
  have hM2 : m ≤ M := by omega
  have HM : Hid (M = n ∨ M = m) := by show _ ∨ _; omega
  have hMi : max (n : Int) (m : Int) = (M : Int) := by omega
  have hMb : M ≤ 4398046511104 := by omega
  clear hx hy hM
  go_enter Tryz.func78, Tryz.ntmps78
  go_wp2_with (at_make; refine wpList_make_own _ rfl _ _ 68 rfl w.heap.size 115 i0 (.int .u32 0) 1 Tryz.underlying68 hi hz0 hz1 _ _ _ (M + 1) rfl rfl (by omega) (by rw [hz2]; omega) (by unfold maxLen; omega) (Nat.le_refl _) ?_; intro w1 hown hgrow)
  have hb1 : Below w.heap.size w w1 := (Below.refl _ _).grown hgrow (Nat.le_refl _) (fun k hk => by simp at hk)
  have HO : Hid (RAddR w w.heap.size (M + 1) M xs ys 0 0 [] w1) := ⟨hb1, hown, rfl, Dig.nil _, by omega, by omega, fun _ => rfl, by simp [valB]⟩
  clear hown hgrow hb1 hMi
  obtain ⟨N, hN⟩ : ∃ N, N = M + 1 := ⟨_, rfl⟩
  rw [← hN] at HO ⊢
  have HN : Hid (N = M + 1) := hN
  clear hN
  -- the loop
  go_loopg [5, 6, 7] (M + 1) (fun gk sv cv iv wr => ∃ (i cy : Nat) (ss : List Nat), i + gk = M + 1 ∧ iv = .int .i64 i ∧ cv = U cy ∧ sv = .slice (some ⟨w.heap.size, 0, none⟩) i N ∧ Hid (RAddR w w.heap.size N M xs ys i cy ss wr))
  case atStart => exact ⟨0, 0, [], by omega, rfl, rfl, rfl, HO⟩
  case round =>
    obtain ⟨i, cy, ss, hig, rfl, rfl, rfl, HR⟩ := hrel
    have hcy := HR.out.car
    by_cases hall : ¬ i < n ∧ ¬ i < m ∧ cy = 0
    · obtain ⟨ha, hb, rfl⟩ := hall
      have A32 := HR.out.at_
      have hv := HR.out.sum
      rw [Nat.mul_zero, Nat.add_zero, List.take_of_length_le (by rw [HLX.out]; omega), List.take_of_length_le (by rw [HLY.out]; omega), HX.out.val, HY.out.val] at hv
      have HNF : Hid (Nf B32 (trimL ss) (a + b)) := by
        have := Nf.trim HR.out.dig
        rw [hv] at this; exact this
      have hle := trimL_length_le ss
      have HLE : Hid ((trimL ss).length ≤ M + 1) := by have := HR.out.len; have := HR.out.fin; show _ ≤ _; omega
      have hib := HR.out.fin
      have hbx := HR.out.bel
      have hc0 : ¬ (0 : Int) < ((0 : Nat) : Int) := by omega
      clear hv hle
      go_wp2_with fail
      refine (rnorm_any A32 (by omega)).mono ?_
      rintro e w5 ⟨g5, rfl, hg5, hblk5, hb5⟩
      have hd5 := HNF.out.dig
      generalize trimL ss = zs at *
      go_wp2_with fail
      go_ret
      exact ⟨_, _, zs, rfl, hblk5.at_ hd5 rfl (by have := HLE.out; unfold maxLen; omega), HNF.out, Below.on hbx hb5⟩
    · obtain ⟨x, hx⟩ : ∃ x, x = xs.getD i 0 := ⟨_, rfl⟩
      obtain ⟨y, hy⟩ : ∃ y, y = ys.getD i 0 := ⟨_, rfl⟩
      have hxb : x < B32 := by rw [hx]; exact HX.out.dig.getD B32_pos i
      have hyb : y < B32 := by rw [hy]; exact HY.out.dig.getD B32_pos i
      have HXE : Hid (x = xs.getD i 0) := hx
      have HYE : Hid (y = ys.getD i 0) := hy
      clear hx hy
      cases gk with
      | zero =>
        exfalso
        have h1 := HR.out.last (by omega)
        exact hall ⟨by omega, by omega, h1⟩
      | succ gg =>
        by_cases ha : i < n
        · by_cases hb : i < m
          · have hin : i < n := ha
            obtain ⟨g, off, rfl, hc⟩ := h.cells.resolve_left (by omega)
            have hcx0 : w.cell? ⟨g, off + i, none⟩ = some (V x) := by rw [HXE.out]; exact hc i hin
            have hcx : wr.cell? ⟨g, off + i, none⟩ = some (V x) := (HR.out.bel.cell (p := ⟨g, off + i, none⟩) (World.block_lt_of_cell? w _ hcx0)).trans hcx0
            have hxw : IntKind.u64.wrap (x : Int) = (x : Int) := wrap_mod _ _ (by rw [B32_eq] at hxb; omega)
            clear hc hcx0
            have him : i < m := hb
            obtain ⟨g2, off2, rfl, hc2⟩ := k.cells.resolve_left (by omega)
            have hcy0 : w.cell? ⟨g2, off2 + i, none⟩ = some (V y) := by rw [HYE.out]; exact hc2 i him
            have hcy1 : wr.cell? ⟨g2, off2 + i, none⟩ = some (V y) := (HR.out.bel.cell (p := ⟨g2, off2 + i, none⟩) (World.block_lt_of_cell? w _ hcy0)).trans hcy0
            have hyw : IntKind.u64.wrap (y : Int) = (y : Int) := wrap_mod _ _ (by rw [B32_eq] at hyb; omega)
            clear hc2 hcy0
            obtain ⟨t1, et1⟩ : ∃ t1, t1 = cy + x := ⟨_, rfl⟩
            obtain ⟨t2, et2⟩ : ∃ t2, t2 = t1 + y := ⟨_, rfl⟩
            rw [B32_eq] at hxb hyb
            have f1 : IntKind.u64.wrap ((cy : Int) + (x : Int)) = (t1 : Int) := wrap_mod _ _ (by omega)
            have f2 : IntKind.u64.wrap ((t1 : Int) + (y : Int)) = (t2 : Int) := wrap_mod _ _ (by omega)
            have ht2 : t2 < 18446744073709551616 := by omega
            obtain ⟨lo, elo⟩ : ∃ lo, lo = t2 % B32 := ⟨_, rfl⟩
            obtain ⟨hh, ehh⟩ : ∃ hh, hh = t2 / B32 := ⟨_, rfl⟩
            have hlob : lo < B32 := by rw [elo]; exact Nat.mod_lt _ B32_pos
            have hhb : hh ≤ 1 := by rw [ehh, B32_eq]; omega
            have f4 : bits .and .u64 (t2 : Int) 4294967295 = (lo : Int) := by rw [elo, B32_eq]; exact and32 t2 ht2
            have f5 : (t2 : Int) / 4294967296 = (hh : Int) := by rw [ehh, B32_eq]; exact div32 t2
            have f6 : IntKind.u32.wrap (lo : Int) = (lo : Int) := wrap32 lo hlob
            have HSUM : Hid (cy + x + y = lo + B32 * hh) := by
              have := Nat.mod_add_div t2 B32
              rw [← elo, ← ehh] at this
              show _ = _; omega
            have HLAST : Hid (i + 1 = M + 1 → hh = 0) := by
              intro hl
              exfalso; omega
            have HI1 : Hid (i + 1 ≤ M + 1) := by
              have h1 := HR.out.fin; have h2 := HR.out.last
              show _ ≤ _; omega
            have HOA : Hid ((wr.alloc (.cells #[V lo] 115)).ownsRow w.heap.size 115 1 (.slice (some ⟨w.heap.size, 0, none⟩) i N) i (cellsV ss)) := HR.out.own.alloc _
            have hsp : i + 1 ≤ N := by have := HI1.out; have := HN.out; omega
            clear et1 et2 elo ehh hxb hyb
            go_wp2_with (at_builtin; refine wpList_append_fits _ rfl (.tmp 53) (.tmp 57) 68 rfl w.heap.size 115 i0 1 Tryz.underlying68 hi hz1 w.heap.size i N (cellsV ss) rfl HOA.out ⟨wr.heap.size, 0, none⟩ 1 1 [V lo] rfl rfl (one_cell wr lo) (by intro u hu; simp at hu; subst hu; rfl) hsp ?_; intro w3 hw3 hgr3)
            have HR3 : Hid (RAddR w w.heap.size N M xs ys (i + 1) hh (ss ++ [lo]) w3) := by
              have hR := HR.out
              refine ⟨(hR.bel.alloc hR.bel.size _).grown hgr3 (by have := hR.bel.size; simp; omega) (fun q hq => by simp at hq; omega), ?_, by simp [hR.len], hR.dig.append (Dig.cons hlob (Dig.nil _)), hhb, HI1.out, HLAST.out, radd_step hR.sum hR.len HXE.out HYE.out HSUM.out⟩
              have e0 : cellsV (ss ++ [lo]) = cellsV ss ++ [V lo] := by unfold cellsV; rw [List.map_append]; rfl
              rw [e0]; exact hw3
            clear hw3 hgr3
            go_roundg gg
            case measure => omega
            case rel => exact ⟨i + 1, hh, ss ++ [lo], by omega, by go_num, rfl, rfl, HR3⟩
          · have hin : i < n := ha
            obtain ⟨g, off, rfl, hc⟩ := h.cells.resolve_left (by omega)
            have hcx0 : w.cell? ⟨g, off + i, none⟩ = some (V x) := by rw [HXE.out]; exact hc i hin
            have hcx : wr.cell? ⟨g, off + i, none⟩ = some (V x) := (HR.out.bel.cell (p := ⟨g, off + i, none⟩) (World.block_lt_of_cell? w _ hcx0)).trans hcx0
            have hxw : IntKind.u64.wrap (x : Int) = (x : Int) := wrap_mod _ _ (by rw [B32_eq] at hxb; omega)
            clear hc hcx0
            have hy0 : y = 0 := by rw [HYE.out, List.getD_eq_getElem?_getD, List.getElem?_eq_none (by rw [HLY.out]; omega)]; rfl
            obtain ⟨t1, et1⟩ : ∃ t1, t1 = cy + x := ⟨_, rfl⟩
            obtain ⟨t2, et2⟩ : ∃ t2, t2 = t1 + y := ⟨_, rfl⟩
            rw [B32_eq] at hxb hyb
            have f1 : IntKind.u64.wrap ((cy : Int) + (x : Int)) = (t1 : Int) := wrap_mod _ _ (by omega)
            obtain rfl : t2 = t1 := by omega
            have ht2 : t2 < 18446744073709551616 := by omega
            obtain ⟨lo, elo⟩ : ∃ lo, lo = t2 % B32 := ⟨_, rfl⟩
            obtain ⟨hh, ehh⟩ : ∃ hh, hh = t2 / B32 := ⟨_, rfl⟩
            have hlob : lo < B32 := by rw [elo]; exact Nat.mod_lt _ B32_pos
            have hhb : hh ≤ 1 := by rw [ehh, B32_eq]; omega
            have f4 : bits .and .u64 (t2 : Int) 4294967295 = (lo : Int) := by rw [elo, B32_eq]; exact and32 t2 ht2
            have f5 : (t2 : Int) / 4294967296 = (hh : Int) := by rw [ehh, B32_eq]; exact div32 t2
            have f6 : IntKind.u32.wrap (lo : Int) = (lo : Int) := wrap32 lo hlob
            have HSUM : Hid (cy + x + y = lo + B32 * hh) := by
              have := Nat.mod_add_div t2 B32
              rw [← elo, ← ehh] at this
              show _ = _; omega
            have HLAST : Hid (i + 1 = M + 1 → hh = 0) := by
              intro hl
              exfalso; omega
            have HI1 : Hid (i + 1 ≤ M + 1) := by
              have h1 := HR.out.fin; have h2 := HR.out.last
              show _ ≤ _; omega
            have HOA : Hid ((wr.alloc (.cells #[V lo] 115)).ownsRow w.heap.size 115 1 (.slice (some ⟨w.heap.size, 0, none⟩) i N) i (cellsV ss)) := HR.out.own.alloc _
            have hsp : i + 1 ≤ N := by have := HI1.out; have := HN.out; omega
            clear et1 et2 elo ehh hxb hyb
            go_wp2_with (at_builtin; refine wpList_append_fits _ rfl (.tmp 53) (.tmp 57) 68 rfl w.heap.size 115 i0 1 Tryz.underlying68 hi hz1 w.heap.size i N (cellsV ss) rfl HOA.out ⟨wr.heap.size, 0, none⟩ 1 1 [V lo] rfl rfl (one_cell wr lo) (by intro u hu; simp at hu; subst hu; rfl) hsp ?_; intro w3 hw3 hgr3)
            have HR3 : Hid (RAddR w w.heap.size N M xs ys (i + 1) hh (ss ++ [lo]) w3) := by
              have hR := HR.out
              refine ⟨(hR.bel.alloc hR.bel.size _).grown hgr3 (by have := hR.bel.size; simp; omega) (fun q hq => by simp at hq; omega), ?_, by simp [hR.len], hR.dig.append (Dig.cons hlob (Dig.nil _)), hhb, HI1.out, HLAST.out, radd_step hR.sum hR.len HXE.out HYE.out HSUM.out⟩
              have e0 : cellsV (ss ++ [lo]) = cellsV ss ++ [V lo] := by unfold cellsV; rw [List.map_append]; rfl
              rw [e0]; exact hw3
            clear hw3 hgr3
            go_roundg gg
            case measure => omega
            case rel => exact ⟨i + 1, hh, ss ++ [lo], by omega, by go_num, rfl, rfl, HR3⟩
        · by_cases hb : i < m
          · have him : i < m := hb
            obtain ⟨g2, off2, rfl, hc2⟩ := k.cells.resolve_left (by omega)
            have hcy0 : w.cell? ⟨g2, off2 + i, none⟩ = some (V y) := by rw [HYE.out]; exact hc2 i him
            have hcy1 : wr.cell? ⟨g2, off2 + i, none⟩ = some (V y) := (HR.out.bel.cell (p := ⟨g2, off2 + i, none⟩) (World.block_lt_of_cell? w _ hcy0)).trans hcy0
            have hyw : IntKind.u64.wrap (y : Int) = (y : Int) := wrap_mod _ _ (by rw [B32_eq] at hyb; omega)
            clear hc2 hcy0
            have hx0 : x = 0 := by rw [HXE.out, List.getD_eq_getElem?_getD, List.getElem?_eq_none (by rw [HLX.out]; omega)]; rfl
            obtain ⟨t1, et1⟩ : ∃ t1, t1 = cy + x := ⟨_, rfl⟩
            obtain ⟨t2, et2⟩ : ∃ t2, t2 = t1 + y := ⟨_, rfl⟩
            rw [B32_eq] at hxb hyb
            obtain rfl : t1 = cy := by omega
            have f2 : IntKind.u64.wrap ((t1 : Int) + (y : Int)) = (t2 : Int) := wrap_mod _ _ (by omega)
            have ht2 : t2 < 18446744073709551616 := by omega
            obtain ⟨lo, elo⟩ : ∃ lo, lo = t2 % B32 := ⟨_, rfl⟩
            obtain ⟨hh, ehh⟩ : ∃ hh, hh = t2 / B32 := ⟨_, rfl⟩
            have hlob : lo < B32 := by rw [elo]; exact Nat.mod_lt _ B32_pos
            have hhb : hh ≤ 1 := by rw [ehh, B32_eq]; omega
            have f4 : bits .and .u64 (t2 : Int) 4294967295 = (lo : Int) := by rw [elo, B32_eq]; exact and32 t2 ht2
            have f5 : (t2 : Int) / 4294967296 = (hh : Int) := by rw [ehh, B32_eq]; exact div32 t2
            have f6 : IntKind.u32.wrap (lo : Int) = (lo : Int) := wrap32 lo hlob
            have HSUM : Hid (t1 + x + y = lo + B32 * hh) := by
              have := Nat.mod_add_div t2 B32
              rw [← elo, ← ehh] at this
              show _ = _; omega
            have HLAST : Hid (i + 1 = M + 1 → hh = 0) := by
              intro hl
              exfalso; omega
            have HI1 : Hid (i + 1 ≤ M + 1) := by
              have h1 := HR.out.fin; have h2 := HR.out.last
              show _ ≤ _; omega
            have HOA : Hid ((wr.alloc (.cells #[V lo] 115)).ownsRow w.heap.size 115 1 (.slice (some ⟨w.heap.size, 0, none⟩) i N) i (cellsV ss)) := HR.out.own.alloc _
            have hsp : i + 1 ≤ N := by have := HI1.out; have := HN.out; omega
            clear et1 et2 elo ehh hxb hyb
            go_wp2_with (at_builtin; refine wpList_append_fits _ rfl (.tmp 53) (.tmp 57) 68 rfl w.heap.size 115 i0 1 Tryz.underlying68 hi hz1 w.heap.size i N (cellsV ss) rfl HOA.out ⟨wr.heap.size, 0, none⟩ 1 1 [V lo] rfl rfl (one_cell wr lo) (by intro u hu; simp at hu; subst hu; rfl) hsp ?_; intro w3 hw3 hgr3)
            have HR3 : Hid (RAddR w w.heap.size N M xs ys (i + 1) hh (ss ++ [lo]) w3) := by
              have hR := HR.out
              refine ⟨(hR.bel.alloc hR.bel.size _).grown hgr3 (by have := hR.bel.size; simp; omega) (fun q hq => by simp at hq; omega), ?_, by simp [hR.len], hR.dig.append (Dig.cons hlob (Dig.nil _)), hhb, HI1.out, HLAST.out, radd_step hR.sum hR.len HXE.out HYE.out HSUM.out⟩
              have e0 : cellsV (ss ++ [lo]) = cellsV ss ++ [V lo] := by unfold cellsV; rw [List.map_append]; rfl
              rw [e0]; exact hw3
            clear hw3 hgr3
            go_roundg gg
            case measure => omega
            case rel => exact ⟨i + 1, hh, ss ++ [lo], by omega, by go_num, rfl, rfl, HR3⟩
          · have hcp : 0 < cy := by
              rcases Nat.eq_zero_or_pos cy with e | e
              · exact absurd ⟨ha, hb, e⟩ hall
              · exact e
            have hcp' : (0 : Int) < (cy : Int) := by omega
            have hx0 : x = 0 := by rw [HXE.out, List.getD_eq_getElem?_getD, List.getElem?_eq_none (by rw [HLX.out]; omega)]; rfl
            have hy0 : y = 0 := by rw [HYE.out, List.getD_eq_getElem?_getD, List.getElem?_eq_none (by rw [HLY.out]; omega)]; rfl
            obtain ⟨t1, et1⟩ : ∃ t1, t1 = cy + x := ⟨_, rfl⟩
            obtain ⟨t2, et2⟩ : ∃ t2, t2 = t1 + y := ⟨_, rfl⟩
            rw [B32_eq] at hxb hyb
            obtain rfl : t1 = cy := by omega
            obtain rfl : t2 = t1 := by omega
            have ht2 : t2 < 18446744073709551616 := by omega
            obtain ⟨lo, elo⟩ : ∃ lo, lo = t2 % B32 := ⟨_, rfl⟩
            obtain ⟨hh, ehh⟩ : ∃ hh, hh = t2 / B32 := ⟨_, rfl⟩
            have hlob : lo < B32 := by rw [elo]; exact Nat.mod_lt _ B32_pos
            have hhb : hh ≤ 1 := by rw [ehh, B32_eq]; omega
            have f4 : bits .and .u64 (t2 : Int) 4294967295 = (lo : Int) := by rw [elo, B32_eq]; exact and32 t2 ht2
            have f5 : (t2 : Int) / 4294967296 = (hh : Int) := by rw [ehh, B32_eq]; exact div32 t2
            have f6 : IntKind.u32.wrap (lo : Int) = (lo : Int) := wrap32 lo hlob
            have HSUM : Hid (t2 + x + y = lo + B32 * hh) := by
              have := Nat.mod_add_div t2 B32
              rw [← elo, ← ehh] at this
              show _ = _; omega
            have HLAST : Hid (i + 1 = M + 1 → hh = 0) := by
              intro hl
              rw [ehh, B32_eq]; omega
            have HI1 : Hid (i + 1 ≤ M + 1) := by
              have h1 := HR.out.fin; have h2 := HR.out.last
              show _ ≤ _; omega
            have HOA : Hid ((wr.alloc (.cells #[V lo] 115)).ownsRow w.heap.size 115 1 (.slice (some ⟨w.heap.size, 0, none⟩) i N) i (cellsV ss)) := HR.out.own.alloc _
            have hsp : i + 1 ≤ N := by have := HI1.out; have := HN.out; omega
            clear et1 et2 elo ehh hxb hyb
            go_wp2_with (at_builtin; refine wpList_append_fits _ rfl (.tmp 53) (.tmp 57) 68 rfl w.heap.size 115 i0 1 Tryz.underlying68 hi hz1 w.heap.size i N (cellsV ss) rfl HOA.out ⟨wr.heap.size, 0, none⟩ 1 1 [V lo] rfl rfl (one_cell wr lo) (by intro u hu; simp at hu; subst hu; rfl) hsp ?_; intro w3 hw3 hgr3)
            have HR3 : Hid (RAddR w w.heap.size N M xs ys (i + 1) hh (ss ++ [lo]) w3) := by
              have hR := HR.out
              refine ⟨(hR.bel.alloc hR.bel.size _).grown hgr3 (by have := hR.bel.size; simp; omega) (fun q hq => by simp at hq; omega), ?_, by simp [hR.len], hR.dig.append (Dig.cons hlob (Dig.nil _)), hhb, HI1.out, HLAST.out, radd_step hR.sum hR.len HXE.out HYE.out HSUM.out⟩
              have e0 : cellsV (ss ++ [lo]) = cellsV ss ++ [V lo] := by unfold cellsV; rw [List.map_append]; rfl
              rw [e0]; exact hw3
            clear hw3 hgr3
            go_roundg gg
            case measure => omega
            case rel => exact ⟨i + 1, hh, ss ++ [lo], by omega, by go_num, rfl, rfl, HR3⟩
end Go.Proofs.YtgodajcnhipleaaGreatDoor

namespace Go.Proofs.YtgodajcnhipleaaGreatDoor
open Go.RowKit Go.Shelf

-- the document's side
end Go.Proofs.YtgodajcnhipleaaGreatDoor

namespace Go.Proofs.YtgodajcnhipleaaGreatDoor
open Go.RowKit Go.Shelf

/-- What ref.Sub has done when i digits are through. -/
structure RSubR (w : World) (g N : Nat) (xs ys : List Nat) (i ow : Nat) (ss : List Nat) (wr : World) : Prop where
  bel : Below g w wr
  own : wr.ownsRow g 115 1 (.slice (some ⟨g, 0, none⟩) i N) i (cellsV ss)
  len : ss.length = i
  dig : Dig B32 ss
  car : ow ≤ 1
  sum : valB B32 ss + valB B32 (ys.take i) = valB B32 (xs.take i) + B32 ^ i * ow
theorem RSubR.at_ {w : World} {g N : Nat} {xs ys : List Nat} {i cy : Nat} {ss : List Nat} {wr : World} (h : RSubR w g N xs ys i cy ss wr) : At32 wr (some ⟨g, 0, none⟩) i N ss := by
  rcases h.own.2 with ⟨h', _⟩ | ⟨g', cap', cur, h', hbase, hgc, hcap', hmx, hsz, htake⟩
  · simp at h'
  · simp only [Value.slice.injEq, Option.some.injEq, Addr.mk.injEq, and_true, true_and] at h'
    obtain ⟨rfl, rfl⟩ := h'
    refine ⟨h.len, hcap', hmx, h.dig, .inr ⟨g, 0, rfl, fun jj hj => ?_⟩⟩
    rw [Nat.zero_add, cell_of_row wr g jj _ _ _ hgc]
    have e1 := cellsV_get ss jj (by rw [h.len]; exact hj)
    rw [← htake, Nat.mul_one, List.getElem?_take, if_pos hj] at e1
    rw [← Array.getElem?_toList]; exact e1

end Go.Proofs.YtgodajcnhipleaaGreatDoor

namespace Go.Proofs.YtgodajcnhipleaaGreatDoor
open Go.RowKit Go.Shelf

theorem lit_at32w (w : World) (x y : Nat) (hx : x < B32) (hy : y < B32) : At32 (w.alloc (.cells #[V x, V y] 115)) (some ⟨w.heap.size, 0, none⟩) 2 2 [x, y] := by
  refine ⟨rfl, Nat.le_refl _, by decide, ?_, .inr ⟨w.heap.size, 0, rfl, ?_⟩⟩
  · intro z hz
    simp at hz
    rcases hz with rfl | rfl <;> assumption
  · intro j hj
    match j, hj with
    | 0, _ => exact World.cell?_alloc_new ..
    | 1, _ => exact World.cell?_alloc_new ..
set_option maxRecDepth 20000 in
/-- ref.Word. -/
theorem rword (x : Nat) (hx : x < B64) (w : World) : Calls Tryz.prog 79 #[U x] w fun e w' => ∃ g zs, e = .returned (.slice (some ⟨g, 0, none⟩) zs.length zs.length) ∧ zs.length ≤ 2 ∧ At32 w' (some ⟨g, 0, none⟩) zs.length zs.length zs ∧ Nf B32 zs x ∧ Below w.heap.size w w' := by
  obtain ⟨lo, hlo⟩ : ∃ lo, lo = x % B32 := ⟨_, rfl⟩
  obtain ⟨hi, hhi⟩ : ∃ hi, hi = x / B32 := ⟨_, rfl⟩
  have hlb : lo < B32 := by rw [hlo]; exact Nat.mod_lt _ B32_pos
  have hhb : hi < B32 := by rw [hhi]; refine Nat.div_lt_of_lt_mul ?_; rw [B32_two]; exact hx
  have e1 : bits .and .u64 (x : Int) 4294967295 = (lo : Int) := by rw [hlo, B32_eq]; exact and32 x (by rw [← B64_eq]; exact hx)
  have e2 : (x : Int) / 4294967296 = (hi : Int) := by rw [hhi, B32_eq]; exact div32 x
  have e3 : IntKind.u32.wrap (lo : Int) = (lo : Int) := wrap32 lo hlb
  have e4 : IntKind.u32.wrap (hi : Int) = (hi : Int) := wrap32 hi hhb
  have HV : Hid (valB B32 [lo, hi] = x) := by show _ = _; simp only [valB, hlo, hhi]; have := Nat.mod_add_div x B32; omega
  have HLB : Hid (lo < B32 ∧ hi < B32) := ⟨hlb, hhb⟩
  clear hlo hhi hlb hhb
  go_enter Tryz.func79, Tryz.ntmps79
  go_wp2_with fail
  refine (rnorm_any (lit_at32w w lo hi HLB.out.1 HLB.out.2) (by omega)).mono ?_
  rintro e w1 ⟨g, rfl, hg, hb, hbl⟩
  have hl := trimL_length_le [lo, hi]
  have hA : At32 w1 (some ⟨g, 0, none⟩) (trimL [lo, hi]).length (trimL [lo, hi]).length (trimL [lo, hi]) := hb.at_ (Dig.trimL (lit_at32w w lo hi HLB.out.1 HLB.out.2).dig) rfl (by unfold maxLen; simp at hl; omega)
  have hN : Nf B32 (trimL [lo, hi]) x := ⟨Dig.trimL (lit_at32w w lo hi HLB.out.1 HLB.out.2).dig, Top_trimL _, by rw [valB_trimL]; exact HV.out⟩
  have HH : Hid (At32 w1 (some ⟨g, 0, none⟩) (trimL [lo, hi]).length (trimL [lo, hi]).length (trimL [lo, hi]) ∧ Nf B32 (trimL [lo, hi]) x ∧ (trimL [lo, hi]).length ≤ 2) := ⟨hA, hN, by simpa using hl⟩
  have hbw := Below.on (below1 w _) hbl
  generalize trimL [lo, hi] = zs at *
  clear hA hN hl hb hbl hg
  go_wp2_with fail
  go_ret
  exact ⟨g, zs, rfl, HH.out.2.2, HH.out.1, HH.out.2.1, hbw⟩
end Go.Proofs.YtgodajcnhipleaaGreatDoor

namespace Go.Proofs.YtgodajcnhipleaaGreatDoor
open Go.RowKit Go.Shelf

end Go.Proofs.YtgodajcnhipleaaGreatDoor

namespace Go.Proofs.YtgodajcnhipleaaGreatDoor
open Go.RowKit Go.Shelf

end Go.Proofs.YtgodajcnhipleaaGreatDoor

namespace Go.Proofs.YtgodajcnhipleaaGreatDoor
open Go.RowKit Go.Shelf

/-- k is how often two divides v (v not nought). -/
def TzIs (v k : Nat) : Prop := v % 2 ^ k = 0 ∧ v / 2 ^ k % 2 = 1
theorem TzIs.inj {v k l : Nat} (h : TzIs v k) (h' : TzIs v l) : k = l := by
  have aux : ∀ {a b : Nat}, TzIs v a → TzIs v b → ¬ a < b := by
    intro a b ha hb hab
    obtain ⟨d, hd⟩ : ∃ d, b = a + (d + 1) := ⟨b - a - 1, by omega⟩
    have h1 := Nat.dvd_of_mod_eq_zero hb.1
    obtain ⟨q, hq⟩ := h1
    have h2 := ha.2
    rw [hq, hd, Nat.pow_add, Nat.mul_assoc, Nat.mul_div_cancel_left _ (Nat.pow_pos (by decide)), Nat.pow_succ, Nat.mul_comm (2 ^ d) 2, Nat.mul_assoc, Nat.mul_mod_right] at h2
    exact absurd h2 (by decide)
  rcases Nat.lt_trichotomy k l with e | e | e
  · exact absurd e (aux h h')
  · exact e
  · exact absurd e (aux h' h)
theorem TzIs.ex : ∀ (v : Nat), 0 < v → ∃ k, TzIs v k := by
  intro v
  induction v using Nat.strongRecOn with
  | _ v ih =>
    intro hv
    rcases Nat.mod_two_eq_zero_or_one v with h | h
    · obtain ⟨k, h1, h2⟩ := ih (v / 2) (by omega) (by omega)
      refine ⟨k + 1, ?_, ?_⟩
      · rw [Nat.pow_succ, Nat.mul_comm, Nat.mod_mul, h, h1]
      · rw [Nat.pow_succ, Nat.mul_comm, ← Nat.div_div_eq_div_mul]; exact h2
    · exact ⟨0, by rw [Nat.pow_zero, Nat.mod_one], by rw [Nat.pow_zero, Nat.div_one]; exact h⟩
theorem TzIs.ge {v k n : Nat} (h : TzIs v k) (hn : v % 2 ^ n = 0) : n ≤ k := by
  rcases Nat.lt_or_ge k n with e | e
  · exfalso
    obtain ⟨d, hd⟩ : ∃ d, n = k + (d + 1) := ⟨n - k - 1, by omega⟩
    obtain ⟨q, hq⟩ := Nat.dvd_of_mod_eq_zero hn
    have h2 := h.2
    rw [hq, hd, Nat.pow_add, Nat.mul_assoc, Nat.mul_div_cancel_left _ (Nat.pow_pos (by decide)), Nat.pow_succ, Nat.mul_comm (2 ^ d) 2, Nat.mul_assoc, Nat.mul_mod_right] at h2
    exact absurd h2 (by decide)
  · exact e
end Go.Proofs.YtgodajcnhipleaaGreatDoor

namespace Go.Proofs.YtgodajcnhipleaaGreatDoor
open Go.RowKit Go.Shelf

/-- The library's table lies in its variable. -/
def Tab (w : World) : Prop := TabAt 0 Lib.deBruijn64tab w
theorem Tab.below {w w' : World} (h : Tab w) (hb : Below w.heap.size w w') : Tab w' := by
  intro j hj
  have h1 := h j hj
  have hl : 0 < w.heap.size := World.block_lt_of_cell? w _ h1
  exact (hb.cell (p := ⟨0, j, none⟩) hl).trans h1
/-- How often two divides v; nought of nought. -/
def TzO (v k : Nat) : Prop := (v = 0 ∧ k = 0) ∨ (v ≠ 0 ∧ TzIs v k)
theorem TzO.inj {v k l : Nat} (h : TzO v k) (h' : TzO v l) : k = l := by
  rcases h with ⟨h1, rfl⟩ | ⟨h1, h2⟩ <;> rcases h' with ⟨h3, rfl⟩ | ⟨h3, h4⟩
  · rfl
  · exact absurd h1 h3
  · exact absurd h3 h1
  · exact h2.inj h4
theorem TzO.ex (v : Nat) : ∃ k, TzO v k := by
  by_cases h : v = 0
  · exact ⟨0, .inl ⟨h, rfl⟩⟩
  · obtain ⟨k, hk⟩ := TzIs.ex v (by omega)
    exact ⟨k, .inr ⟨h, hk⟩⟩

end Go.Proofs.YtgodajcnhipleaaGreatDoor

namespace Go.Proofs.YtgodajcnhipleaaGreatDoor
open Go.RowKit Go.Shelf

end Go.Proofs.YtgodajcnhipleaaGreatDoor

namespace Go.Proofs.YtgodajcnhipleaaGreatDoor
open Go.RowKit Go.Shelf

def neUp (a d : Nat) : Bool := decide (d < 2 * (a % d)) || (decide (2 * (a % d) = d) && decide (a / d % 2 = 1))
/-- What is left, against one half. -/
def HfIs (r d : Nat) (h : Int) : Prop := (2 * r < d ∧ h = -1) ∨ (2 * r = d ∧ h = 0) ∨ (d < 2 * r ∧ h = 1)
theorem HfIs.up {a d : Nat} {h : Int} (k : HfIs (a % d) d h) : neUp a d = (decide (0 < h) || (decide (h = 0) && decide (a / d % 2 = 1))) := by
  unfold neUp
  rcases k with ⟨k, rfl⟩ | ⟨k, rfl⟩ | ⟨k, rfl⟩
  · rw [decide_eq_false (by omega), decide_eq_false (p := 2 * (a % d) = d) (by omega)]; rfl
  · rw [decide_eq_false (by omega), decide_eq_true (p := 2 * (a % d) = d) (by omega)]; rfl
  · rw [decide_eq_true (by omega)]; rfl
theorem ce_le {a d : Nat} (h : a % d ≠ 0) : a / d + 1 ≤ a := by
  rcases Nat.lt_or_ge d 2 with hd | hd
  · have : d = 0 ∨ d = 1 := by omega
    rcases this with rfl | rfl
    · rw [Nat.div_zero]; rw [Nat.mod_zero] at h; omega
    · omega
  · have h1 : a / d ≤ a / 2 := Nat.div_le_div_left hd (by omega)
    rcases Nat.lt_or_ge a 2 with ha | ha
    · have h2 : a ≠ 0 := fun e => h (by rw [e, Nat.zero_mod])
      omega
    · omega
/-- The whole number z, in new memory. -/
def AnsZ (B : Nat) (w' : World) (v : Value) (z : Int) : Prop :=
  ∃ p m zs, v = ZV (decide (z < 0)) p m m ∧ Own B w' p m zs ∧ Nf B64 zs z.natAbs ∧ m ≤ 8192
theorem iv_lt (s : Bool) (n : Nat) : decide (iv s n < 0) = (s && decide (0 < n)) := by
  cases s
  · simp [iv]
  · simp only [iv, if_true, Bool.true_and]; exact decide_eq_decide.2 (by omega)
theorem AnsZ.mk {B : Nat} {w' : World} {p : Option Addr} {m : Nat} {zs : List Nat} {q : Nat} (s : Bool) (ho : Own B w' p m zs) (hn : Nf B64 zs q) (hm : m ≤ 8192) : AnsZ B w' (ZV (s && decide (0 < m)) p m m) (iv s q) :=
  ⟨p, m, zs, by rw [iv_lt, hn.lenpos ho.len], ho, by rw [iv_natAbs]; exact hn, hm⟩
theorem own_set2 {B b : Nat} {w' : World} {p : Option Addr} {m : Nat} {zs : List Nat} (h : Own B w' p m zs) {r : Nat} (hr : r < B) (hb : b ≤ B) (v0 v1 : Value) : Own b ((w'.setCell ⟨r, 0, none⟩ v0).setCell ⟨r, 1, none⟩ v1) p m zs :=
  ((h.setOld _ _ _ hr).setOld _ _ _ hr).mono hb
theorem AnsZ.set2 {B b : Nat} {w' : World} {v : Value} {z : Int} (h : AnsZ B w' v z) {r : Nat} (hr : r < B) (hb : b ≤ B) (v0 v1 : Value) : AnsZ b ((w'.setCell ⟨r, 0, none⟩ v0).setCell ⟨r, 1, none⟩ v1) v z := by
  obtain ⟨p, m, zs, rfl, ho, hn, hm⟩ := h
  exact ⟨p, m, zs, rfl, own_set2 ho hr hb v0 v1, hn, hm⟩
theorem AnsZ.below {B : Nat} {w w' : World} {v : Value} {z : Int} (h : AnsZ B w v z) (hb : Below w.heap.size w w') : AnsZ B w' v z := by
  obtain ⟨p, m, zs, rfl, ho, hn, hm⟩ := h
  exact ⟨p, m, zs, rfl, ho.below hb, hn, hm⟩
/-- A struct of four cells in memory. -/
structure B4q (W : World) (g : Nat) (v0 v1 v2 v3 : Value) : Prop where
  c0 : W.cell? ⟨g, 0, none⟩ = some v0
  c1 : W.cell? ⟨g, 1, none⟩ = some v1
  c2 : W.cell? ⟨g, 2, none⟩ = some v2
  c3 : W.cell? ⟨g, 3, none⟩ = some v3
  f0 : W.frozen? ⟨g, 0, none⟩ = false
  f1 : W.frozen? ⟨g, 1, none⟩ = false
  f2 : W.frozen? ⟨g, 2, none⟩ = false
  f3 : W.frozen? ⟨g, 3, none⟩ = false
theorem B4q.below {W W' : World} {g : Nat} {v0 v1 v2 v3 : Value} (h : B4q W g v0 v1 v2 v3) (hb : Below W.heap.size W W') : B4q W' g v0 v1 v2 v3 := by
  have hl : g < W.heap.size := World.block_lt_of_cell? W _ h.c0
  exact ⟨(hb.cell (p := ⟨g, 0, none⟩) hl).trans h.c0, (hb.cell (p := ⟨g, 1, none⟩) hl).trans h.c1, (hb.cell (p := ⟨g, 2, none⟩) hl).trans h.c2, (hb.cell (p := ⟨g, 3, none⟩) hl).trans h.c3,
    (hb.frozen (p := ⟨g, 0, none⟩) hl).trans h.f0, (hb.frozen (p := ⟨g, 1, none⟩) hl).trans h.f1, (hb.frozen (p := ⟨g, 2, none⟩) hl).trans h.f2, (hb.frozen (p := ⟨g, 3, none⟩) hl).trans h.f3⟩
theorem B4q.new (w : World) (ty : TypeId) (v0 v1 v2 v3 : Value) : B4q (w.alloc (.cells #[v0, v1, v2, v3] ty)) w.heap.size v0 v1 v2 v3 :=
  ⟨by go_simp, by go_simp, by go_simp, by go_simp, by go_simp, by go_simp, by go_simp, by go_simp⟩
theorem Box.lt {W : World} {g : Nat} {v0 v1 : Value} (h : Box W g v0 v1) : g < W.heap.size := World.block_lt_of_cell? W _ h.c0
theorem B4q.lt {W : World} {g : Nat} {v0 v1 v2 v3 : Value} (h : B4q W g v0 v1 v2 v3) : g < W.heap.size := World.block_lt_of_cell? W _ h.c0
end Go.Proofs.YtgodajcnhipleaaGreatDoor

namespace Go.Proofs.YtgodajcnhipleaaGreatDoor
open Go.RowKit

/-- What shiftDown has done at place k. -/
structure DnRel (w : World) (g n : Nat) (zs : List Nat) (s k : Nat) (dk : List Nat) (wr : World) : Prop where
  wrs : Wr g 0 n w wr
  row : Row wr g 0 n dk
  hi : dk.drop k = zs.drop k
  sum : 2 ^ s * valB B64 (dk.take k) + cout zs s 0 = valB B64 (zs.take k) + B64 ^ k * cout zs s k

theorem DnRel.step {w : World} {g n : Nat} {zs : List Nat} {s k : Nat} {dk : List Nat} {wr wr' : World} (h : DnRel w g n zs s k dk wr) (hk : k < n) (hz : zs.length = n) (hs : s ≤ 64) {d : Nat}
    (hd : d = dk.getD k 0 / 2 ^ s + 2 ^ (64 - s) * cout zs s (k + 1)) (hw : Wr g 0 n w wr') (hr : Row wr' g 0 n (dk.set k d)) : DnRel w g n zs s (k + 1) (dk.set k d) wr' := by
  have hl := h.row.len
  refine ⟨hw, hr, ?_, ?_⟩
  · rw [drop_set_lt]; exact drop_succ_of_drop h.hi
  · rw [take_set_succ dk k d (by omega), valB_snoc, List.length_take, hl, Nat.min_eq_left (by omega)]
    exact down_step hs (by rw [hd, getD_of_drop h.hi]) h.sum (by omega)

end Go.Proofs.YtgodajcnhipleaaGreatDoor

namespace Go.Proofs.YtgodajcnhipleaaGreatDoor
open Go.RowKit

theorem lt_pow_bits (x K : Nat) : x < 2 ^ K ↔ bitsN x ≤ K := by
  constructor
  · intro h
    by_cases h0 : x = 0
    · subst h0; simp [bitsN]
    · have h1 := bitsN_le x h0
      have h2 : bitsN x - 1 < K := (Nat.pow_lt_pow_iff_right (by decide : 1 < 2)).1 (Nat.lt_of_le_of_lt h1 h)
      omega
  · intro h
    exact Nat.lt_of_lt_of_le (bitsN_lt x) (Nat.pow_le_pow_right (by decide) h)
end Go.Proofs.YtgodajcnhipleaaGreatDoor

namespace Go.Proofs.YtgodajcnhipleaaGreatDoor
open Go.RowKit Go.Shelf

def sgnI (z : Int) : Int := if z < 0 then -1 else if z = 0 then 0 else 1
set_option maxRecDepth 20000 in
set_option maxHeartbeats 4000000 in
/-- num.Of. -/
theorem of_full (z : Int) (w : World) (h0 : -9223372036854775808 ≤ z) (h1 : z ≤ 9223372036854775807) :
    Calls Tryz.prog 11 #[.int .i64 z] w fun e w' => ∃ v, e = .returned v ∧ AnsZ w.heap.size w' v z ∧ Below w.heap.size w w' := by
  by_cases hz : z < 0
  · have hd : decide (z < 0) = true := decide_eq_true hz
    obtain ⟨u, hu⟩ : ∃ u : Nat, (u : Int) = 18446744073709551616 + z := ⟨(18446744073709551616 + z).toNat, by omega⟩
    obtain ⟨v, hv⟩ : ∃ v : Nat, v = z.natAbs := ⟨_, rfl⟩
    have hvb : v < B64 := by rw [B64_eq]; omega
    have hw : IntKind.u64.wrap z = (u : Int) := wrap_u _ _ (by omega)
    have hw2 : IntKind.u64.wrap (-(u : Int)) = (v : Int) := wrap_u _ _ (by omega)
    have HV : Hid (v = z.natAbs) := hv
    have HVZ : Hid (z < 0) := hz
    clear hu hv h0 h1 hz
    go_enter Tryz.func11, Tryz.ntmps11
    go_wp2_with fail
    have B0 : Box (w.alloc (.cells #[.bool false, .slice none 0 0] 28)) w.heap.size (.bool false) (.slice none 0 0) := ⟨by go_simp, by go_simp, by go_simp, by go_simp⟩
    refine (word_any v _ hvb).mono ?_
    rintro e w1 ⟨p1, m1, z1, rfl, ho, hn, hm, hb⟩
    obtain ⟨c0, c1, f0, f1⟩ := B0.below hb
    have hbw := Below.on (below1 w _) hb
    have HOW : Hid (Own (w.heap.size + 1) w1 p1 m1 z1) := by have := ho; simp at this; exact this
    have HN : Hid (Nf B64 z1 v) := hn
    clear B0 ho hn hb hvb hw hw2
    go_wp2_with fail
    refine bodyPost_ret (v := ZV true p1 m1 m1) (by rw [results_cell1 rfl]; go_simp) rfl ⟨_, rfl, ⟨p1, m1, z1, by rw [decide_eq_true HVZ.out], ?_, by rw [← HV.out]; exact HN.out, by omega⟩, ?_⟩
    · exact ((HOW.out.setOld _ _ _ (by omega)).setOld _ _ _ (by omega)).mono (by omega)
    · exact bSet (bSet hbw _ _ _ (Nat.le_refl _)) _ _ _ (Nat.le_refl _)
  · have hd : decide (z < 0) = false := decide_eq_false hz
    obtain ⟨v, rfl⟩ := Int.eq_ofNat_of_zero_le (by omega : 0 ≤ z)
    have hvb : v < B64 := by rw [B64_eq]; omega
    have hw : IntKind.u64.wrap (v : Int) = (v : Int) := wrap_u _ _ (by omega)
    clear h0 h1 hz
    go_enter Tryz.func11, Tryz.ntmps11
    go_wp2_with fail
    have B0 : Box (w.alloc (.cells #[.bool false, .slice none 0 0] 28)) w.heap.size (.bool false) (.slice none 0 0) := ⟨by go_simp, by go_simp, by go_simp, by go_simp⟩
    refine (word_any v _ hvb).mono ?_
    rintro e w1 ⟨p1, m1, z1, rfl, ho, hn, hm, hb⟩
    obtain ⟨c0, c1, f0, f1⟩ := B0.below hb
    have hbw := Below.on (below1 w _) hb
    have HOW : Hid (Own (w.heap.size + 1) w1 p1 m1 z1) := by have := ho; simp at this; exact this
    have HN : Hid (Nf B64 z1 v) := hn
    clear B0 ho hn hb hvb hw
    go_wp2_with fail
    refine bodyPost_ret (v := ZV false p1 m1 m1) (by rw [results_cell1 rfl]; go_simp) rfl ⟨_, rfl, ⟨p1, m1, z1, ?_, ?_, HN.out, by omega⟩, ?_⟩
    · rw [decide_eq_false (Int.not_lt.2 (Int.natCast_nonneg v))]
    · exact ((HOW.out.setOld _ _ _ (by omega)).setOld _ _ _ (by omega)).mono (by omega)
    · exact bSet (bSet hbw _ _ _ (Nat.le_refl _)) _ _ _ (Nat.le_refl _)
theorem bits_zero (a : Nat) : bitsN a = 0 ↔ a = 0 := by
  have h1 := lt_pow_bits a 0
  constructor
  · intro e
    have := h1.2 (by omega)
    omega
  · rintro rfl
    have := h1.1 (by omega)
    omega
end Go.Proofs.YtgodajcnhipleaaGreatDoor

