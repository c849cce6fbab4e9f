import Derived.Test.YthjofcakkaolbaaJ6
import Derived.Laws.ResultCell
import Derived.Deep.RegionWith
import Derived.Deep.DeepCutAuto
import Derived.Deep.LoopGhost
import Derived.Test.YthjofcakkaolbaaMem
import Derived.Laws.FloatArith
import Derived.Test.YthjofcakkaolbaaVal
import Derived.Deep.Draws
import Derived.Test.YthjofcakkaolbaaChecked
import Derived.Laws.Externs
import Derived.Laws.Bits64b
import Derived.Shelf.Strconv.Itoa0
import Derived.BigQuiet
import Derived.Lib.SliceRun
import Derived.Sort.Row
namespace Go.Proofs.Ythjofcakkaolbaa
open Go.RowKit Go.Shelf
set_option maxRecDepth 20000
set_option maxHeartbeats 0
structure RSmR (w : World) (g N : Nat) (xs : List Nat) (v c i cy : Nat) (ss : List Nat) (wr : World) : Prop where
  bel : Below g w wr
  own : wr.ownsRow g 42 1 (.slice (some ⟨g, 0, none⟩) i N) i (cellsV ss)
  len : ss.length = i
  dig : Dig B32 ss
  car : cy < B32
  sum : valB B32 ss + B32 ^ i * cy = valB B32 (xs.take i) * v + c
theorem rsm_step {xs ss : List Nat} {i cy x v c lo hh : Nat} (h : valB B32 ss + B32 ^ i * cy = valB B32 (xs.take i) * v + c) (hl : ss.length = i) (ex : x = xs.getD i 0) (hs : cy + x * v = lo + B32 * hh) :
    valB B32 (ss ++ [lo]) + B32 ^ (i + 1) * hh = valB B32 (xs.take (i + 1)) * v + c := by
  rw [valB_snoc, hl, valB_take_any _ xs i, ← ex, Nat.pow_succ, Nat.add_mul]
  have e1 : B32 ^ i * (cy + x * v) = B32 ^ i * (lo + B32 * hh) := by rw [hs]
  rw [Nat.mul_add, Nat.mul_add, ← Nat.mul_assoc, ← Nat.mul_assoc] at e1
  omega
theorem own_at32 {wr : World} {g i N : Nat} {ss : List Nat} (ho : wr.ownsRow g 42 1 (.slice (some ⟨g, 0, none⟩) i N) i (cellsV ss)) (hl : ss.length = i) (hd : Dig B32 ss) : At32 wr (some ⟨g, 0, none⟩) i N ss := by
  rcases ho.2 with ⟨h', _⟩ | ⟨g', cap', cur, h', hbase, hgc, hcap', hmx, hsz, htake⟩
  · simp at h'
  · simp only [Value.slice.injEq, Option.some.injEq, Addr.mk.injEq, and_true, true_and] at h'
    obtain ⟨rfl, rfl⟩ := h'
    refine ⟨hl, hcap', hmx, hd, .inr ⟨g, 0, rfl, fun jj hj => ?_⟩⟩
    rw [Nat.zero_add, cell_of_row wr g jj _ _ _ hgc]
    have e1 := cellsV_get ss jj (by rw [hl]; exact hj)
    rw [← htake, Nat.mul_one, List.getElem?_take, if_pos hj] at e1
    rw [← Array.getElem?_toList]; exact e1

theorem rsmall_any {p : Option Addr} {n c : Nat} {xs : List Nat} {a v u : Nat} {w : World} (h : At32 w p n c xs) (hx : Nf B32 xs a) (hn : n ≤ 4398046511104) (hv : v < B32) (hu : u < B32) :
    Calls Try.prog 23 #[.slice p n c, V v, V u] w fun e w' => ∃ g zs, e = .returned (.slice (some ⟨g, 0, none⟩) zs.length zs.length) ∧ Blk32 w' g zs ∧ Nf B32 zs (a * v + u) ∧ zs.length ≤ n + 1 ∧ Below w.heap.size w w' := by
  obtain ⟨i0, hi, hz0, hz1, hz2⟩ := info_parts Try.infoU32
  have HX : Hid (Nf B32 xs a) := hx
  have HLX : Hid (xs.length = n) := h.len
  have hcap := h.cap; have hbig := h.big
  unfold maxLen at hbig
  have huw : IntKind.u64.wrap (u : Int) = (u : Int) := wrap_mod _ _ (by rw [B32_eq] at hu; omega)
  clear hx
  go_enter Try.func23, Try.ntmps23
  go_wp2_with (at_make; refine wpList_make_own _ rfl _ _ 30 rfl w.heap.size 42 i0 (.int .u32 0) 1 Try.underlying30 hi hz0 hz1 _ _ _ (n + 1) rfl rfl (by omega) (by rw [hz2]; omega) (by unfold maxLen; omega) (Nat.le_refl _) ?_; intro w1 hown hgrow)
  have hb1 : Below w.heap.size w w1 := (Below.refl _ _).grown hgrow (Nat.le_refl _) (fun k hk => by simp at hk)
  have HO : Hid (RSmR w w.heap.size (n + 1) xs v u 0 u [] w1) := ⟨hb1, hown, rfl, Dig.nil _, hu, by simp [valB]⟩
  clear hown hgrow hb1
  obtain ⟨N, hN⟩ : ∃ N, N = n + 1 := ⟨_, rfl⟩
  rw [← hN] at HO ⊢
  have HN : Hid (N = n + 1) := hN
  clear hN
  go_loopg [7, 8, 9] n (fun gk sv cv iv wr => ∃ (i cy : Nat) (ss : List Nat), i + gk = n ∧ iv = .int .i64 i ∧ cv = U cy ∧ sv = .slice (some ⟨w.heap.size, 0, none⟩) i N ∧ Hid (RSmR w w.heap.size N xs v u i cy ss wr))
  case atStart => exact ⟨0, u, [], by omega, rfl, rfl, rfl, HO⟩
  case round =>
    obtain ⟨i, cy, ss, hig, rfl, rfl, rfl, HR⟩ := hrel
    have hcyb := HR.out.car
    cases gk with
    | zero =>
      obtain rfl : i = n := by omega
      have hni : ¬ i < i := by omega
      have hw32 : IntKind.u32.wrap (cy : Int) = (cy : Int) := wrap32 cy hcyb
      have HOA : Hid ((wr.alloc (.cells #[V cy] 42)).ownsRow w.heap.size 42 1 (.slice (some ⟨w.heap.size, 0, none⟩) i N) i (cellsV ss)) := HR.out.own.alloc _
      have hsp : i + 1 ≤ N := by have := HN.out; omega
      go_wp2_with (at_builtin; refine wpList_append_fits _ rfl (.tmp 40) (.tmp 43) 30 rfl w.heap.size 42 i0 1 Try.underlying30 hi hz1 w.heap.size i N (cellsV ss) rfl HOA.out ⟨wr.heap.size, 0, none⟩ 1 1 [V cy] rfl rfl (one_cell wr cy) (by intro u hu; simp at hu; subst hu; rfl) hsp ?_; intro w3 hw3 hgr3)
      have hR := HR.out
      have hbx : Below w.heap.size w w3 := (hR.bel.alloc hR.bel.size _).grown hgr3 (by have := hR.bel.size; simp; omega) (fun q hq => by simp at hq; omega)
      have e0 : cellsV (ss ++ [cy]) = cellsV ss ++ [V cy] := by unfold cellsV; rw [List.map_append]; rfl
      rw [← e0] at hw3
      have hl3 : (ss ++ [cy]).length = i + 1 := by simp [hR.len]
      have hd3 : Dig B32 (ss ++ [cy]) := hR.dig.append (Dig.cons hcyb (Dig.nil _))
      have A32 := own_at32 hw3 hl3 hd3
      have HNF : Hid (Nf B32 (trimL (ss ++ [cy])) (a * v + u)) := by
        have h1 := Nf.trim hd3
        have h2 := hR.sum
        rw [List.take_of_length_le (by rw [HLX.out]; omega), HX.out.val] at h2
        rw [valB_snoc, hR.len, h2] at h1; exact h1
      have hle := trimL_length_le (ss ++ [cy])
      have HLE : Hid ((trimL (ss ++ [cy])).length ≤ i + 1) := by show _ ≤ _; omega
      clear hw3 hgr3 e0 hl3 hd3 hle hR
      refine (rnorm_any A32 (by omega)).mono ?_
      rintro e w5 ⟨g5, rfl, hg5, hblk5, hb5⟩
      generalize trimL (ss ++ [cy]) = zs at *
      go_wp2_with fail
      go_ret
      exact ⟨g5, zs, rfl, hblk5, HNF.out, HLE.out, Below.on hbx hb5⟩
    | succ gg =>
      obtain ⟨g, off, rfl, hc⟩ := h.cells.resolve_left (by omega)
      obtain ⟨x, hxx⟩ : ∃ x, x = xs.getD i 0 := ⟨_, rfl⟩
      have hin : i < n := by omega
      have hcx0 : w.cell? ⟨g, off + i, none⟩ = some (V x) := by rw [hxx]; exact hc i hin
      have hcx : wr.cell? ⟨g, off + i, none⟩ = some (V x) := (HR.out.bel.cell (p := ⟨g, off + i, none⟩) (World.block_lt_of_cell? w _ hcx0)).trans hcx0
      have hxb : x < B32 := by rw [hxx]; exact HX.out.dig.getD B32_pos i
      have hxw : IntKind.u64.wrap (x : Int) = (x : Int) := wrap_mod _ _ (by rw [B32_eq] at hxb; omega)
      have hvw : IntKind.u64.wrap (v : Int) = (v : Int) := wrap_mod _ _ (by rw [B32_eq] at hv; omega)
      have HXE : Hid (x = xs.getD i 0) := hxx
      have hall := rmul_digit hxb hv B32_pos hcyb
      obtain ⟨xy, exy⟩ : ∃ xy, xy = x * v := ⟨_, rfl⟩
      rw [← exy] at hall
      rw [B64_eq] at hall
      have f1 : IntKind.u64.wrap ((x : Int) * (v : Int)) = (xy : Int) := by
        have e : ((x : Int) * (v : Int)) = ((x * v : Nat) : Int) := by simp
        rw [e, ← exy]; exact wrap_mod _ _ (by omega)
      obtain ⟨s2, es2⟩ : ∃ s2, s2 = cy + xy := ⟨_, rfl⟩
      have f3 : IntKind.u64.wrap ((cy : Int) + (xy : Int)) = (s2 : Int) := wrap_mod _ _ (by omega)
      have hs2 : s2 < 18446744073709551616 := by omega
      obtain ⟨lo, elo⟩ : ∃ lo, lo = s2 % B32 := ⟨_, rfl⟩
      obtain ⟨hh, ehh⟩ : ∃ hh, hh = s2 / B32 := ⟨_, rfl⟩
      have hlob : lo < B32 := by rw [elo]; exact Nat.mod_lt _ B32_pos
      have hhhb : hh < B32 := by rw [ehh]; exact Nat.div_lt_of_lt_mul (by rw [B32_two, B64_eq]; exact hs2)
      have f4 : bits .and .u64 (s2 : Int) 4294967295 = (lo : Int) := by rw [elo, B32_eq]; exact and32 s2 hs2
      have f5 : (s2 : Int) / 4294967296 = (hh : Int) := by rw [ehh, B32_eq]; exact div32 s2
      have f6 : IntKind.u32.wrap (lo : Int) = (lo : Int) := wrap32 lo hlob
      have HSUM : Hid (cy + x * v = lo + B32 * hh) := by
        have := Nat.mod_add_div s2 B32
        rw [← elo, ← ehh] at this
        show _ = _; omega
      have HOA : Hid ((wr.alloc (.cells #[V lo] 42)).ownsRow w.heap.size 42 1 (.slice (some ⟨w.heap.size, 0, none⟩) i N) i (cellsV ss)) := HR.out.own.alloc _
      have hsp : i + 1 ≤ N := by have := HN.out; omega
      clear hall exy es2 elo ehh hxx hcx0 hc
      go_wp2_with (at_builtin; refine wpList_append_fits _ rfl (.tmp 32) (.tmp 36) 30 rfl w.heap.size 42 i0 1 Try.underlying30 hi hz1 w.heap.size i N (cellsV ss) rfl HOA.out ⟨wr.heap.size, 0, none⟩ 1 1 [V lo] rfl rfl (one_cell wr lo) (by intro u hu; simp at hu; subst hu; rfl) hsp ?_; intro w3 hw3 hgr3)
      have HR3 : Hid (RSmR w w.heap.size N xs v u (i + 1) hh (ss ++ [lo]) w3) := by
        have hR := HR.out
        refine ⟨(hR.bel.alloc hR.bel.size _).grown hgr3 (by have := hR.bel.size; simp; omega) (fun q hq => by simp at hq; omega), ?_, by simp [hR.len], hR.dig.append (Dig.cons hlob (Dig.nil _)), hhhb, rsm_step hR.sum hR.len HXE.out HSUM.out⟩
        have e0 : cellsV (ss ++ [lo]) = cellsV ss ++ [V lo] := by unfold cellsV; rw [List.map_append]; rfl
        rw [e0]; exact hw3
      clear hw3 hgr3
      go_roundg gg
      case measure => omega
      case rel => exact ⟨i + 1, hh, ss ++ [lo], by omega, by go_num, rfl, rfl, HR3⟩
theorem wpList_make_room {P : Program} (w : World) {ops : Array Oper} {rest : List Oper} {o : Oper} {a : Act} {Q : Exit → Act → World → Prop}
    (hg : o.guard = none) (l c : Operand) (t : TypeId) (hop : o.op = Op.makeSlice t l c)
    (base : Nat) (e : TypeId) (i : TypeInfo) (z : Value) (size : Nat) (h1 : P.underlying t = some (.slice e)) (h2 : P.info? e = some i) (h3 : i.zero = some z) (h4 : i.size = size)
    (kl kc : IntKind) (L C : Int) (n m : Nat) (hl : a.eval l = .int kl L) (hc : a.eval c = .int kc C) (hL : L = (n : Int)) (hC : C = (m : Int)) (hnm : n ≤ m) (b2 : i.bytes * m ≤ 281474976710656) (b3 : m ≤ maxLen) (b4 : base ≤ w.heap.size)
    (hK : ∀ w', w'.ownsRow base e size (.slice (some ⟨w.heap.size, 0, none⟩) n m) n ((madeCells z.cells (m * size)).toList.take (n * size)) → w.grownBy w' none → wpList P ops Q rest (a.put o.dst (.slice (some ⟨w.heap.size, 0, none⟩) n m)) w') :
    wpList P ops Q (o :: rest) a w := by
  refine wpList_plain hg fun K hK' => ?_
  subst h4
  have h63' : (m : Int) ≤ 9223372036854775807 := by
    have h := b3
    simp [maxLen] at h
    omega
  have hb' : (i.bytes : Int) * (m : Int) ≤ 281474976710656 := by
    have h : ((i.bytes * m : Nat) : Int) ≤ 281474976710656 := by omega
    rwa [Int.natCast_mul] at h
  have hr := run_make (P := P) w t e i z h1 h2 h3 kl kc n m (by omega) (by omega) hb' h63'
  simp only [Int.toNat_natCast] at hr
  subst hL
  subst hC
  unfold Oper.wp
  simp [execOp, hop, hl, hc, hr, Result.andThen]
  refine hK' _ _ (hK _ ⟨?_, .inr ⟨_, m, _, rfl, b4, heap_alloc_new w _, hnm, b3, size_madeCells _ _, rfl⟩⟩ (World.grownBy_alloc w _ none))
  rw [List.length_take, Nat.min_eq_left]
  rw [Array.length_toList, size_madeCells]
  exact Nat.mul_le_mul_right _ hnm
theorem made_take (D M : Nat) (h : D ≤ M) : (madeCells (Value.cells (.int .u32 0)) (M * 1)).toList.take (D * 1) = cellsV (List.replicate D 0) := by
  rw [madeV, Nat.mul_one]
  unfold cellsV
  rw [List.map_replicate, List.map_replicate, List.take_replicate, Nat.min_eq_left h]
theorem valB_zeros (D : Nat) (zs : List Nat) : valB B32 (List.replicate D 0 ++ zs) = B32 ^ D * valB B32 zs := by
  rw [valB_append, valB_replicate, List.length_replicate, Nat.zero_add]

theorem own_below {w w' : World} {base g n m size : Nat} {e : TypeId} {xs : List Value} (h : w.ownsRow base e size (.slice (some ⟨g, 0, none⟩) n m) n xs) (hb : Below w.heap.size w w') (hg : g < w.heap.size) : w'.ownsRow base e size (.slice (some ⟨g, 0, none⟩) n m) n xs := by
  refine ⟨h.1, ?_⟩
  rcases h.2 with ⟨h', _⟩ | ⟨g', cap', cur, h', hbase, hgc, hr⟩
  · simp at h'
  · have h2 := h'
    simp only [Value.slice.injEq, Option.some.injEq, Addr.mk.injEq, and_true] at h2
    obtain ⟨rfl, _⟩ := h2
    exact .inr ⟨_, cap', cur, h', hbase, (hb.block _ hg).trans hgc, hr⟩
theorem blk_src {w : World} {g : Nat} {xs : List Nat} (h : Blk32 w g xs) : ∀ j u, (cellsV xs)[j]? = some u → w.cell? ((⟨g, 0, none⟩ : Addr).add j) = some u := by
  intro j u hu
  have hj : j < xs.length := by
    have := (List.getElem?_eq_some_iff.1 hu).1
    rwa [cellsV_length] at this
  have hadd : (⟨g, 0, none⟩ : Addr).add j = ⟨g, j, none⟩ := by unfold Addr.add; split <;> simp_all
  rw [hadd, h.cell j hj]
  rw [cellsV_get xs j hj] at hu
  exact hu

theorem rshl_any {p : Option Addr} {n c : Nat} {xs : List Nat} {a : Nat} {w : World} (h : At32 w p n c xs) (hx : Nf B32 xs a) (hn0 : 0 < n) (hn : n ≤ 16384) (N : Nat) (hN2 : N ≤ 524288) :
    Calls Try.prog 14 #[.slice p n c, .int .i64 N] w fun e w' => ∃ p' m' zs, e = .returned (.slice p' m' m') ∧ At32 w' p' m' m' zs ∧ Nf B32 zs (a * 2 ^ N) ∧ m' ≤ 40000 ∧ Below w.heap.size w w' := by
  obtain ⟨i0, hi, hz0, hz1, hz2⟩ := info_parts Try.infoU32
  have HX : Hid (Nf B32 xs a) := hx
  have HA : Hid (At32 w p n c xs) := h
  have HLX : Hid (xs.length = n) := h.len
  have cap := h.cap
  have big := h.big
  unfold maxLen at big
  have hne : ((n : Int) == 0) = false := by simp; omega
  clear hx h
  by_cases hN0 : N = 0
  · subst hN0
    go_enter Try.func14, Try.ntmps14
    go_wp2_with fail
    refine (rnorm_any HA.out (by omega)).mono ?_
    rw [trimL_of_Top HX.out.top]
    rintro e w1 ⟨g, rfl, hg, hb, hbl⟩
    have HB : Hid (Blk32 w1 g xs) := hb
    rw [HLX.out]
    clear hb
    go_wp2_with fail
    go_ret
    exact ⟨_, n, xs, rfl, HB.out.at_ HX.out.dig HLX.out (by unfold maxLen; omega), by rw [Nat.pow_zero, Nat.mul_one]; exact HX.out, by omega, hbl⟩
  · obtain ⟨D, hD⟩ : ∃ D, D = N / 32 := ⟨_, rfl⟩
    obtain ⟨R, hR⟩ : ∃ R, R = N % 32 := ⟨_, rfl⟩
    have d1 : (N : Int).tdiv 32 = (D : Int) := by rw [Int.tdiv_eq_ediv_of_nonneg (by omega)]; omega
    have d2 : (N : Int).tmod 32 = (R : Int) := by rw [Int.tmod_eq_emod_of_nonneg (by omega)]; omega
    have hNp : ¬ (N : Int) ≤ 0 := by omega
    have hR32 : R < 32 := by omega
    have hDb : D ≤ 16384 := by omega
    have HD : Hid (2 ^ N = B32 ^ D * 2 ^ R) := by show _ = _; rw [show B32 = 2 ^ 32 from rfl, ← Nat.pow_mul, ← Nat.pow_add]; congr 1; omega
    obtain ⟨M, hM⟩ : ∃ M, M = D + n + 1 := ⟨_, rfl⟩
    have hMI : (D : Int) + (n : Int) + 1 = (M : Int) := by omega
    have HM : Hid (M = D + n + 1) := hM
    have hMb : M ≤ 33000 := by omega
    have hDM : D ≤ M := by omega
    obtain ⟨d, hd⟩ : ∃ d, d = 2 ^ R := ⟨_, rfl⟩
    have hd1 : 1 ≤ d := by rw [hd]; exact Nat.pow_pos (by decide)
    have hdB : d < B32 := by rw [hd, show B32 = 2 ^ 32 from rfl]; exact Nat.pow_lt_pow_right (by decide) hR32
    have hdw : IntKind.u32.wrap (d : Int) = (d : Int) := wrap32 d hdB
    have hdI : (2 : Int) ^ R = (d : Int) := by rw [hd]; norm_cast
    have HDD : Hid (d = 2 ^ R ∧ 1 ≤ d ∧ d < B32) := ⟨hd, hd1, hdB⟩
    clear hD hR hM hd hd1 hdB
    go_enter Try.func14, Try.ntmps14
    go_wp2_with (at_make; refine wpList_make_room _ rfl _ _ 30 rfl w.heap.size 42 i0 (.int .u32 0) 1 Try.underlying30 hi hz0 hz1 _ _ _ _ D M rfl rfl (by omega) (by omega) hDM (by rw [hz2]; omega) (by unfold maxLen; omega) (Nat.le_refl _) ?_; intro w1 hown hgrow)
    have hb1 : Below w.heap.size w w1 := (Below.refl _ _).grown hgrow (Nat.le_refl _) (fun k hk => by simp at hk)
    rw [made_take D M hDM] at hown
    have HO : Hid (w1.ownsRow w.heap.size 42 1 (.slice (some ⟨w.heap.size, 0, none⟩) D M) D (cellsV (List.replicate D 0))) := hown
    have HA1 : Hid (At32 w1 p n c xs) := HA.out.below hb1
    have HB1 : Hid (Below w.heap.size w w1) := hb1
    have HSZ : Hid (w.heap.size < w1.heap.size) := by
      rcases HO.out.2 with ⟨h', _⟩ | ⟨g', _, _, h', _, hgc, _⟩
      · simp at h'
      · simp only [Value.slice.injEq, Option.some.injEq, Addr.mk.injEq, and_true] at h'
        obtain ⟨rfl, _⟩ := h'
        exact (Array.getElem?_eq_some_iff.1 hgc).1
    clear hown hgrow hb1 HA
    rw [show Value.int IntKind.u32 (d : Int) = V d from rfl, show Value.int IntKind.u32 0 = V 0 from rfl]
    refine (rsmall_any HA1.out HX.out (by omega) HDD.out.2.2 (show 0 < B32 by decide)).mono ?_
    rintro e w2 ⟨g2, z2, rfl, hk2, hn2, hl2, hb2⟩
    rw [Nat.add_zero] at hn2
    have HO2 : Hid (w2.ownsRow w.heap.size 42 1 (.slice (some ⟨w.heap.size, 0, none⟩) D M) D (cellsV (List.replicate D 0))) := own_below HO.out hb2 HSZ.out
    have HK2 : Hid (Blk32 w2 g2 z2) := hk2
    have HN2 : Hid (Nf B32 z2 (a * d)) := hn2
    have HB2 : Hid (Below w.heap.size w w2) := Below.on HB1.out hb2
    obtain ⟨l2, hle2⟩ : ∃ l2, l2 = z2.length := ⟨_, rfl⟩
    have HL2 : Hid (z2.length = l2) := hle2.symm
    rw [← hle2] at hl2 ⊢
    have hsp : D + l2 ≤ M := by have := HM.out; omega
    clear hk2 hn2 hb2 hle2 HO HA1 HB1
    go_wp2_with (at_builtin; refine wpList_append_fits _ rfl (.tmp 24) (.tmp 29) 30 rfl w.heap.size 42 i0 1 Try.underlying30 hi hz1 w.heap.size D M (cellsV (List.replicate D 0)) rfl HO2.out ⟨g2, 0, none⟩ l2 l2 (cellsV z2) rfl (by rw [cellsV_length, HL2.out, Nat.mul_one]) (blk_src HK2.out) (cellsV_one _) hsp ?_; intro w3 hw3 hgr3)
    have hd3 : Dig B32 (List.replicate D 0 ++ z2) := (Dig.replicate B32 D B32_pos).append HN2.out.dig
    have hl3 : (List.replicate D 0 ++ z2).length = D + l2 := by rw [List.length_append, List.length_replicate, HL2.out]
    have A3 : Hid (At32 w3 (some ⟨w.heap.size, 0, none⟩) (D + l2) M (List.replicate D 0 ++ z2)) := own_at32 (by rw [show cellsV (List.replicate D 0 ++ z2) = cellsV (List.replicate D 0) ++ cellsV z2 from by unfold cellsV; rw [List.map_append]]; exact hw3) hl3 hd3
    have HB3 : Hid (Below w.heap.size w w3) := HB2.out.grown hgr3 HB2.out.size (fun q hq => by simp at hq; omega)
    have NF3 : Hid (Nf B32 (trimL (List.replicate D 0 ++ z2)) (a * 2 ^ N)) := by
      have h1 := Nf.trim hd3
      rw [valB_zeros, HN2.out.val] at h1
      have e1 : B32 ^ D * (a * d) = a * 2 ^ N := by rw [HD.out, ← HDD.out.1, Nat.mul_left_comm]
      rw [e1] at h1; exact h1
    have hle3 : (trimL (List.replicate D 0 ++ z2)).length ≤ D + l2 := by have h1 := trimL_length_le (List.replicate D 0 ++ z2); omega
    clear hw3 hgr3 hl3 hd3
    refine (rnorm_any A3.out (by omega)).mono ?_
    rintro e w4 ⟨g4, rfl, hg4, hb4, hbl4⟩
    have A4 : Hid (At32 w4 (some ⟨g4, 0, none⟩) (trimL (List.replicate D 0 ++ z2)).length (trimL (List.replicate D 0 ++ z2)).length (trimL (List.replicate D 0 ++ z2))) := hb4.at_ NF3.out.dig rfl (by unfold maxLen; omega)
    have hbw4 := Below.on HB3.out hbl4
    generalize trimL (List.replicate D 0 ++ z2) = z4 at *
    clear hb4 hbl4 hg4
    go_wp2_with fail
    go_ret
    exact ⟨_, _, z4, rfl, A4.out, NF3.out, by omega, hbw4⟩
theorem lit_at32w (w : World) (x y : Nat) (hx : x < B32) (hy : y < B32) : At32 (w.alloc (.cells #[V x, V y] 42)) (some ⟨w.heap.size, 0, none⟩) 2 2 [x, y] := by
  refine ⟨rfl, Nat.le_refl _, by decide, ?_, .inr ⟨w.heap.size, 0, rfl, ?_⟩⟩
  · intro z hz
    simp at hz
    rcases hz with rfl | rfl <;> assumption
  · intro j hj
    match j, hj with
    | 0, _ => exact World.cell?_alloc_new ..
    | 1, _ => exact World.cell?_alloc_new ..
theorem rword (x : Nat) (hx : x < B64) (w : World) : Calls Try.prog 17 #[U x] w fun e w' => ∃ g zs, e = .returned (.slice (some ⟨g, 0, none⟩) zs.length zs.length) ∧ zs.length ≤ 2 ∧ At32 w' (some ⟨g, 0, none⟩) zs.length zs.length zs ∧ Nf B32 zs x ∧ Below w.heap.size w w' := by
  obtain ⟨lo, hlo⟩ : ∃ lo, lo = x % B32 := ⟨_, rfl⟩
  obtain ⟨hi, hhi⟩ : ∃ hi, hi = x / B32 := ⟨_, rfl⟩
  have hlb : lo < B32 := by rw [hlo]; exact Nat.mod_lt _ B32_pos
  have hhb : hi < B32 := by rw [hhi]; refine Nat.div_lt_of_lt_mul ?_; rw [B32_two]; exact hx
  have e1 : bits .and .u64 (x : Int) 4294967295 = (lo : Int) := by rw [hlo, B32_eq]; exact and32 x (by rw [← B64_eq]; exact hx)
  have e2 : (x : Int) / 4294967296 = (hi : Int) := by rw [hhi, B32_eq]; exact div32 x
  have e3 : IntKind.u32.wrap (lo : Int) = (lo : Int) := wrap32 lo hlb
  have e4 : IntKind.u32.wrap (hi : Int) = (hi : Int) := wrap32 hi hhb
  have HV : Hid (valB B32 [lo, hi] = x) := by show _ = _; simp only [valB, hlo, hhi]; have := Nat.mod_add_div x B32; omega
  have HLB : Hid (lo < B32 ∧ hi < B32) := ⟨hlb, hhb⟩
  clear hlo hhi hlb hhb
  go_enter Try.func17, Try.ntmps17
  go_wp2_with fail
  refine (rnorm_any (lit_at32w w lo hi HLB.out.1 HLB.out.2) (by omega)).mono ?_
  rintro e w1 ⟨g, rfl, hg, hb, hbl⟩
  have hl := trimL_length_le [lo, hi]
  have hA : At32 w1 (some ⟨g, 0, none⟩) (trimL [lo, hi]).length (trimL [lo, hi]).length (trimL [lo, hi]) := hb.at_ (Dig.trimL (lit_at32w w lo hi HLB.out.1 HLB.out.2).dig) rfl (by unfold maxLen; simp at hl; omega)
  have hN : Nf B32 (trimL [lo, hi]) x := ⟨Dig.trimL (lit_at32w w lo hi HLB.out.1 HLB.out.2).dig, Top_trimL _, by rw [valB_trimL]; exact HV.out⟩
  have HH : Hid (At32 w1 (some ⟨g, 0, none⟩) (trimL [lo, hi]).length (trimL [lo, hi]).length (trimL [lo, hi]) ∧ Nf B32 (trimL [lo, hi]) x ∧ (trimL [lo, hi]).length ≤ 2) := ⟨hA, hN, by simpa using hl⟩
  have hbw := Below.on (below1 w _) hbl
  generalize trimL [lo, hi] = zs at *
  clear hA hN hl hb hbl hg
  go_wp2_with fail
  go_ret
  exact ⟨g, zs, rfl, HH.out.2.2, HH.out.1, HH.out.2.1, hbw⟩
end Go.Proofs.Ythjofcakkaolbaa
namespace Go.Proofs.Ythjofcakkaolbaa
open Go.RowKit
set_option maxRecDepth 20000
set_option maxHeartbeats 0
theorem bitsN_pos {a : Nat} (h : a ≠ 0) : 0 < bitsN a := by unfold bitsN; rw [if_neg h]; omega
end Go.Proofs.Ythjofcakkaolbaa
namespace Go.Proofs.Ythjofcakkaolbaa
open Go.RowKit Go.Shelf
set_option maxRecDepth 20000
set_option maxHeartbeats 0
structure B5 (W : World) (g : Nat) (v0 v1 v2 v3 v4 : Value) : Prop where
  c0 : W.cell? ⟨g, 0, none⟩ = some v0
  c1 : W.cell? ⟨g, 1, none⟩ = some v1
  c2 : W.cell? ⟨g, 2, none⟩ = some v2
  c3 : W.cell? ⟨g, 3, none⟩ = some v3
  c4 : W.cell? ⟨g, 4, none⟩ = some v4
  f0 : W.frozen? ⟨g, 0, none⟩ = false
  f1 : W.frozen? ⟨g, 1, none⟩ = false
  f2 : W.frozen? ⟨g, 2, none⟩ = false
  f3 : W.frozen? ⟨g, 3, none⟩ = false
  f4 : W.frozen? ⟨g, 4, none⟩ = false
theorem B5.below {W W' : World} {g : Nat} {v0 v1 v2 v3 v4 : Value} (h : B5 W g v0 v1 v2 v3 v4) (hb : Below W.heap.size W W') : B5 W' g v0 v1 v2 v3 v4 := by
  have hl : g < W.heap.size := World.block_lt_of_cell? W _ h.c0
  exact ⟨(hb.cell (p := ⟨g, 0, none⟩) hl).trans h.c0, (hb.cell (p := ⟨g, 1, none⟩) hl).trans h.c1, (hb.cell (p := ⟨g, 2, none⟩) hl).trans h.c2, (hb.cell (p := ⟨g, 3, none⟩) hl).trans h.c3, (hb.cell (p := ⟨g, 4, none⟩) hl).trans h.c4,
    (hb.frozen (p := ⟨g, 0, none⟩) hl).trans h.f0, (hb.frozen (p := ⟨g, 1, none⟩) hl).trans h.f1, (hb.frozen (p := ⟨g, 2, none⟩) hl).trans h.f2, (hb.frozen (p := ⟨g, 3, none⟩) hl).trans h.f3, (hb.frozen (p := ⟨g, 4, none⟩) hl).trans h.f4⟩
theorem B5.new (w : World) (ty : TypeId) (v0 v1 v2 v3 v4 : Value) : B5 (w.alloc (.cells #[v0, v1, v2, v3, v4] ty)) w.heap.size v0 v1 v2 v3 v4 :=
  ⟨by go_simp, by go_simp, by go_simp, by go_simp, by go_simp, by go_simp, by go_simp, by go_simp, by go_simp, by go_simp⟩
theorem DocIs.er {v : Nat} {us : List Nat} {f : Int} (h : DocIs v us f) : f = 0 ∨ f = 5 := by
  rcases h with ⟨_, _, rfl⟩ | ⟨_, _, rfl⟩ <;> simp
structure Op5 where
  k : Int
  pa : Option Addr
  na : Nat
  ca : Nat
  xa : List Nat
  pb : Option Addr
  nb : Nat
  cb : Nat
  xb : List Nat
  nn : Int
  wd : Nat
structure Scr (w : World) (P : Option Addr) (N C : Nat) (its : List Op5) : Prop where
  len : its.length = N
  cap : N ≤ C
  big : C ≤ maxLen
  ats : ∀ t ∈ its, At w t.pa t.na t.ca t.xa ∧ At w t.pb t.nb t.cb t.xb ∧ t.na ≤ 17592186044416 ∧ t.nb ≤ 17592186044416 ∧ t.wd < B64 ∧ -9223372036854775808 ≤ t.nn ∧ t.nn ≤ 9223372036854775807
  cells : N = 0 ∨ ∃ g off, P = some ⟨g, off, none⟩ ∧ ∀ i (h : i < its.length), w.cell? ⟨g, off + i * 5, none⟩ = some (.int .i64 its[i].k) ∧ w.cell? ⟨g, off + i * 5 + 1, none⟩ = some (.slice its[i].pa its[i].na its[i].ca) ∧
    w.cell? ⟨g, off + i * 5 + 2, none⟩ = some (.slice its[i].pb its[i].nb its[i].cb) ∧ w.cell? ⟨g, off + i * 5 + 3, none⟩ = some (.int .i64 its[i].nn) ∧ w.cell? ⟨g, off + i * 5 + 4, none⟩ = some (U its[i].wd)
theorem Scr.below {w w' : World} {P : Option Addr} {N C : Nat} {its : List Op5} (h : Scr w P N C its) (hb : Below w.heap.size w w') : Scr w' P N C its := by
  refine ⟨h.len, h.cap, h.big, fun t ht => ?_, ?_⟩
  · obtain ⟨h1, h2, h3⟩ := h.ats t ht
    exact ⟨h1.below hb, h2.below hb, h3⟩
  · rcases h.cells with h0 | ⟨g, off, hP, hc⟩
    · exact .inl h0
    · refine .inr ⟨g, off, hP, fun i hi => ?_⟩
      obtain ⟨h0, h1, h2, h3, h4⟩ := hc i hi
      have hl : g < w.heap.size := World.block_lt_of_cell? w _ h0
      exact ⟨(hb.cell (p := ⟨g, off + i * 5, none⟩) hl).trans h0, (hb.cell (p := ⟨g, off + i * 5 + 1, none⟩) hl).trans h1, (hb.cell (p := ⟨g, off + i * 5 + 2, none⟩) hl).trans h2,
        (hb.cell (p := ⟨g, off + i * 5 + 3, none⟩) hl).trans h3, (hb.cell (p := ⟨g, off + i * 5 + 4, none⟩) hl).trans h4⟩
end Go.Proofs.Ythjofcakkaolbaa
namespace Go.Proofs.Ythjofcakkaolbaa
open Go.RowKit
set_option maxRecDepth 20000
set_option maxHeartbeats 0
theorem Own.empty (B : Nat) (w : World) (p : Option Addr) : Own B w p 0 [] := ⟨rfl, Dig.nil _, .inl rfl⟩
theorem At.drop {w : World} {g off n c : Nat} {xs : List Nat} (h : At w (some ⟨g, off, none⟩) n c xs) (k : Nat) (hk : k < n) : At w (some ⟨g, off + k, none⟩) (n - k) (n - k) (xs.drop k) := by
  have h1 := h.len; have h2 := h.cap; have h3 := h.big
  refine ⟨by rw [List.length_drop, h1], Nat.le_refl _, by omega, h.dig.drop k, .inr ⟨g, off + k, rfl, fun j hj => ?_⟩⟩
  obtain ⟨g', off', hp, hc⟩ := h.cells.resolve_left (by omega)
  simp only [Option.some.injEq, Addr.mk.injEq, and_true] at hp
  obtain ⟨rfl, rfl⟩ := hp
  have e : (xs.drop k).getD j 0 = xs.getD (k + j) 0 := by rw [List.getD_eq_getElem?_getD, List.getD_eq_getElem?_getD, List.getElem?_drop]
  rw [e, Nat.add_assoc]; exact hc (k + j) (by omega)
end Go.Proofs.Ythjofcakkaolbaa
namespace Go.Proofs.Ythjofcakkaolbaa
open Go.RowKit Go.Shelf
set_option maxRecDepth 20000
set_option maxHeartbeats 0
def ShIs (r : Nat → Nat → Nat) (xs : List Nat) (t : Int) (us : List Nat) (f : Int) : Prop :=
  (t < 0 ∧ us = [] ∧ f = 1) ∨ (0 ≤ t ∧ formB xs = false ∧ us = [] ∧ f = 2) ∨ (0 ≤ t ∧ formB xs = true ∧ DocIs (r (valB B64 xs) t.toNat) us f)
theorem ShIs.er {r : Nat → Nat → Nat} {xs us : List Nat} {t f : Int} (h : ShIs r xs t us f) : f = 0 ∨ f = 1 ∨ f = 2 ∨ f = 3 ∨ f = 4 ∨ f = 5 := by
  rcases h with ⟨_, _, rfl⟩ | ⟨_, _, _, rfl⟩ | ⟨_, _, ⟨_, _, rfl⟩ | ⟨_, _, rfl⟩⟩ <;> simp
theorem rshr_all {p : Option Addr} {n c : Nat} {xs : List Nat} {v : Nat} {w : World} (h : At32 w p n c xs) (hx : Nf B32 xs v) (hn : n ≤ 16384) (N : Nat) (hN2 : N ≤ 9223372036854775807) :
    Calls Try.prog 15 #[.slice p n c, .int .i64 N] w fun e w' => ∃ p' m' zs, e = .returned (.slice p' m' m') ∧ At32 w' p' m' m' zs ∧ Nf B32 zs (v / 2 ^ N) ∧ m' ≤ n ∧ Below w.heap.size w w' := by
  rcases Nat.eq_zero_or_pos N with h0 | h0
  · subst h0
    have HX : Hid (Nf B32 xs v) := hx
    have HA : Hid (At32 w p n c xs) := h
    clear h hx
    go_enter Try.func15, Try.ntmps15
    go_wp2_with fail
    refine (rnorm_any HA.out (by omega)).mono ?_
    rw [trimL_of_Top HX.out.top]
    rintro e w1 ⟨g, rfl, hg, hb, hbl⟩
    have HB : Hid (Blk32 w1 g xs) := hb
    rw [HA.out.len]
    clear hb
    go_wp2_with fail
    go_ret
    exact ⟨_, n, xs, rfl, HB.out.at_ HX.out.dig HA.out.len (by unfold maxLen; omega), by rw [Nat.pow_zero, Nat.div_one]; exact HX.out, by omega, hbl⟩
  · exact rfshr_any h hx hn N h0 hN2
end Go.Proofs.Ythjofcakkaolbaa
namespace Go.Proofs.Ythjofcakkaolbaa
open Go.RowKit
set_option maxRecDepth 20000
set_option maxHeartbeats 0
variable {P : Program} {md : Region.Mode} {ops : Array Oper} {Q : Exit → Act → World → Prop} {J : World → Prop}

def wpJ (P : Program) (md : Region.Mode) (ops : Array Oper) (Q : Exit → Act → World → Prop) (J : World → Prop) : Nat → Array Bool → Act → World → Prop
  | 0, listed, a, w => Region.ready md ops listed = [] ∧ Q .normal a w
  | fuel + 1, listed, a, w =>
    (Region.ready md ops listed = [] → Q .normal a w) ∧
    ∀ i ∈ Region.ready md ops listed, wpOp P ops Q i (fun a' w' => J w' ∧ wpJ P md ops Q J fuel (listed.setIfInBounds i true) a' w') a w
theorem wpJ_any : ∀ (fuel : Nat) (listed : Array Bool) (a : Act) (w : World), wpJ P md ops Q J fuel listed a w → wpAny P md ops Q fuel listed a w
  | 0, _, _, _, h => h
  | fuel + 1, _, _, _, h => ⟨h.1, fun i hi => wpOp_mono (fun a' w' h' => wpJ_any fuel _ a' w' h'.2) (h.2 i hi)⟩

def YieldsJ (P : Program) (ops : Array Oper) (J : World → Prop) (o : Oper) (v : Value) (a : Act) : Prop :=
  (Region.wanted o (yielded ops a.tmps) = true ∧ ∀ w, J w → (execOp a.eval o).run P w = .ok (.value v) w) ∨ (Region.wanted o (yielded ops a.tmps) = false ∧ v = undef)
theorem YieldsJ.wpOp {i : Nat} {o : Oper} {v : Value} {a : Act} (hi : ops[i]? = some o) (hy : YieldsJ P ops J o v a)
    {K : Act → World → Prop} {w : World} (hJ : J w) (h : K (a.put o.dst v) w) : wpOp P ops Q i K a w := by
  unfold Go.wpOp
  simp only [hi]
  rcases hy with ⟨hw, hv⟩ | ⟨hw, rfl⟩
  · simp only [hw, if_true, Oper.wp, hv w hJ, Oper.upon]
    exact .inl h
  · simp only [hw]
    exact h
theorem YieldsJ.of_same {o : Oper} {v : Value} {a a' : Act} (hy : YieldsJ P ops J o v a) (he : execOp a'.eval o = execOp a.eval o)
    (hw : Region.wanted o (yielded ops a'.tmps) = Region.wanted o (yielded ops a.tmps)) : YieldsJ P ops J o v a' := by
  unfold YieldsJ at *
  rw [he, hw]
  exact hy
theorem wpOpJ_put {j : Nat} {oi oj : Oper} {v : Value} (hj : ops[j]? = some oj) (hap : oi.apart ops oj = true)
    (hsi : ∀ cs b, oi.op ≠ .select cs b) (hsj : ∀ cs b, oj.op ≠ .select cs b)
    (hQ : ∀ c a w, Q (.panic c) (a.put oi.dst v) w → Q (.panic c) a w) {K : Act → World → Prop} {a : Act} {w : World}
    (hy : YieldsJ P ops J oi v a) (h : wpOp P ops Q j K (a.put oi.dst v) w) :
    wpOp P ops Q j (fun a' w' => YieldsJ P ops J oi v a' ∧ K (a'.put oi.dst v) w') a w := by
  obtain ⟨h1, h2, h3⟩ := Oper.apart_spec hap
  have keep : ∀ (a : Act), YieldsJ P ops J oi v a → ∀ u, YieldsJ P ops J oi v (a.put oj.dst u) := fun a hy u =>
    hy.of_same (execOp_put oi hsi a oj.dst u h3) (wanted_put oi a oj.dst u h3)
  have keepD : ∀ d, YieldsJ P ops J oi v { a with defers := d :: a.defers } := fun d => hy.of_same rfl rfl
  unfold wpOp at *
  simp only [hj] at *
  rw [wanted_put oj a oi.dst v h1] at h
  split
  · rename_i hw
    simp only [hw, if_true] at h
    rcases h with h | ⟨hasks, hlets⟩
    case inr => exact .inr ⟨by unfold Oper.asks at *; rw [execOp_put oj hsj a oi.dst v h1] at hasks; exact hasks, hlets⟩
    refine .inl ?_
    unfold Oper.wp at *
    rw [execOp_put oj hsj a oi.dst v h1] at h
    generalize (execOp a.eval oj).run P w = r at *
    cases r with
    | ok n w' =>
      cases n <;> simp only [Oper.upon] at h ⊢
      case value u => exact ⟨keep a hy u, by rw [← Act.put_comm a v u h2]; exact h⟩
      case skip => exact ⟨keep a hy _, by rw [← Act.put_comm a v undef h2]; exact h⟩
      case defer d =>
        refine ⟨keep _ (keepD d) _, ?_⟩
        rw [← Act.put_comm _ v undef h2, ← Act.put_defers]
        exact h
      case enter f args =>
        refine Calls.mono h fun e w'' he => ?_
        cases e with
        | returned u => exact ⟨keep a hy u, by rw [← Act.put_comm a v u h2]; exact he⟩
        | panicked c => exact hQ _ _ _ he
        | outgrown => exact he
      case row row args => exact Rows.mono h fun u w'' he => ⟨keep a hy u, by rw [← Act.put_comm a v u h2]; exact he⟩
    | halt x w' =>
      cases x <;> simp only [Oper.upon] at h ⊢
      case panic u => exact hQ _ _ _ h
  · rename_i hw
    simp only [hw] at h
    exact ⟨keep a hy _, by rw [← Act.put_comm a v undef h2]; exact h⟩

theorem wpJ_first {i : Nat} {oi : Oper} {v : Value} (hi : ops[i]? = some oi) (hsel : ∀ (j : Nat) (o : Oper) cs b, ops[j]? = some o → o.op ≠ .select cs b)
    (hQ : ∀ c a w, Q (.panic c) (a.put oi.dst v) w → Q (.panic c) a w) :
    ∀ (fuel : Nat) (listed : Array Bool) (a : Act) (w : World),
      (∀ j oj, ops[j]? = some oj → j ≠ i → listed.getD j true = false → (∀ e ∈ oj.after, Region.binds md e = true → e.on ≠ i) → oi.apart ops oj = true) →
      i ∈ Region.ready md ops listed → YieldsJ P ops J oi v a → J w →
      wpJ P md ops Q J fuel (listed.setIfInBounds i true) (a.put oi.dst v) w → wpJ P md ops Q J (fuel + 1) listed a w := by
  intro fuel
  induction fuel with
  | zero =>
    intro listed a w _ hr hy hJ H
    refine ⟨fun h => (by rw [h] at hr; cases hr), fun j hj => ?_⟩
    by_cases hji : j = i
    · subst hji; exact hy.wpOp hi hJ ⟨hJ, H⟩
    · have := ready_mono hj hji
      rw [H.1] at this
      cases this
  | succ fuel ih =>
    intro listed a w hfree hr hy hJ H
    refine ⟨fun h => (by rw [h] at hr; cases hr), fun j hj => ?_⟩
    by_cases hji : j = i
    · subst hji; exact hy.wpOp hi hJ ⟨hJ, H⟩
    · have h1 := H.2 j (ready_mono hj hji)
      obtain ⟨hjun, oj, hoj, hall⟩ := mem_ready.1 hj
      have hnot : ∀ e ∈ oj.after, Region.binds md e = true → e.on ≠ i := fun e he hb heq => by
        have h1 := hall e he hb
        have h0 := (mem_ready.1 hr).1
        rw [heq] at h1
        rcases Nat.lt_or_ge i listed.size with h' | h'
        · simp [h'] at h0 h1; rw [h0] at h1; cases h1
        · simp [Array.getElem?_eq_none h'] at h1
      have h2 := wpOpJ_put hoj (hfree j oj hoj hji hjun hnot) (fun cs b => hsel i oi cs b hi) (fun cs b => hsel j oj cs b hoj) hQ hy h1
      have hfree' : ∀ k ok, ops[k]? = some ok → k ≠ i → (listed.setIfInBounds j true).getD k true = false →
          (∀ e ∈ ok.after, Region.binds md e = true → e.on ≠ i) → oi.apart ops ok = true := fun k ok hk hki hun hno => by
        refine hfree k ok hk hki ?_ hno
        by_cases hjk : j = k
        · subst hjk; exact hjun
        · rw [getD_set_ne true hjk] at hun; exact hun
      refine wpOp_mono (fun a' w' h3 => ⟨h3.2.1, ih (listed.setIfInBounds j true) a' w' hfree' (ready_mono hr (Ne.symm hji)) h3.1 h3.2.1 ?_⟩) h2
      rw [Array.setIfInBounds_comm _ _ hji]
      exact h3.2.2

theorem wpJ_take {i : Nat} {oi : Oper} {v : Value} {fuel : Nat} {listed : Array Bool} {a : Act} {w : World} (hi : ops[i]? = some oi)
    (hs : Region.noSelect ops = true) (hf : Region.free md ops listed i = true) (hr : (Region.ready md ops listed).contains i = true)
    (hQ : ∀ c a w, Q (.panic c) (a.put oi.dst v) w → Q (.panic c) a w) (hw : Region.wanted oi (yielded ops a.tmps) = true)
    (hy : ∀ w, J w → (execOp a.eval oi).run P w = .ok (.value v) w) (hJ : J w)
    (h : wpJ P md ops Q J fuel (listed.setIfInBounds i true) (a.put oi.dst v) w) : wpJ P md ops Q J (fuel + 1) listed a w :=
  wpJ_first hi (Region.noSelect_spec hs) hQ fuel listed a w (Region.free_spec hi hf) (by simpa using hr) (.inl ⟨hw, hy⟩) hJ h
theorem wpJ_tk (i : Nat) {oi : Oper} {v : Value} {fuel : Nat} {listed : Array Bool} {a : Act} {w : World} (hi : ops[i]? = some oi)
    (hy : ∀ w, J w → (execOp a.eval oi).run P w = .ok (.value v) w) (hJ : J w)
    (h : wpJ P md ops Q J fuel (listed.setIfInBounds i true) (a.put oi.dst v) w) (hs : Region.noSelect ops = true := by kernel_rfl) (hf : Region.free md ops listed i = true := by kernel_rfl)
    (hr : (Region.ready md ops listed).contains i = true := by kernel_rfl) (hQ : ∀ c a w, Q (.panic c) (a.put oi.dst v) w → Q (.panic c) a w := by exact fun _ _ _ h => h)
    (hw : Region.wanted oi (yielded ops a.tmps) = true := by kernel_rfl) : wpJ P md ops Q J (fuel + 1) listed a w := wpJ_take hi hs hf hr hQ hw hy hJ h
theorem wpJ_tq (i : Nat) {oi : Oper} {v : Value} {fuel : Nat} {listed : Array Bool} {a : Act} {w : World} (hi : ops[i]? = some oi) (hJ : J w)
    (h : wpJ P md ops Q J fuel (listed.setIfInBounds i true) (a.put oi.dst v) w)
    (hy : ∀ w, J w → (execOp a.eval oi).run P w = .ok (.value v) w := by (intro W' hJ; repeat (obtain ⟨_, hJ⟩ := hJ); go_simp; first | done | with_reducible rfl)) (hs : Region.noSelect ops = true := by kernel_rfl) (hf : Region.free md ops listed i = true := by kernel_rfl)
    (hr : (Region.ready md ops listed).contains i = true := by kernel_rfl) (hQ : ∀ c a w, Q (.panic c) (a.put oi.dst v) w → Q (.panic c) a w := by exact fun _ _ _ h => h)
    (hw : Region.wanted oi (yielded ops a.tmps) = true := by kernel_rfl) : wpJ P md ops Q J (fuel + 1) listed a w := wpJ_take hi hs hf hr hQ hw hy hJ h
theorem wpJ_one {i : Nat} {o : Oper} {fuel : Nat} {listed : Array Bool} {a : Act} {w : World} (hr : Region.ready md ops listed = [i]) (ho : ops[i]? = some o)
    (hw : Region.wanted o (yielded ops a.tmps) = true)
    (h : ∀ K : Act → World → Prop, (∀ a' w', J w' → wpJ P md ops Q J fuel (listed.setIfInBounds i true) a' w' → K a' w') → Oper.wp P o a w K Q) : wpJ P md ops Q J (fuel + 1) listed a w := by
  refine ⟨fun h => (by rw [hr] at h; cases h), fun j hj => ?_⟩
  rw [hr] at hj
  obtain rfl : j = i := by simpa using hj
  unfold wpOp
  simp only [ho, hw, if_true]
  exact .inl (h _ fun a' w' h1 h2 => ⟨h1, h2⟩)
theorem wpJ_on (i : Nat) {o : Oper} {fuel : Nat} {listed : Array Bool} {a : Act} {w : World} (ho : ops[i]? = some o)
    (h : ∀ K : Act → World → Prop, (∀ a' w', J w' → wpJ P md ops Q J fuel (listed.setIfInBounds i true) a' w' → K a' w') → Oper.wp P o a w K Q) (hr : Region.ready md ops listed = [i] := by kernel_rfl)
    (hw : Region.wanted o (yielded ops a.tmps) = true := by kernel_rfl) : wpJ P md ops Q J (fuel + 1) listed a w := wpJ_one hr ho hw h
theorem wpJ_done {listed : Array Bool} {a : Act} {w : World} (hr : Region.ready md ops listed = []) (h : Q .normal a w) : ∀ fuel, wpJ P md ops Q J fuel listed a w
  | 0 => ⟨hr, h⟩
  | _ + 1 => ⟨fun _ => h, by rw [hr]; simp⟩
theorem wp_region_J (J : World → Prop) {id : Nat} {a : Act} {w : World} (hm : P.follows .mixedOrders = true)
    (h : wpJ P .any ops Q J ops.size (Array.replicate ops.size false) a w.drew) : (Code.region id ops true).wp P Q a w :=
  wp_region_any hm (wpJ_any _ _ _ _ h)
end Go.Proofs.Ythjofcakkaolbaa
namespace Go.Proofs.Ythjofcakkaolbaa
open Go.RowKit Go.Shelf
set_option maxRecDepth 20000
set_option maxHeartbeats 0
structure DigRel32 (w : World) (gq gr L n : Nat) (A D : Nat) (k : Nat) (qs rs : List Nat) (wr : World) : Prop where
  bel : ∀ B, B ≤ gq → B ≤ gr → Below B w wr
  rowq : Row32 wr gq 0 L qs
  rowr : Row32 wr gr 0 (L + n) rs
  cell : ∀ b o, b ≠ gq → b ≠ gr → wr.cell? ⟨b, o, none⟩ = w.cell? ⟨b, o, none⟩
  lt : valB B32 (rs.drop (L - k)) < D
  sum : valB B32 rs + B32 ^ (L - k) * valB B32 (qs.drop (L - k)) * D = A

theorem Row32.other {w : World} {g off n : Nat} {xs : List Nat} (h : Row32 w g off n xs) (g2 o2 : Nat) (v : Value) (hne : g ≠ g2) : Row32 (w.setCell ⟨g2, o2, none⟩ v) g off n xs := by
  refine ⟨h.len, h.dig, fun j hj => ?_, fun j hj => by rw [World.frozen?_setCell]; exact h.frozen j hj⟩
  exact (World.cell?_setCell_other _ _ _ _ (by intro e; apply hne; have := congrArg Addr.block e; simp at this; omega)).trans (h.cell j hj)
theorem Row32.wr {w w' : World} {g off n g2 o2 l2 : Nat} {xs : List Nat} (h : Row32 w g off n xs) (hwr : Wr g2 o2 l2 w w') (hne : g ≠ g2) : Row32 w' g off n xs :=
  ⟨h.len, h.dig, fun j hj => (hwr.cell g (off + j) (.inl hne)).trans (h.cell j hj), fun j hj => (hwr.frozen _).trans (h.frozen j hj)⟩
theorem DigRel32.window {w : World} {gq gr L n A D k : Nat} {qs rs : List Nat} {wr : World} (h : DigRel32 w gq gr L n A D k qs rs wr) (hk : k < L) (hDn : D < B32 ^ n) :
    ∃ a ws, a = L - 1 - k ∧ ws = (rs.drop a).take (n + 1) ∧ Row32 wr gr a (n + 1) ws ∧ valB B32 ws < B32 * D ∧ valB B32 rs = valB B32 (rs.take a) + B32 ^ a * valB B32 ws ∧ valB B32 (rs.drop (a + (n + 1))) = 0 := by
  have hl := h.rowr.len
  obtain ⟨a, ha⟩ : ∃ a, a = L - 1 - k := ⟨_, rfl⟩
  have hlt := h.lt
  rw [show L - k = a + 1 by omega] at hlt
  have hz : valB B32 (rs.drop (a + (n + 1))) = 0 := by
    have hs := valB_split B32 (rs.drop (a + 1)) n (by rw [List.length_drop]; omega)
    rw [List.drop_drop, show a + 1 + n = a + (n + 1) by omega] at hs
    rcases Nat.eq_zero_or_pos (valB B32 (rs.drop (a + (n + 1)))) with e | e
    · exact e
    · exfalso
      have : B32 ^ n * 1 ≤ B32 ^ n * valB B32 (rs.drop (a + (n + 1))) := Nat.mul_le_mul_left _ e
      omega
  have hw := win_take32 rs a (n + 1) (by omega)
  rw [hz, Nat.mul_zero, Nat.add_zero] at hw
  refine ⟨a, _, ha, rfl, h.rowr.win a (n + 1) (by omega), ?_, hw, hz⟩
  have hs := valB_split B32 (rs.drop a) (n + 1) (by rw [List.length_drop]; omega)
  rw [List.drop_drop, hz, Nat.mul_zero, Nat.add_zero] at hs
  rw [← hs, valB_drop B32 rs a (by omega)]
  have hb := h.rowr.dig.getD B32_pos a
  have : B32 * (valB B32 (rs.drop (a + 1)) + 1) ≤ B32 * D := Nat.mul_le_mul_left _ hlt
  rw [Nat.mul_add] at this
  omega
theorem Row32.below2 {w w' : World} {g off n B : Nat} {xs : List Nat} (h : Row32 w g off n xs) (hb : Below B w w') (hg : g < B) : Row32 w' g off n xs :=
  ⟨h.len, h.dig, fun j hj => (hb.cell (p := ⟨g, off + j, none⟩) hg).trans (h.cell j hj), fun j hj => (hb.frozen (p := ⟨g, off + j, none⟩) hg).trans (h.frozen j hj)⟩
end Go.Proofs.Ythjofcakkaolbaa
namespace Go.Proofs.Ythjofcakkaolbaa
open Go.RowKit
set_option maxRecDepth 20000
set_option maxHeartbeats 0
variable {P : Program} {md : Region.Mode} {ops : Array Oper} {Q : Exit → Act → World → Prop} {J : World → Prop}

theorem wpJ_two {i k : Nat} {oi ok : Oper} {fuel : Nat} {listed : Array Bool} {a : Act} {w : World} (hr : Region.ready md ops listed = [i, k]) (hi : ops[i]? = some oi) (hk : ops[k]? = some ok)
    (hwi : Region.wanted oi (yielded ops a.tmps) = true) (hwk : Region.wanted ok (yielded ops a.tmps) = true)
    (h1 : ∀ K : Act → World → Prop, (∀ a' w', J w' → wpJ P md ops Q J fuel (listed.setIfInBounds i true) a' w' → K a' w') → Oper.wp P oi a w K Q)
    (h2 : ∀ K : Act → World → Prop, (∀ a' w', J w' → wpJ P md ops Q J fuel (listed.setIfInBounds k true) a' w' → K a' w') → Oper.wp P ok a w K Q) : wpJ P md ops Q J (fuel + 1) listed a w := by
  refine ⟨fun h => (by rw [hr] at h; cases h), fun j hj => ?_⟩
  rw [hr] at hj
  rcases List.mem_cons.1 hj with rfl | hj
  · unfold wpOp
    simp only [hi, hwi, if_true]
    exact .inl (h1 _ fun a' w' h1 h2 => ⟨h1, h2⟩)
  · obtain rfl : j = k := by simpa using hj
    unfold wpOp
    simp only [hk, hwk, if_true]
    exact .inl (h2 _ fun a' w' h1 h2 => ⟨h1, h2⟩)
variable {P : Program} {md : Region.Mode} {ops : Array Oper} {Q : Exit → Act → World → Prop} {J : World → Prop}

theorem Oper.wp_monoQ {Q' : Exit → Act → World → Prop} (hQ : ∀ x a w, Q' x a w → Q x a w) {o : Oper} {a : Act} {w : World} {K : Act → World → Prop}
    (hh : o.wp P a w K Q') : o.wp P a w K Q := by
  have hL : LetsOut Q' → LetsOut Q := fun ⟨a, w, h⟩ => ⟨a, w, hQ _ _ _ h⟩
  unfold Oper.wp at *
  generalize (execOp a.eval o).run P w = r at *
  cases r with
  | ok n w' =>
    cases n <;> simp only [Oper.upon] at hh ⊢ <;>
      first
        | exact hh
        | exact Calls.mono hh (fun e w'' he => by cases e <;> first | exact he | exact hQ _ _ _ he | exact hL he)
  | halt x w' => cases x <;> simp only [Oper.upon] at hh ⊢ <;> first | exact hh | exact hQ _ _ _ hh
theorem wpJ_monoQ {Q' : Exit → Act → World → Prop} (hQ : ∀ x a w, Q' x a w → Q x a w) :
    ∀ (fuel : Nat) (listed : Array Bool) (a : Act) (w : World), wpJ P md ops Q' J fuel listed a w → wpJ P md ops Q J fuel listed a w
  | 0, _, _, _, h => ⟨h.1, hQ _ _ _ h.2⟩
  | fuel + 1, _, _, _, h => by
    have hL : LetsOut Q' → LetsOut Q := fun ⟨a, w, h⟩ => ⟨a, w, hQ _ _ _ h⟩
    refine ⟨fun e => hQ _ _ _ (h.1 e), fun i hi => ?_⟩
    have h1 := wpOp_mono (fun a' w' h' => And.intro h'.1 (wpJ_monoQ hQ fuel _ a' w' h'.2)) (h.2 i hi)
    unfold wpOp at *
    split
    · rename_i ho; simp only [ho] at h1; exact h1
    · rename_i o ho
      simp only [ho] at h1
      split
      · rename_i hw
        simp only [hw, if_true] at h1
        exact h1.imp (Oper.wp_monoQ hQ) (fun h => ⟨h.1, hL h.2⟩)
      · rename_i hw; simp only [hw] at h1; exact h1
theorem wpJ_cut (R : Act → World → Prop) {fuel : Nat} {listed : Array Bool} {a : Act} {w : World} (hR : ∀ a' w', R a' w' → Q .normal a' w')
    (h : wpJ P md ops (fun x a' w' => x = .normal ∧ R a' w') J fuel listed a w) : wpJ P md ops Q J fuel listed a w :=
  wpJ_monoQ (fun x a w ⟨hx, hr⟩ => by subst hx; exact hR _ _ hr) _ _ _ _ h
theorem wpJ_cutA (R : Act → Act → World → Prop) {fuel : Nat} {listed : Array Bool} {a : Act} {w : World} (hR : ∀ a' w', R a a' w' → Q .normal a' w')
    (h : wpJ P md ops (fun x a' w' => x = .normal ∧ R a a' w') J fuel listed a w) : wpJ P md ops Q J fuel listed a w := wpJ_cut (R a) hR h
end Go.Proofs.Ythjofcakkaolbaa
namespace Go.Proofs.Ythjofcakkaolbaa
open Go.RowKit Go.Shelf
set_option maxRecDepth 20000
set_option maxHeartbeats 0
structure RN (w : World) (p : Option Addr) (m a : Nat) : Prop where
  mem : ∃ zs, At32 w p m m zs ∧ Nf B32 zs a
  len : m ≤ 4000
theorem RN.below {w w' : World} {p : Option Addr} {m a : Nat} (h : RN w p m a) (hb : Below w.heap.size w w') : RN w' p m a := by
  obtain ⟨⟨zs, h1, h2⟩, h3⟩ := h
  exact ⟨⟨zs, h1.below hb, h2⟩, h3⟩
theorem RN.cast {w : World} {p : Option Addr} {m a b : Nat} (h : RN w p m a) (e : a = b) : RN w p m b := e ▸ h
theorem rn_len {w : World} {p : Option Addr} {m c a K : Nat} {zs : List Nat} (h : At32 w p m c zs) (hN : Nf B32 zs a) (hK : K ≤ 100000) (hb : a < 2 ^ K) : m ≤ 4000 := by
  rw [← h.len]
  obtain ⟨k, hk⟩ : ∃ k, k = 3200 := ⟨_, rfl⟩
  refine Nat.le_trans ((hN.len_le (k := k) (by decide)).2 (Nat.lt_of_lt_of_le hb ?_)) (by omega)
  rw [show B32 = 2 ^ 32 from rfl, ← Nat.pow_mul]
  exact Nat.pow_le_pow_right (by decide) (by omega)
theorem RN.mk2 {w : World} {p : Option Addr} {m a K : Nat} {zs : List Nat} (h : At32 w p m m zs) (hN : Nf B32 zs a) (hK : K ≤ 100000) (hb : a < 2 ^ K) : RN w p m a := ⟨⟨zs, h, hN⟩, rn_len h hN hK hb⟩
theorem RN.zero {w : World} {p : Option Addr} {m a : Nat} (h : RN w p m a) : m = 0 ↔ a = 0 := by
  obtain ⟨⟨zs, h1, h2⟩, h3⟩ := h
  rw [← h2.zero_iff (by decide), ← h1.len]
  exact List.length_eq_zero_iff
def RNs (w w' : World) (e : Ending) (a : Nat) : Prop := ∃ p m, e = .returned (.slice p m m) ∧ RN w' p m a ∧ Below w.heap.size w w'
theorem rn_add {w : World} {p : Option Addr} {m a : Nat} (h : RN w p m a) {q : Option Addr} {n b : Nat} (k : RN w q n b) {K : Nat} (hK : K ≤ 100000) (hb : a + b < 2 ^ K) : Calls Try.prog 22 #[.slice p m m, .slice q n n] w fun e w' => RNs w w' e (a + b) := by
  obtain ⟨⟨zs, h1, h2⟩, h3⟩ := h
  obtain ⟨⟨ys, k1, k2⟩, k3⟩ := k
  refine (radd_any h1 k1 h2 k2 (by omega) (by omega)).mono ?_
  rintro e w' ⟨p', m', z, rfl, g1, g2, hb2⟩
  exact ⟨_, _, rfl, RN.mk2 g1 g2 hK hb, hb2⟩
theorem rn_sub {w : World} {p : Option Addr} {m a : Nat} (h : RN w p m a) {q : Option Addr} {n b : Nat} (k : RN w q n b) (hle : b ≤ a) : Calls Try.prog 9 #[.slice p m m, .slice q n n] w fun e w' => RNs w w' e (a - b) := by
  obtain ⟨⟨zs, h1, h2⟩, h3⟩ := h
  obtain ⟨⟨ys, k1, k2⟩, k3⟩ := k
  refine (rsub_any h1 k1 h2 k2 (by omega) hle).mono ?_
  rintro e w' ⟨p', m', z, rfl, g1, g2, g3, hb2⟩
  exact ⟨_, _, rfl, ⟨⟨z, g1, g2⟩, by omega⟩, hb2⟩
theorem rn_word {w : World} (x : Nat) (hx : x < 18446744073709551616) : Calls Try.prog 17 #[U x] w fun e w' => RNs w w' e (x) := by
  refine (rword x hx w).mono ?_
  rintro e w' ⟨g, zs, rfl, g1, g2, g3, hb2⟩
  exact ⟨_, _, rfl, ⟨⟨zs, g2, g3⟩, by omega⟩, hb2⟩
theorem rn_divs {w : World} {p : Option Addr} {m a : Nat} (h : RN w p m a) (d : Nat) (hd : 1 ≤ d) (hdb : d < B32) : Calls Try.prog 25 #[.slice p m m, .int .u32 d] w fun e w' => ∃ p' m' r, e = .returned (.tuple #[.slice p' m' m', .int .u32 r]) ∧ RN w' p' m' (a / d) ∧ Below w.heap.size w w' := by
  obtain ⟨⟨zs, h1, h2⟩, h3⟩ := h
  refine (rdivsmall h1 (by omega) d hd hdb).mono ?_
  rintro e w' ⟨p', m', z, r, rfl, g1, g2, g3, hb2⟩
  rw [h2.val] at g2
  exact ⟨_, _, _, rfl, ⟨⟨z, g1, g2⟩, by omega⟩, hb2⟩
theorem rn_muls {w : World} {p : Option Addr} {m a : Nat} (h : RN w p m a) (v : Nat) (hv : v < B32) {K : Nat} (hK : K ≤ 100000) (hb : a * v < 2 ^ K) : Calls Try.prog 23 #[.slice p m m, V v, .int .u32 0] w fun e w' => RNs w w' e (a * v) := by
  obtain ⟨⟨zs, h1, h2⟩, h3⟩ := h
  refine (rsmall_any (u := 0) h1 h2 (by omega) hv (by decide)).mono ?_
  rintro e w' ⟨g, z, rfl, g1, g2, g3, hb2⟩
  rw [Nat.add_zero] at g2
  exact ⟨_, _, rfl, RN.mk2 (g1.at_ g2.dig rfl (by unfold maxLen; omega)) g2 hK hb, hb2⟩
theorem rn_cmp {w : World} {p q : Option Addr} {m n a b : Nat} (h : RN w p m a) (k : RN w q n b) : Calls Try.prog 16 #[.slice p m m, .slice q n n] w fun e w' => e = .returned (.int .i64 (cmpN a b)) ∧ Below w.heap.size w w' := by
  obtain ⟨⟨zs, h1, h2⟩, h3⟩ := h
  obtain ⟨⟨ys, k1, k2⟩, k3⟩ := k
  refine (rcmp_any h1 k1 h2 k2).mono ?_
  rintro e w' ⟨rfl, r, rfl⟩
  exact ⟨rfl, bDrewN (Below.refl _ _) r⟩
theorem rn_shl {w : World} {p : Option Addr} {m a : Nat} (h : RN w p m a) (h0 : a ≠ 0) (N : Nat) (hN : N ≤ 100000) {K : Nat} (hK : K ≤ 100000) (hb : a * 2 ^ N < 2 ^ K) : Calls Try.prog 14 #[.slice p m m, .int .i64 N] w fun e w' => RNs w w' e (a * 2 ^ N) := by
  have hz := h.zero
  obtain ⟨⟨zs, h1, h2⟩, h3⟩ := h
  refine (rshl_any h1 h2 (by omega) (by omega) N (by omega)).mono ?_
  rintro e w' ⟨p', m', z, rfl, g1, g2, _, hb2⟩
  exact ⟨_, _, rfl, RN.mk2 g1 g2 hK hb, hb2⟩
theorem rn_pow2 {w : World} (N : Nat) (hN : N < 100000) : Calls Try.prog 31 #[.int .i64 N] w fun e w' => RNs w w' e (2 ^ N) := by
  have HN : Hid (N < 100000) := hN
  clear hN
  go_enter Try.func31, Try.ntmps31
  go_wp2_with fail
  refine (rn_word 1 (by decide)).mono ?_
  rintro e v1 ⟨p, m, rfl, hR, hb1⟩
  have HR : Hid (RN v1 p m 1 ∧ Below w.heap.size w v1) := ⟨hR, hb1⟩
  clear hR hb1
  go_wp2_with fail
  refine (rn_shl HR.out.1 (by decide) N (by have := HN.out; omega) (K := N + 1) (by have := HN.out; omega) (by rw [Nat.one_mul]; exact Nat.pow_lt_pow_right (by decide) (by omega))).mono ?_
  rintro e v2 ⟨p2, m2, rfl, hR2, hb2⟩
  have HR2 : Hid (RN v2 p2 m2 (1 * 2 ^ N) ∧ Below w.heap.size w v2) := ⟨hR2, Below.on HR.out.2 hb2⟩
  clear hR2 hb2
  go_wp2_with fail
  go_ret
  exact ⟨_, _, rfl, HR2.out.1.cast (Nat.one_mul _), HR2.out.2⟩
theorem rn_small {w : World} (x : Nat) (hx : x < 9223372036854775808) : Calls Try.prog 24 #[.int .i64 x] w fun e w' => RNs w w' e x := by
  have HX : Hid (x < 18446744073709551616) := by show x < _; omega
  have h1 : decide ((x : Int) < 0) = false := decide_eq_false (by omega)
  have h2 : IntKind.u64.wrap (x : Int) = (x : Int) := by rw [IntKind.wrap_u64]; omega
  clear hx
  go_enter Try.func24, Try.ntmps24
  go_wp2_with fail
  refine (rn_word x HX.out).mono ?_
  rintro e v1 ⟨p, m, rfl, hR, hb1⟩
  have HR : Hid (RN v1 p m x ∧ Below w.heap.size w v1) := ⟨hR, hb1⟩
  clear hR hb1
  go_wp2_with fail
  go_ret
  exact ⟨_, _, rfl, HR.out.1, HR.out.2⟩
end Go.Proofs.Ythjofcakkaolbaa
namespace Go.Proofs.Ythjofcakkaolbaa
open Go.RowKit
set_option maxRecDepth 20000
set_option maxHeartbeats 0
def Fl (p : Nat) (x : Int) : Prop := ∃ q : Nat, ((2 ^ q : Nat) : Int) ∣ x ∧ x.natAbs ≤ 2 ^ (p + q)
structure Rn (p : Nat) (x s : Int) : Prop where
  fl : Fl p s
  near : ∀ z, Fl p z → (s - x).natAbs ≤ (z - x).natAbs

theorem p2pos (n : Nat) : 0 < 2 ^ n := Nat.pow_pos (by omega)
theorem p2le {a b : Nat} (h : a ≤ b) : 2 ^ a ≤ 2 ^ b := Nat.pow_le_pow_right (by omega) h
theorem p2lt {a b : Nat} (h : 2 ^ a < 2 ^ b) : a < b := Nat.lt_of_not_le fun k => by have := p2le k; omega
theorem p2succ (a : Nat) : 2 ^ (a + 1) = 2 * 2 ^ a := by rw [Nat.pow_succ, Nat.mul_comm]
theorem p2dvd {a b : Nat} (h : a ≤ b) : ((2 ^ a : Nat) : Int) ∣ ((2 ^ b : Nat) : Int) := Int.natCast_dvd_natCast.2 (Nat.pow_dvd_pow 2 h)
theorem dvd_abs {d : Nat} {x : Int} (h : (d : Int) ∣ x) : d ∣ x.natAbs := Int.ofNat_dvd_left.1 h
theorem le_of_dvd2 {a b d : Nat} (ha : d ∣ a) (hb : d ∣ b) (h : a < b) : a + d ≤ b := by
  obtain ⟨u, rfl⟩ := ha
  obtain ⟨v, rfl⟩ := hb
  have h1 : u < v := Nat.lt_of_mul_lt_mul_left h
  have h2 : d * (u + 1) ≤ d * v := Nat.mul_le_mul_left d h1
  rw [Nat.mul_add] at h2
  omega
theorem Fl.zero (p : Nat) : Fl p 0 := ⟨0, ⟨0, by omega⟩, by simp⟩
theorem Fl.neg {p : Nat} {x : Int} (h : Fl p x) : Fl p (-x) := by
  obtain ⟨q, h1, h2⟩ := h
  exact ⟨q, Int.dvd_neg.2 h1, by rw [Int.natAbs_neg]; exact h2⟩
theorem Fl.small {p : Nat} {x : Int} (h : x.natAbs ≤ 2 ^ p) : Fl p x := ⟨0, ⟨x, by simp⟩, h⟩
theorem Fl.pow (p n : Nat) : Fl p ((2 ^ n : Nat) : Int) := ⟨n, ⟨1, by simp⟩, by rw [Int.natAbs_natCast]; exact p2le (by omega)⟩
theorem Fl.dvd {p : Nat} {x : Int} (hp : 1 ≤ p) (h : Fl p x) {m : Nat} (hm : 2 ^ (p - 1 + m) ≤ x.natAbs) : ((2 ^ m : Nat) : Int) ∣ x := by
  obtain ⟨q, h1, h2⟩ := h
  rcases Nat.lt_or_ge q m with h3 | h3
  · have h4 : x.natAbs = 2 ^ (p + q) := by
      have h5 : 2 ^ (p - 1 + m) ≤ 2 ^ (p + q) := Nat.le_trans hm h2
      have h6 : p + q ≤ p - 1 + m := by omega
      have := p2le h6
      omega
    have h5 : 2 ^ m ∣ x.natAbs := by
      rw [h4]
      refine Nat.pow_dvd_pow 2 ?_
      have h6 : ¬ (p + q < p - 1 + m) := fun h7 => by
        have := Nat.pow_lt_pow_right (show 1 < 2 by omega) h7
        omega
      omega
    exact Int.ofNat_dvd_left.2 h5
  · exact Int.dvd_trans (p2dvd h3) h1
theorem place {p : Nat} (hp : 1 ≤ p) (x : Int) : ∃ m : Nat, x.natAbs < 2 ^ (p + m) ∧ (m = 0 ∨ 2 ^ (p - 1 + m) ≤ x.natAbs) := by
  by_cases h0 : x.natAbs = 0
  · exact ⟨0, by rw [h0]; exact p2pos _, .inl rfl⟩
  · have h1 : 2 ^ x.natAbs.log2 ≤ x.natAbs := Nat.log2_self_le h0
    have h2 : x.natAbs < 2 ^ (x.natAbs.log2 + 1) := Nat.lt_log2_self
    refine ⟨x.natAbs.log2 + 1 - p, Nat.lt_of_lt_of_le h2 (p2le (by omega)), ?_⟩
    by_cases h3 : x.natAbs.log2 + 1 - p = 0
    · exact .inl h3
    · refine .inr (Nat.le_trans (p2le ?_) h1)
      omega
theorem Rn.ex {p : Nat} {x s : Int} (h : Rn p x s) (hx : Fl p x) : s = x := by
  have := h.near x hx
  omega
theorem Rn.neg {p : Nat} {x s : Int} (h : Rn p x s) : Rn p (-x) (-s) := by
  refine ⟨h.fl.neg, fun z hz => ?_⟩
  have := h.near (-z) hz.neg
  omega
theorem Rn.lo {p : Nat} {x s z : Int} (h : Rn p x s) (hz : Fl p z) (hx : z ≤ x) : z ≤ s := by
  have := h.near z hz
  omega
theorem Rn.hi {p : Nat} {x s z : Int} (h : Rn p x s) (hz : Fl p z) (hx : x ≤ z) : s ≤ z := by
  have := h.near z hz
  omega
theorem Rn.err {p : Nat} {x s : Int} (h : Rn p x s) {m : Nat} (hx : x.natAbs ≤ 2 ^ (p + m)) : 2 * (s - x).natAbs ≤ 2 ^ m := by
  have hd : 0 < 2 ^ m := p2pos m
  have hN : 2 ^ (p + m) = 2 ^ p * 2 ^ m := Nat.pow_add ..
  obtain ⟨d, hde⟩ : ∃ d, d = 2 ^ m := ⟨_, rfl⟩
  obtain ⟨N, hNe⟩ : ∃ N, N = 2 ^ p := ⟨_, rfl⟩
  rw [← hde] at hd hN
  rw [← hNe] at hN
  rw [hN] at hx
  -- the multiple of d that is nearest
  obtain ⟨k, hk⟩ : ∃ k : Int, k = (2 * x + d) / (2 * d) := ⟨_, rfl⟩
  have h1 : 2 * (d : Int) * k ≤ 2 * x + d := by rw [hk]; exact Int.mul_ediv_self_le (by omega)
  have h2 : 2 * x + d < 2 * (d : Int) * k + 2 * d := by rw [hk]; exact Int.lt_mul_ediv_self_add (by omega)
  have e1 : 2 * (d : Int) * k = 2 * (d * k) := Int.mul_assoc ..
  rw [e1] at h1 h2
  have h3 : Fl p (d * k) := by
    refine ⟨m, ⟨k, by rw [hde]⟩, ?_⟩
    rw [hN]
    have h4 : k ≤ N := by
      refine Int.le_of_lt_add_one (Int.lt_of_mul_lt_mul_left (a := (d : Int)) ?_ (by omega))
      rw [Int.mul_add, Int.mul_one]
      have : (x.natAbs : Int) ≤ (N : Int) * d := by exact_mod_cast hx
      rw [Int.mul_comm] at this
      omega
    have h5 : -(N : Int) ≤ k := by
      refine Int.le_of_lt_add_one (Int.lt_of_mul_lt_mul_left (a := (d : Int)) ?_ (by omega))
      rw [Int.mul_add, Int.mul_one, Int.mul_neg]
      have : (x.natAbs : Int) ≤ (N : Int) * d := by exact_mod_cast hx
      rw [Int.mul_comm] at this
      omega
    rw [Int.natAbs_mul, Int.natAbs_natCast, Nat.mul_comm]
    exact Nat.mul_le_mul_right _ (by omega)
  have h6 := h.near _ h3
  rw [← hde]
  omega
theorem Rn.dvd {p : Nat} {x s : Int} (hp : 1 ≤ p) (h : Rn p x s) {m : Nat} (hx : 2 ^ (p - 1 + m) ≤ x.natAbs) : ((2 ^ m : Nat) : Int) ∣ s ∧ 2 ^ (p - 1 + m) ≤ s.natAbs := by
  have h1 : 2 ^ (p - 1 + m) ≤ s.natAbs := by
    rcases Int.le_total 0 x with h0 | h0
    · have := h.lo (Fl.pow p (p - 1 + m)) (by omega)
      omega
    · have := h.neg.lo (Fl.pow p (p - 1 + m)) (by omega)
      omega
  exact ⟨h.fl.dvd hp h1, h1⟩
theorem err_fl {p : Nat} {a b s : Int} (hp : 1 ≤ p) (ha : Fl p a) (hb : Fl p b) (h : Rn p (a + b) s) : Fl p (a + b - s) := by
  have key : ∀ {a b s : Int} {i j : Nat}, Fl p a → Rn p (a + b) s → ((2 ^ i : Nat) : Int) ∣ a → ((2 ^ j : Nat) : Int) ∣ b → b.natAbs ≤ 2 ^ (p + j) → j ≤ i → Fl p (a + b - s) := fun {a b s i j} ha h h1 h2 h3 hij => by
    have h4 : ((2 ^ j : Nat) : Int) ∣ a := Int.dvd_trans (p2dvd hij) h1
    have h5 : ((2 ^ j : Nat) : Int) ∣ a + b := Int.dvd_add h4 h2
    rcases Nat.lt_or_ge (2 ^ (p + j)) (a + b).natAbs with h6 | h6
    · have h7 := (h.dvd hp (m := j) (Nat.le_trans (p2le (by omega)) (Nat.le_of_lt h6))).1
      refine ⟨j, Int.dvd_sub h5 h7, ?_⟩
      have h8 := h.near a ha
      omega
    · have := h.ex ⟨j, h5, h6⟩
      rw [this, Int.sub_self]; exact Fl.zero p
  obtain ⟨i, a1, a2⟩ := ha
  obtain ⟨j, b1, b2⟩ := hb
  rcases Nat.le_total j i with hij | hij
  · exact key ⟨i, a1, a2⟩ h a1 b1 b2 hij
  · have := key (s := s) ⟨j, b1, b2⟩ (by rw [Int.add_comm]; exact h) b1 a1 a2 hij
    rw [Int.add_comm]; exact this
theorem fast_fl {p : Nat} {a b s : Int} (hp : 2 ≤ p) (ha : Fl p a) (hb : Fl p b) (h : Rn p (a + b) s) (hab : b.natAbs ≤ a.natAbs) : Fl p (s - a) := by
  obtain ⟨m, m1, m2⟩ := place (show 1 ≤ p by omega) (a + b)
  obtain ⟨k, k1, k2⟩ := place (show 1 ≤ p by omega) a
  have he := h.err (m := m) (Nat.le_of_lt m1)
  rcases m2 with m0 | m2
  · subst m0
    have : s = a + b := by simp at he; omega
    rw [this, show a + b - a = b by omega]; exact hb
  have hs := (h.dvd (by omega) m2).1
  have hka : ((2 ^ k : Nat) : Int) ∣ a := by
    rcases k2 with k0 | k2
    · subst k0; exact ⟨a, by simp⟩
    · exact ha.dvd (by omega) k2
  by_cases hm0 : m = 0
  · subst hm0
    have : s = a + b := by simp at he; omega
    rw [this, show a + b - a = b by omega]; exact hb
  obtain ⟨n, rfl⟩ : ∃ n, m = n + 1 := ⟨m - 1, by omega⟩
  have hmk : n + 1 ≤ k + 1 := by
    have h1 : 2 ^ (p - 1 + (n + 1)) < 2 ^ (p + k + 1) := by
      have := p2succ (p + k)
      omega
    have := p2lt h1
    omega
  rw [p2succ] at he
  rcases Nat.lt_or_ge k (n + 1) with h1 | h1
  · obtain rfl : n = k := by omega
    have hb2 : a.natAbs + 2 ^ n ≤ 2 ^ (p + n) := le_of_dvd2 (dvd_abs hka) (Nat.pow_dvd_pow 2 (by omega)) k1
    refine ⟨n, Int.dvd_sub (Int.dvd_trans (p2dvd (by omega)) hs) hka, ?_⟩
    omega
  · by_cases hb3 : ((2 ^ (n + 1) : Nat) : Int) ∣ b
    · have h2 : ((2 ^ (n + 1) : Nat) : Int) ∣ a := Int.dvd_trans (p2dvd h1) hka
      have := h.ex ⟨n + 1, Int.dvd_add h2 hb3, Nat.le_of_lt m1⟩
      rw [this, show a + b - a = b by omega]; exact hb
    · have h3 : b.natAbs < 2 ^ (p - 1 + (n + 1)) := Nat.lt_of_not_le fun h4 => hb3 (hb.dvd (by omega) h4)
      refine ⟨n + 1, Int.dvd_sub hs (Int.dvd_trans (p2dvd h1) hka), ?_⟩
      have h4 : 2 ^ (p + (n + 1)) = 2 * 2 ^ (p - 1 + (n + 1)) := by rw [← p2succ]; congr 1; omega
      have h5 : 2 ^ n ≤ 2 ^ (p - 1 + (n + 1)) := p2le (by omega)
      omega
theorem fast_sum {p : Nat} {a b s t e : Int} (hp : 2 ≤ p) (ha : Fl p a) (hb : Fl p b) (hab : a = 0 ∨ b.natAbs ≤ a.natAbs) (h1 : Rn p (a + b) s) (h2 : Rn p (s - a) t) (h3 : Rn p (b - t) e) : s + e = a + b := by
  have hf : Fl p (s - a) := by
    rcases hab with h | h
    · subst h
      rw [Int.zero_add] at h1
      rw [h1.ex hb, Int.sub_zero]; exact hb
    · exact fast_fl hp ha hb h1 h
  have ht := h2.ex hf
  have hx := err_fl (by omega) ha hb h1
  have he := h3.ex (by rw [ht, show b - (s - a) = a + b - s by omega]; exact hx)
  omega
theorem two_sum_a {p : Nat} {a b s b' a' da db : Int} (hp : 3 ≤ p) (ha : Fl p a) (hb : Fl p b) (h1 : Rn p (a + b) s) (h2 : Rn p (s - a) b') (h3 : Rn p (s - b') a') (h4 : Rn p (a - a') da) (h5 : Rn p (b - b') db) : a' + b' = s ∧ da + db = a + b - s := by
  have hx := err_fl (by omega) ha hb h1
  by_cases hf : Fl p (s - a)
  · have e2 := h2.ex hf
    have e3 := h3.ex (by rw [e2, show s - (s - a) = a by omega]; exact ha)
    have e4 := h4.ex (by rw [e3, e2, show a - (s - (s - a)) = 0 by omega]; exact Fl.zero p)
    have e5 := h5.ex (by rw [e2, show b - (s - a) = a + b - s by omega]; exact hx)
    omega
  have hab : a.natAbs < b.natAbs := Nat.lt_of_not_le fun h => hf (fast_fl (by omega) ha hb h1 h)
  obtain ⟨m, m1, m2⟩ := place (show 1 ≤ p by omega) (a + b)
  obtain ⟨k, k1, k2⟩ := place (show 1 ≤ p by omega) b
  have he := h1.err (m := m) (Nat.le_of_lt m1)
  have hm0 : m ≠ 0 := fun h => hf (by
    subst h
    have : s = a + b := by simp at he; omega
    rw [this, show a + b - a = b by omega]; exact hb)
  have hne : s ≠ a + b := fun h => hf (by rw [h, show a + b - a = b by omega]; exact hb)
  have m2 : 2 ^ (p - 1 + m) ≤ (a + b).natAbs := by rcases m2 with h | h; exact absurd h hm0; exact h
  have hs := (h1.dvd (by omega) m2).1
  have hkb : ((2 ^ k : Nat) : Int) ∣ b := by
    rcases k2 with k0 | k2
    · subst k0; exact ⟨b, by simp⟩
    · exact hb.dvd (by omega) k2
  have hmk : m ≤ k + 1 := by
    have h1 : 2 ^ (p - 1 + m) < 2 ^ (p + k + 1) := by
      have := p2succ (p + k)
      omega
    have := p2lt h1
    omega
  have hbk : b.natAbs + 2 ^ k ≤ 2 ^ (p + k) := le_of_dvd2 (dvd_abs hkb) (Nat.pow_dvd_pow 2 (by omega)) k1
  have hak : ¬ ((2 ^ k : Nat) : Int) ∣ a := fun h => by
    rcases Nat.lt_or_ge k m with h7 | h7
    · obtain rfl : m = k + 1 := by omega
      refine hf ⟨k, Int.dvd_sub (Int.dvd_trans (p2dvd (by omega)) hs) h, ?_⟩
      rw [p2succ] at he
      omega
    · exact hne (h1.ex ⟨m, Int.dvd_add (Int.dvd_trans (p2dvd h7) h) (Int.dvd_trans (p2dvd h7) hkb), Nat.le_of_lt m1⟩)
  have hk0 : k ≠ 0 := fun h => hak (by subst h; exact ⟨a, by simp⟩)
  have k2 : 2 ^ (p - 1 + k) ≤ b.natAbs := by rcases k2 with h | h; exact absurd h hk0; exact h
  have hal : a.natAbs < 2 ^ (p - 1 + k) := Nat.lt_of_not_le fun h => hak (ha.dvd (by omega) h)
  obtain ⟨j, rfl⟩ : ∃ j, k = j + 1 := ⟨k - 1, by omega⟩
  obtain ⟨r, rfl⟩ : ∃ r, p = r + 3 := ⟨p - 3, by omega⟩
  -- the powers that are met
  have q0 : 2 ^ (j + 1) = 2 * 2 ^ j := p2succ j
  have q1 : 2 ^ (r + 3 - 1 + (j + 1)) = 2 * 2 ^ (r + 2 + j) := by rw [← p2succ]; congr 1
  have q2 : 2 ^ (r + 3 + (j + 1)) = 4 * 2 ^ (r + 2 + j) := by
    rw [show r + 3 + (j + 1) = r + 2 + j + 1 + 1 by omega, p2succ, p2succ]; omega
  have q3 : 4 * 2 ^ j ≤ 2 ^ (r + 2 + j) := by
    rw [show r + 2 + j = r + j + 1 + 1 by omega, p2succ, p2succ]
    have : 2 ^ j ≤ 2 ^ (r + j) := p2le (by omega)
    omega
  have q4 : 2 ^ (r + 3 + j) = 2 * 2 ^ (r + 2 + j) := by rw [← p2succ]; congr 1; omega
  rw [q0] at hbk
  rw [q1] at k2 hal
  rw [q2] at hbk
  have hmj : j ≤ m := Nat.le_of_not_lt fun h => by
    -- a sum so small: a is smaller still
    have ham : ¬ ((2 ^ m : Nat) : Int) ∣ a := fun h7 => hne (h1.ex ⟨m, Int.dvd_add h7 (Int.dvd_trans (p2dvd (by omega)) hkb), Nat.le_of_lt m1⟩)
    have h8 : a.natAbs < 2 ^ (r + 3 - 1 + m) := Nat.lt_of_not_le fun h => ham (ha.dvd (by omega) h)
    have h9 : 2 ^ (r + 3 - 1 + m) ≤ 2 ^ (r + 2 + j) := p2le (by omega)
    have h10 : 2 ^ (r + 3 + m) ≤ 2 ^ (r + 2 + j) := p2le (by omega)
    omega
  have hsj : ((2 ^ j : Nat) : Int) ∣ s := Int.dvd_trans (p2dvd hmj) hs
  have he2 : 2 * (s - (a + b)).natAbs ≤ 4 * 2 ^ j := by
    have h7 : 2 ^ m ≤ 2 ^ (j + 1 + 1) := p2le (by omega)
    rw [p2succ, p2succ] at h7
    omega
  -- b'
  have hy := h2.err (m := j + 1) (by rw [q2]; omega)
  have hb' := (h2.dvd (by omega) (m := j) (by rw [show r + 3 - 1 + j = r + 2 + j by omega]; omega)).1
  rw [q0] at hy
  have hal2 : a.natAbs + 2 ^ j ≤ 2 * 2 ^ (r + 2 + j) := by
    by_cases h7 : ((2 ^ j : Nat) : Int) ∣ a
    · refine le_of_dvd2 (dvd_abs h7) ?_ hal
      rw [← q4]; exact Nat.pow_dvd_pow 2 (by omega)
    · have h8 : a.natAbs < 2 ^ (r + 3 - 1 + j) := Nat.lt_of_not_le fun h => h7 (ha.dvd (by omega) h)
      rw [show r + 3 - 1 + j = r + 2 + j by omega] at h8
      omega
  have e3 := h3.ex ⟨j, Int.dvd_sub hsj hb', by rw [q4]; omega⟩
  have hxa : Fl (r + 3) (s - a - b') := by
    have := err_fl (p := r + 3) (a := s) (b := -a) (s := b') (by omega) h1.fl ha.neg (by rw [← Int.sub_eq_add_neg]; exact h2)
    rw [← Int.sub_eq_add_neg] at this
    exact this
  have e4 := h4.ex (by rw [e3, show a - (s - b') = -(s - a - b') by omega]; exact hxa.neg)
  have e5 := h5.ex ⟨j, Int.dvd_sub (Int.dvd_trans (p2dvd (by omega)) hkb) hb', by rw [q4]; omega⟩
  omega
theorem two_sum {p : Nat} {a b s b' a' da db e : Int} (hp : 3 ≤ p) (ha : Fl p a) (hb : Fl p b) (h1 : Rn p (a + b) s) (h2 : Rn p (s - a) b') (h3 : Rn p (s - b') a') (h4 : Rn p (a - a') da) (h5 : Rn p (b - b') db) (h6 : Rn p (da + db) e) : s + e = a + b := by
  have h := (two_sum_a hp ha hb h1 h2 h3 h4 h5).2
  have := h6.ex (by rw [h]; exact err_fl (by omega) ha hb h1)
  omega
theorem Rn.little {p : Nat} {x s : Int} (hp : 1 ≤ p) (h : Rn p x s) : 2 ^ p * (x - s).natAbs ≤ s.natAbs := by
  obtain ⟨m, m1, m2⟩ := place hp x
  have he := h.err (m := m) (Nat.le_of_lt m1)
  by_cases hm0 : m = 0
  · subst hm0
    have : s = x := by simp at he; omega
    rw [this, Int.sub_self]; simp
  have m2 : 2 ^ (p - 1 + m) ≤ x.natAbs := by rcases m2 with h | h; exact absurd h hm0; exact h
  have h2 := (h.dvd hp m2).2
  obtain ⟨q, rfl⟩ : ∃ q, p = q + 1 := ⟨p - 1, by omega⟩
  have h3 : 2 ^ (q + 1) * (x - s).natAbs = 2 ^ q * (2 * (s - x).natAbs) := by
    rw [p2succ, show (x - s).natAbs = (s - x).natAbs by omega, Nat.mul_comm 2, Nat.mul_assoc]
  rw [h3]
  refine Nat.le_trans (Nat.mul_le_mul_left _ he) ?_
  rw [← Nat.pow_add]
  exact h2
def vs (H s : Nat) : Nat := (s - (s / H - 1) * H) * 2 ^ (s / H - 1)
theorem vs_zero (H : Nat) : vs H 0 = 0 := by unfold vs; simp
theorem vs_succ {H : Nat} (hH : 0 < H) (s : Nat) : vs H s < vs H (s + 1) := by
  have h1 := Nat.div_add_mod s H
  have h2 := Nat.mod_lt s hH
  have h3 := Nat.div_add_mod (s + 1) H
  have h4 := Nat.mod_lt (s + 1) hH
  have h5 : s / H ≤ (s + 1) / H := Nat.div_le_div_right (by omega)
  have h6 : (s + 1) / H ≤ s / H + 1 := by
    have : (s + 1) / H ≤ (s + H) / H := Nat.div_le_div_right (by omega)
    rw [Nat.add_div_right _ hH] at this
    exact this
  unfold vs
  by_cases h7 : (s + 1) / H = s / H
  · rw [h7]
    have hq : (s / H - 1) * H ≤ s := by
      rw [Nat.sub_mul, Nat.mul_comm]; omega
    have hp : 0 < 2 ^ (s / H - 1) := Nat.pow_pos (by omega)
    exact Nat.mul_lt_mul_of_pos_right (by omega) hp
  · have h8 : (s + 1) / H = s / H + 1 := by omega
    rw [h8, Nat.add_sub_cancel]
    rw [h8, Nat.mul_add, Nat.mul_one] at h3
    obtain ⟨k, hk⟩ : ∃ k, k = s / H := ⟨_, rfl⟩
    rw [← hk] at h1 h3 ⊢
    obtain ⟨y, hy⟩ : ∃ y, y = H * k := ⟨_, rfl⟩
    rw [← hy] at h1 h3
    rw [Nat.mul_comm k H, ← hy]
    by_cases h9 : k = 0
    · subst h9
      have : y = 0 := by rw [hy]; simp
      simp
      omega
    · obtain ⟨j, rfl⟩ : ∃ j, k = j + 1 := ⟨k - 1, by omega⟩
      rw [Nat.add_sub_cancel, Nat.pow_succ]
      have hj : j * H + H = y := by rw [hy, Nat.mul_comm H, Nat.add_mul, Nat.one_mul]
      have hp : 0 < 2 ^ j := Nat.pow_pos (by omega)
      have e1 : s + 1 - y = H := by omega
      rw [e1, Nat.mul_comm (2 ^ j) 2, ← Nat.mul_assoc]
      exact Nat.mul_lt_mul_of_pos_right (by omega) hp
theorem vs_mono {H : Nat} (hH : 0 < H) {s t : Nat} (h : s < t) : vs H s < vs H t := by
  induction t with
  | zero => omega
  | succ t ih =>
    rcases Nat.lt_or_ge s t with h1 | h1
    · exact Nat.lt_trans (ih h1) (vs_succ hH t)
    · rw [show s = t by omega]; exact vs_succ hH t
def gR (H : Nat) (r : Int) : Int := if r < 0 then -(vs H r.natAbs : Int) else (vs H r.natAbs : Int)
def rkS (S b : Nat) : Int := if S ≤ b then -((b % S : Nat) : Int) else ((b % S : Nat) : Int)
def svS (S H b : Nat) : Int := gR H (rkS S b)
theorem svS_eq (S H b : Nat) : svS S H b = if S ≤ b then -(vs H (b % S) : Int) else (vs H (b % S) : Int) := by
  have hz := vs_zero H
  unfold svS gR rkS
  by_cases h : S ≤ b
  · rw [if_pos h, if_pos h]
    by_cases h0 : b % S = 0
    · rw [h0, hz]; simp [hz]
    · rw [if_pos (by omega), Int.natAbs_neg, Int.natAbs_natCast]
  · rw [if_neg h, if_neg h, if_neg (by omega), Int.natAbs_natCast]
theorem dvd_far {d : Nat} {x y : Int} (hx : (d : Int) ∣ x) (hy : (d : Int) ∣ y) (h : x ≠ y) : d ≤ (x - y).natAbs := by
  have h1 : d ∣ (x - y).natAbs := Int.ofNat_dvd_left.1 (Int.dvd_sub hx hy)
  exact Nat.le_of_dvd (by omega) h1
theorem rn_mk {p L : Nat} {x s : Int} (hp : 1 ≤ p) (h1 : ((2 ^ L : Nat) : Int) ∣ s) (h2 : s.natAbs ≤ 2 ^ (p + L)) (h3 : 2 * (s - x).natAbs ≤ 2 ^ L) (h4 : L = 0 ∨ 2 ^ (p - 1 + L) ≤ x.natAbs) : Rn p x s := by
  have key : ∀ z : Int, ((2 ^ L : Nat) : Int) ∣ z → (s - x).natAbs ≤ (z - x).natAbs := fun z hz => by
    by_cases h : z = s
    · rw [h]; exact Nat.le_refl _
    · have := dvd_far hz h1 h
      omega
  refine ⟨⟨L, h1, h2⟩, fun z hz => ?_⟩
  by_cases hd : ((2 ^ L : Nat) : Int) ∣ z
  · exact key z hd
  · have hL : L ≠ 0 := fun h => hd (by subst h; exact ⟨z, by simp⟩)
    have h4 : 2 ^ (p - 1 + L) ≤ x.natAbs := by rcases h4 with h | h; exact absurd h hL; exact h
    have h5 : z.natAbs < 2 ^ (p - 1 + L) := Nat.lt_of_not_le fun h => hd (hz.dvd hp h)
    rcases Int.le_total 0 x with h0 | h0
    · have := key _ (p2dvd (show L ≤ p - 1 + L by omega))
      omega
    · have := key _ (Int.dvd_neg.2 (p2dvd (show L ≤ p - 1 + L by omega)))
      omega
def rne (n L : Nat) : Nat := n / 2 ^ L + (decide (2 ^ L < 2 * (n % 2 ^ L)) || (2 ^ L == 2 * (n % 2 ^ L) && n / 2 ^ L % 2 == 1)).toNat
theorem cut_eq (neg : Bool) (n L : Nat) (h : L ≤ n.log2 + 2) : Ieee.Toward.even.cut neg n L = rne n L := by
  unfold Ieee.Toward.cut rne
  rw [Nat.min_eq_left h, Nat.one_shiftLeft]
theorem rne_zero (n : Nat) : rne n 0 = n := by
  unfold rne
  simp [Nat.mod_one]
theorem rne_mul (n L d : Nat) : rne (n * 2 ^ d) (L + d) = rne n L := by
  have hd : 0 < 2 ^ d := p2pos d
  have h1 : n * 2 ^ d / 2 ^ (L + d) = n / 2 ^ L := by rw [Nat.pow_add]; exact Nat.mul_div_mul_right _ _ hd
  have h2 : n * 2 ^ d % 2 ^ (L + d) = n % 2 ^ L * 2 ^ d := by rw [Nat.pow_add]; exact Nat.mul_mod_mul_right _ _ _
  have h3 : decide (2 ^ (L + d) < 2 * (n % 2 ^ L * 2 ^ d)) = decide (2 ^ L < 2 * (n % 2 ^ L)) := by
    rw [← Nat.mul_assoc, Nat.pow_add]; exact decide_eq_decide.2 (Nat.mul_lt_mul_right hd)
  have h4 : (2 ^ (L + d) == 2 * (n % 2 ^ L * 2 ^ d)) = (2 ^ L == 2 * (n % 2 ^ L)) := by
    rw [← Nat.mul_assoc, Nat.pow_add, Bool.eq_iff_iff, beq_iff_eq, beq_iff_eq]; exact Nat.mul_right_cancel_iff hd
  unfold rne
  rw [h1, h2, h3, h4]
theorem rne_err (n L : Nat) : 2 * ((rne n L * 2 ^ L : Nat) - (n : Int)).natAbs ≤ 2 ^ L := by
  have h1 := Nat.div_add_mod n (2 ^ L)
  have h2 := Nat.mod_lt n (p2pos L)
  unfold rne
  rw [Nat.mul_comm] at h1
  generalize hr : n % 2 ^ L = r at *
  generalize hq : n / 2 ^ L = q at *
  generalize 2 ^ L = D at *
  by_cases h3 : D < 2 * r
  · rw [decide_eq_true h3, Bool.true_or, Bool.toNat_true, Nat.add_mul]; omega
  · rw [decide_eq_false h3, Bool.false_or]
    by_cases h4 : D = 2 * r
    · rcases Nat.mod_two_eq_zero_or_one q with h5 | h5
      · rw [h5]; simp; omega
      · rw [h5, show (D == 2 * r) = true by simp [h4]]
        simp only [beq_self_eq_true, Bool.and_self, Bool.toNat_true]
        rw [Nat.add_mul]; omega
    · have : (D == 2 * r) = false := by simp [h4]
      rw [this]; simp; omega
theorem rne_le (n L K : Nat) (h : n ≤ K * 2 ^ L) : rne n L ≤ K := by
  have h1 := rne_err n L
  refine Nat.le_of_not_lt fun h2 => ?_
  have h3 : (K + 1) * 2 ^ L ≤ rne n L * 2 ^ L := Nat.mul_le_mul_right _ h2
  rw [Nat.add_mul] at h3
  have := p2pos L
  omega
theorem le_rne (n L K : Nat) (h : K * 2 ^ L ≤ n) : K ≤ rne n L := by
  unfold rne
  have : K ≤ n / 2 ^ L := (Nat.le_div_iff_mul_le (p2pos L)).2 h
  omega
theorem log2_mul (n d : Nat) (h : n ≠ 0) : (n * 2 ^ d).log2 = n.log2 + d := by
  have h1 : 2 ^ n.log2 ≤ n := Nat.log2_self_le h
  have h2 : n < 2 ^ (n.log2 + 1) := Nat.lt_log2_self
  have hd : 0 < 2 ^ d := p2pos d
  have hz : n * 2 ^ d ≠ 0 := Nat.mul_ne_zero h (by omega)
  refine (Nat.log2_eq_iff hz).2 ⟨?_, ?_⟩
  · rw [Nat.pow_add]; exact Nat.mul_le_mul_right _ h1
  · rw [show n.log2 + d + 1 = n.log2 + 1 + d by omega, Nat.pow_add]; exact Nat.mul_lt_mul_of_pos_right h2 hd
def rg (c n : Nat) : Nat := if n = 0 then 0 else min ((n.log2 - 52 - c) * 4503599627370496 + rne n (n.log2 - 52)) 9218868437227405312
theorem nearest_rg (neg : Bool) (mag c d : Nat) (h : c = 0 ∨ c + 52 ≤ (mag * 2 ^ d).log2) :
    Ieee.double.nearest neg mag (-1074 - (c : Int) + (d : Int)) = Ieee.double.word neg (rg c (mag * 2 ^ d)) := by
  have e1 : Ieee.double.leastPlace = -1074 := by decide
  have e2 : Ieee.double.binade = 4503599627370496 := by decide
  have e3 : Ieee.double.infRung = 9218868437227405312 := by decide
  have e4 : Ieee.double.fractionBits = 52 := by decide
  have hd : 0 < 2 ^ d := p2pos d
  unfold Ieee.Format.nearest rg
  by_cases h0 : mag = 0
  · subst h0; simp
  · have hz : mag * 2 ^ d ≠ 0 := Nat.mul_ne_zero h0 (by omega)
    rw [if_neg h0, if_neg hz, e1, e2, e3, e4]
    have hl := log2_mul mag d h0
    obtain ⟨l, hle⟩ : ∃ l, l = mag.log2 := ⟨_, rfl⟩
    rw [← hle] at hl ⊢
    rw [hl] at h ⊢
    obtain ⟨L, hL⟩ : ∃ L, L = l + d - 52 := ⟨_, rfl⟩
    rw [← hL]
    have e5 : max (-1074 - (c : Int) + (d : Int) + (l : Int) - ((52 : Nat) : Int)) (-1074) = -1074 - (c : Int) + (L : Int) := by omega
    dsimp only
    rw [e5]
    have e6 : (-1074 - (c : Int) + (L : Int) - -1074).toNat = L - c := by omega
    rw [e6]
    have e7 : (-1074 - (c : Int) + (d : Int) - (-1074 - (c : Int) + (L : Int))).toNat = d - L := by omega
    have e8 : (-1074 - (c : Int) + (L : Int) - (-1074 - (c : Int) + (d : Int))).toNat = L - d := by omega
    rw [e7, e8, Nat.shiftLeft_eq]
    have e9 : Ieee.Toward.even.cut neg (mag * 2 ^ (d - L)) (L - d) = rne (mag * 2 ^ d) L := by
      rcases Nat.le_total L d with h1 | h1
      · rw [show L - d = 0 by omega, cut_eq _ _ _ (by omega), rne_zero]
        have h2 := rne_mul (mag * 2 ^ (d - L)) 0 L
        rw [Nat.zero_add, rne_zero, Nat.mul_assoc, ← Nat.pow_add, show d - L + L = d by omega] at h2
        exact h2.symm
      · rw [show d - L = 0 by omega, Nat.pow_zero, Nat.mul_one, cut_eq _ _ _ (by omega)]
        have h2 := rne_mul mag (L - d) d
        rw [show L - d + d = L by omega] at h2
        exact h2.symm
    rw [e9]

def ux (b : Nat) : Int := svS 9223372036854775808 4503599627370496 b
theorem ux_eq (b : Nat) : ux b = if 9223372036854775808 ≤ b then -(vs 4503599627370496 (b % 9223372036854775808) : Int) else (vs 4503599627370496 (b % 9223372036854775808) : Int) := svS_eq _ _ _
theorem vs_at (L k : Nat) (h : L = 0 ∨ 4503599627370496 ≤ k) (hk : k ≤ 9007199254740992) : vs 4503599627370496 (L * 4503599627370496 + k) = k * 2 ^ L := by
  unfold vs
  rcases Nat.lt_or_ge k 9007199254740992 with h1 | h1
  · have h2 : (L * 4503599627370496 + k) / 4503599627370496 - 1 = L := by omega
    rw [h2, show L * 4503599627370496 + k - L * 4503599627370496 = k by omega]
  · obtain rfl : k = 9007199254740992 := by omega
    have h2 : (L * 4503599627370496 + 9007199254740992) / 4503599627370496 - 1 = L + 1 := by omega
    rw [h2, p2succ, show L * 4503599627370496 + 9007199254740992 - (L + 1) * 4503599627370496 = 4503599627370496 by omega, ← Nat.mul_assoc]
theorem rg_rn (n : Nat) (h : rg 0 n < 9218868437227405312) : Rn 53 (n : Int) (vs 4503599627370496 (rg 0 n) : Int) := by
  unfold rg at h ⊢
  by_cases h0 : n = 0
  · subst h0
    rw [if_pos rfl]
    exact rn_mk (L := 0) (by omega) ⟨0, by simp [vs]⟩ (by simp [vs]) (by simp [vs]) (.inl rfl)
  · rw [if_neg h0] at h ⊢
    have hl : 2 ^ n.log2 ≤ n := Nat.log2_self_le h0
    have hu : n < 2 ^ (n.log2 + 1) := Nat.lt_log2_self
    rw [Nat.sub_zero] at h ⊢
    rw [Nat.min_eq_left (by omega)]
    obtain ⟨L, hL⟩ : ∃ L, L = n.log2 - 52 := ⟨_, rfl⟩
    rw [← hL]
    have hk : rne n L ≤ 9007199254740992 := by
      refine rne_le n L _ (Nat.le_of_lt (Nat.lt_of_lt_of_le hu ?_))
      rw [show 9007199254740992 = 2 ^ 53 by decide, ← Nat.pow_add]
      exact p2le (by omega)
    have hn : L = 0 ∨ 2 ^ (52 + L) ≤ n := by
      by_cases h1 : L = 0
      · exact .inl h1
      · exact .inr (Nat.le_trans (p2le (by omega)) hl)
    have hk2 : L = 0 ∨ 4503599627370496 ≤ rne n L := by
      rcases hn with h1 | h1
      · exact .inl h1
      · refine .inr (le_rne n L _ ?_)
        rw [show 4503599627370496 = 2 ^ 52 by decide, ← Nat.pow_add]; exact h1
    rw [vs_at L _ hk2 hk]
    refine rn_mk (L := L) (by omega) ⟨rne n L, by rw [Int.natCast_mul, Int.mul_comm]⟩ ?_ (rne_err n L) ?_
    · rw [Int.natAbs_natCast, Nat.pow_add]
      exact Nat.mul_le_mul_right _ hk
    · rw [Int.natAbs_natCast]; exact hn
theorem read_fin {b : Nat} (hb : b < 18446744073709551616) (hf : b % 9223372036854775808 < 9218868437227405312) :
    ∃ m q : Nat, Ieee.double.read b = .number (decide (9223372036854775808 ≤ b)) m (-1074 + (q : Int)) ∧ m * 2 ^ q = vs 4503599627370496 (b % 9223372036854775808) := by
  have e1 : Ieee.double.leastPlace = -1074 := by decide
  have e2 : Ieee.double.binade = 4503599627370496 := by decide
  have e3 : Ieee.double.infRung = 9218868437227405312 := by decide
  have e4 : Ieee.double.signWeight = 9223372036854775808 := by decide
  have hs : (b / 9223372036854775808 % 2 == 1) = decide (9223372036854775808 ≤ b) := by
    by_cases h : 9223372036854775808 ≤ b
    · rw [decide_eq_true h, beq_iff_eq]; omega
    · rw [decide_eq_false h, beq_eq_false_iff_ne]; omega
  unfold Ieee.Format.read
  rw [e1, e2, e3, e4]
  dsimp only
  rw [hs]
  generalize b % 9223372036854775808 = r at hf ⊢
  by_cases h1 : r < 4503599627370496
  · refine ⟨r, 0, by rw [if_pos h1]; rfl, ?_⟩
    unfold vs
    rw [show r / 4503599627370496 - 1 = 0 by omega]; simp
  · refine ⟨4503599627370496 + r % 4503599627370496, r / 4503599627370496 - 1, by rw [if_neg h1, if_pos hf], ?_⟩
    unfold vs
    congr 1
    omega
theorem signed_eq (neg : Bool) (m u : Nat) : Ieee.signed neg m u = if neg then -((m * 2 ^ u : Nat) : Int) else ((m * 2 ^ u : Nat) : Int) := by
  unfold Ieee.signed
  rw [Nat.shiftLeft_eq]
theorem ux_of {b m q : Nat} (h : m * 2 ^ q = vs 4503599627370496 (b % 9223372036854775808)) : ux b = Ieee.signed (decide (9223372036854775808 ≤ b)) m q := by
  rw [ux_eq, signed_eq, ← h]
  by_cases h1 : 9223372036854775808 ≤ b <;> simp [h1]
theorem signed_up (neg : Bool) (m u v : Nat) : Ieee.signed neg m u * ((2 ^ v : Nat) : Int) = Ieee.signed neg m (u + v) := by
  rw [signed_eq, signed_eq, Nat.pow_add, ← Nat.mul_assoc]
  cases neg <;> simp [Int.neg_mul]
theorem sum_fin (s t : Bool) (m n q r : Nat) (X : Int) (hX : X = Ieee.signed s m q + Ieee.signed t n r) :
    ((Ieee.Datum.number s m (-1074 + (q : Int))).sum (.number t n (-1074 + (r : Int)))).map Ieee.double.write = some (Ieee.double.word (if X = 0 then s && t else decide (X < 0)) (rg 0 X.natAbs)) := by
  obtain ⟨d, hd⟩ : ∃ d, d = min q r := ⟨_, rfl⟩
  have hb : min (-1074 + (q : Int)) (-1074 + (r : Int)) = -1074 + (d : Int) := by omega
  unfold Ieee.Datum.sum
  dsimp only
  rw [hb, show (-1074 + (q : Int) - (-1074 + (d : Int))).toNat = q - d by omega, show (-1074 + (r : Int) - (-1074 + (d : Int))).toNat = r - d by omega]
  have hT : (Ieee.signed s m (q - d) + Ieee.signed t n (r - d)) * ((2 ^ d : Nat) : Int) = X := by
    rw [Int.add_mul, signed_up, signed_up, hX, show q - d + d = q by omega, show r - d + d = r by omega]
  generalize Ieee.signed s m (q - d) + Ieee.signed t n (r - d) = T at hT ⊢
  have hp : (0 : Int) < ((2 ^ d : Nat) : Int) := Int.ofNat_lt.2 (p2pos d)
  have h0 : (T = 0) = (X = 0) := by
    rw [← hT, eq_iff_iff, Int.mul_eq_zero]
    exact ⟨fun h => .inl h, fun h => by rcases h with h | h; exact h; omega⟩
  have hn : decide (T < 0) = decide (X < 0) := by
    refine decide_eq_decide.2 ?_
    rw [← hT]
    constructor
    · intro h; exact Int.mul_neg_of_neg_of_pos h hp
    · intro h
      refine Int.lt_of_not_ge fun h1 => ?_
      have := Int.mul_nonneg h1 (Int.le_of_lt hp)
      omega
  have ha : T.natAbs * 2 ^ d = X.natAbs := by rw [← hT, Int.natAbs_mul, Int.natAbs_natCast]
  show some (Ieee.double.nearest _ T.natAbs (-1074 + (d : Int))) = _
  have := nearest_rg (if T = 0 then s && t else decide (T < 0)) T.natAbs 0 d (.inl rfl)
  rw [show (-1074 : Int) - ((0 : Nat) : Int) + (d : Int) = -1074 + (d : Int) by omega, ha] at this
  rw [this, hn]
  simp only [h0]

theorem word_facts (neg : Bool) {r : Nat} (_h : r < 9218868437227405312) : Ieee.double.word neg r < 18446744073709551616 ∧ Ieee.double.word neg r % 9223372036854775808 = r ∧ ux (Ieee.double.word neg r) = if neg then -(vs 4503599627370496 r : Int) else (vs 4503599627370496 r : Int) := by
  have e4 : Ieee.double.signWeight = 9223372036854775808 := by decide
  rw [ux_eq]
  unfold Ieee.Format.word
  rw [e4]
  cases neg
  · refine ⟨by simp; omega, by simp; omega, ?_⟩
    simp only [Bool.false_eq_true, if_false]
    rw [if_neg (by omega), Nat.mod_eq_of_lt (by omega)]
  · refine ⟨by simp; omega, by simp; omega, ?_⟩
    simp only [if_true]
    rw [if_pos (by omega), show (9223372036854775808 + r) % 9223372036854775808 = r by omega]
def MaxU : Nat := 9007199254740991 * 2 ^ 2045
theorem MaxU_eq {K : Nat} (h : K = 2045) : MaxU = 9007199254740991 * 2 ^ K := by subst h; rfl
theorem rg_fin {n : Nat} (h : n ≤ MaxU) : rg 0 n < 9218868437227405312 := by
  unfold rg
  by_cases h0 : n = 0
  · rw [if_pos h0]; omega
  · rw [if_neg h0, Nat.sub_zero]
    refine Nat.lt_of_le_of_lt (Nat.min_le_left ..) ?_
    have hl : 2 ^ n.log2 ≤ n := Nat.log2_self_le h0
    have hu : n < 2 ^ (n.log2 + 1) := Nat.lt_log2_self
    have h53 : (9007199254740992 : Nat) = 2 ^ 53 := by decide
    rcases Nat.lt_or_ge n.log2 2097 with h1 | h1
    · have hk : rne n (n.log2 - 52) ≤ 9007199254740992 := by
        refine rne_le n _ _ (Nat.le_of_lt (Nat.lt_of_lt_of_le hu ?_))
        rw [h53, ← Nat.pow_add]
        exact p2le (by omega)
      omega
    · obtain ⟨K, hK⟩ : ∃ K, K = 2045 := ⟨_, rfl⟩
      rw [MaxU_eq hK] at h
      have h2 : n.log2 < 53 + K := by
        refine p2lt (Nat.lt_of_le_of_lt hl (Nat.lt_of_le_of_lt h ?_))
        rw [Nat.pow_add, ← h53]
        exact Nat.mul_lt_mul_of_pos_right (by omega) (p2pos _)
      rw [show n.log2 - 52 = K by omega]
      have hk := rne_le n K 9007199254740991 h
      omega
structure Fin64 (b : Nat) : Prop where
  lt : b < 18446744073709551616
  fin : b % 9223372036854775808 < 9218868437227405312
theorem Fin64.fl {b : Nat} (_h : Fin64 b) : Fl 53 (ux b) := by
  have h1 : Fl 53 (vs 4503599627370496 (b % 9223372036854775808) : Int) := by
    unfold vs
    refine ⟨b % 9223372036854775808 / 4503599627370496 - 1, ⟨((b % 9223372036854775808 - (b % 9223372036854775808 / 4503599627370496 - 1) * 4503599627370496 : Nat) : Int), by rw [Int.natCast_mul, Int.mul_comm]⟩, ?_⟩
    rw [Int.natAbs_natCast, Nat.pow_add]
    refine Nat.mul_le_mul_right _ ?_
    rw [show 2 ^ 53 = 9007199254740992 by decide]
    omega
  rw [ux_eq]
  split
  · exact h1.neg
  · exact h1
structure Sm64 (X : Int) (r : Nat) : Prop where
  fin : Fin64 r
  size : r % 9223372036854775808 = rg 0 X.natAbs
  sign : X ≠ 0 → (9223372036854775808 ≤ r ↔ X < 0)
  rn : Rn 53 X (ux r)
theorem sm_word {X : Int} {neg : Bool} (h : X.natAbs ≤ MaxU) (hn : X ≠ 0 → neg = decide (X < 0)) : Sm64 X (Ieee.double.word neg (rg 0 X.natAbs)) := by
  have h1 := rg_fin h
  obtain ⟨a, b, c⟩ := word_facts neg h1
  refine ⟨⟨a, by rw [b]; exact h1⟩, b, fun h0 => ?_, ?_⟩
  · have e4 : Ieee.double.signWeight = 9223372036854775808 := by decide
    rw [hn h0]
    unfold Ieee.Format.word
    rw [e4]
    by_cases h2 : X < 0
    · simp [h2]
    · simp [h2]; omega
  · rw [c]
    have h2 := rg_rn X.natAbs h1
    by_cases h0 : X = 0
    · subst h0
      have : rg 0 (Int.natAbs 0) = 0 := rfl
      rw [this]
      have h3 : vs 4503599627370496 0 = 0 := by simp [vs]
      rw [h3]
      cases neg
      · exact ⟨Fl.zero _, fun z _ => by simp⟩
      · exact ⟨Fl.zero _, fun z _ => by simp⟩
    · rw [hn h0]
      by_cases h3 : X < 0
      · rw [decide_eq_true h3, if_pos rfl]
        have := h2.neg
        rw [show -((X.natAbs : Nat) : Int) = X by omega] at this
        exact this
      · rw [decide_eq_false h3]
        rw [show ((X.natAbs : Nat) : Int) = X by omega] at h2
        simpa using h2
theorem fl_add_fin {a b : Nat} (ha : Fin64 a) (hb : Fin64 b) (h : (ux a + ux b).natAbs ≤ MaxU) : ∃ r, floatBits .add .f64 a b = some r ∧ Sm64 (ux a + ux b) r := by
  obtain ⟨m, q, h1, h2⟩ := read_fin ha.lt ha.fin
  obtain ⟨n, t, h3, h4⟩ := read_fin hb.lt hb.fin
  have hX : ux a + ux b = Ieee.signed (decide (9223372036854775808 ≤ a)) m q + Ieee.signed (decide (9223372036854775808 ≤ b)) n t := by rw [ux_of h2, ux_of h4]
  refine ⟨_, ?_, sm_word h (neg := if ux a + ux b = 0 then decide (9223372036854775808 ≤ a) && decide (9223372036854775808 ≤ b) else decide (ux a + ux b < 0)) fun h0 => if_neg h0⟩
  show ((Ieee.double.read a).sum (Ieee.double.read b)).map Ieee.double.write = _
  rw [h1, h3]
  exact sum_fin _ _ _ _ _ _ _ hX
theorem fl_sub_fin {a b : Nat} (ha : Fin64 a) (hb : Fin64 b) (h : (ux a - ux b).natAbs ≤ MaxU) : ∃ r, floatBits .sub .f64 a b = some r ∧ Sm64 (ux a - ux b) r := by
  obtain ⟨m, q, h1, h2⟩ := read_fin ha.lt ha.fin
  obtain ⟨n, t, h3, h4⟩ := read_fin hb.lt hb.fin
  have hX : ux a - ux b = Ieee.signed (decide (9223372036854775808 ≤ a)) m q + Ieee.signed (!decide (9223372036854775808 ≤ b)) n t := by
    rw [ux_of h2, ux_of h4, signed_eq _ n, signed_eq _ n]
    cases decide (9223372036854775808 ≤ b) <;> simp <;> omega
  refine ⟨_, ?_, sm_word h (neg := if ux a - ux b = 0 then decide (9223372036854775808 ≤ a) && !decide (9223372036854775808 ≤ b) else decide (ux a - ux b < 0)) fun h0 => if_neg h0⟩
  show ((Ieee.double.read a).sum (Ieee.double.read b).opposite).map Ieee.double.write = _
  rw [h1, h3]
  exact sum_fin _ _ _ _ _ _ _ hX
abbrev Fv (b : Nat) : Value := .float .f64 b
def NanP (r : Nat) : Prop := 9218868437227405312 < r % 9223372036854775808
structure FlR (op : BinOp) (x y r : Nat) : Prop where
  lt : r < 18446744073709551616
  some : ∀ v, floatBits op .f64 x y = some v → r = v
  none : floatBits op .f64 x y = none → NanP r
def TSR (a b s r : Nat) : Prop := ∃ ob oa da db, FlR .add a b s ∧ FlR .sub s a ob ∧ FlR .sub s ob oa ∧ FlR .sub a oa da ∧ FlR .sub b ob db ∧ FlR .add da db r
def FSR (a b s r : Nat) : Prop := ∃ t, FlR .add a b s ∧ FlR .sub s a t ∧ FlR .sub b t r
def SPR (a h l : Nat) : Prop := ∃ c d, FlR .mul 4728779608772575232 a c ∧ FlR .sub c a d ∧ FlR .sub c d h ∧ FlR .sub a h l
def TPR (a b p e : Nat) : Prop := ∃ ah al bh bl x1 e1 x2 e2 x3 e3 x4, FlR .mul a b p ∧ SPR a ah al ∧ SPR b bh bl ∧ FlR .mul ah bh x1 ∧ FlR .sub x1 p e1 ∧ FlR .mul ah bl x2 ∧ FlR .add e1 x2 e2 ∧ FlR .mul al bh x3 ∧ FlR .add e2 x3 e3 ∧ FlR .mul al bl x4 ∧ FlR .add e3 x4 e
theorem bitsOf (a : Nat) (w : World) : (callFunc 6 #[Fv a]).run Try.prog w = .ok (.value (U a)) w := by
  rw [run_callFunc_extern Try.func6 (by kernel_rfl) (by kernel_rfl) (by kernel_rfl) (e := Extern.MathFloatBits.float64bits) (by kernel_rfl)]
  rfl
theorem bwAlloc (w : World) (o : Obj) : Below w.heap.size w (w.alloc o) := (Below.refl _ _).alloc (Nat.le_refl _) o
theorem results_ct {fn : Func} {p q : Tmp} {ty : TypeId} (h : fn.results = #[.cell p ty, .tmp q]) (tmps : Array Value) (P : Program) (w : World) :
    (results fn tmps).run P w = ((asAddr (tmps.getD p undef)).run P w).andThen fun a w₁ => ((loadVar ty a).run P w₁).andThen fun v w₂ => .ok (.tuple #[v, tmps.getD q undef]) w₂ := by
  simp only [results, h]
  simp [Sem.run_bind, Result.andThen]

structure B3 (W : World) (g : Nat) (v0 v1 v2 : Value) : Prop where
  c0 : W.cell? ⟨g, 0, none⟩ = some v0
  c1 : W.cell? ⟨g, 1, none⟩ = some v1
  c2 : W.cell? ⟨g, 2, none⟩ = some v2
  f0 : W.frozen? ⟨g, 0, none⟩ = false
  f1 : W.frozen? ⟨g, 1, none⟩ = false
  f2 : W.frozen? ⟨g, 2, none⟩ = false
theorem B3.below {W W' : World} {g : Nat} {v0 v1 v2 : Value} (h : B3 W g v0 v1 v2) (hb : Below W.heap.size W W') : B3 W' g v0 v1 v2 := by
  have hl : g < W.heap.size := World.block_lt_of_cell? W _ h.c0
  exact ⟨(hb.cell (p := ⟨g, 0, none⟩) hl).trans h.c0, (hb.cell (p := ⟨g, 1, none⟩) hl).trans h.c1, (hb.cell (p := ⟨g, 2, none⟩) hl).trans h.c2,
    (hb.frozen (p := ⟨g, 0, none⟩) hl).trans h.f0, (hb.frozen (p := ⟨g, 1, none⟩) hl).trans h.f1, (hb.frozen (p := ⟨g, 2, none⟩) hl).trans h.f2⟩
theorem B3.new (w : World) (ty : TypeId) (v0 v1 v2 : Value) : B3 (w.alloc (.cells #[v0, v1, v2] ty)) w.heap.size v0 v1 v2 :=
  ⟨by go_simp, by go_simp, by go_simp, by go_simp, by go_simp, by go_simp⟩
theorem B3.lt {W : World} {g : Nat} {v0 v1 v2 : Value} (h : B3 W g v0 v1 v2) : g < W.heap.size := World.block_lt_of_cell? W _ h.c0
end Go.Proofs.Ythjofcakkaolbaa
namespace Go.Proofs.Ythjofcakkaolbaa
open Go.RowKit Go.Shelf
set_option maxRecDepth 20000
set_option maxHeartbeats 0
structure B5q (W : World) (g : Nat) (v0 v1 v2 v3 v4 : Value) : Prop where
  c0 : W.cell? ⟨g, 0, none⟩ = some v0
  c1 : W.cell? ⟨g, 1, none⟩ = some v1
  c2 : W.cell? ⟨g, 2, none⟩ = some v2
  c3 : W.cell? ⟨g, 3, none⟩ = some v3
  c4 : W.cell? ⟨g, 4, none⟩ = some v4
  f0 : W.frozen? ⟨g, 0, none⟩ = false
  f1 : W.frozen? ⟨g, 1, none⟩ = false
  f2 : W.frozen? ⟨g, 2, none⟩ = false
  f3 : W.frozen? ⟨g, 3, none⟩ = false
  f4 : W.frozen? ⟨g, 4, none⟩ = false
theorem B5q.below {W W' : World} {g : Nat} {v0 v1 v2 v3 v4 : Value} (h : B5q W g v0 v1 v2 v3 v4) (hb : Below W.heap.size W W') : B5q W' g v0 v1 v2 v3 v4 := by
  have hl : g < W.heap.size := World.block_lt_of_cell? W _ h.c0
  exact ⟨(hb.cell (p := ⟨g, 0, none⟩) hl).trans h.c0, (hb.cell (p := ⟨g, 1, none⟩) hl).trans h.c1, (hb.cell (p := ⟨g, 2, none⟩) hl).trans h.c2, (hb.cell (p := ⟨g, 3, none⟩) hl).trans h.c3, (hb.cell (p := ⟨g, 4, none⟩) hl).trans h.c4,
    (hb.frozen (p := ⟨g, 0, none⟩) hl).trans h.f0, (hb.frozen (p := ⟨g, 1, none⟩) hl).trans h.f1, (hb.frozen (p := ⟨g, 2, none⟩) hl).trans h.f2, (hb.frozen (p := ⟨g, 3, none⟩) hl).trans h.f3, (hb.frozen (p := ⟨g, 4, none⟩) hl).trans h.f4⟩
theorem B5q.new (w : World) (ty : TypeId) (v0 v1 v2 v3 v4 : Value) : B5q (w.alloc (.cells #[v0, v1, v2, v3, v4] ty)) w.heap.size v0 v1 v2 v3 v4 :=
  ⟨by go_simp, by go_simp, by go_simp, by go_simp, by go_simp, by go_simp, by go_simp, by go_simp, by go_simp, by go_simp⟩
theorem B5q.lt {W : World} {g : Nat} {v0 v1 v2 v3 v4 : Value} (h : B5q W g v0 v1 v2 v3 v4) : g < W.heap.size := World.block_lt_of_cell? W _ h.c0
theorem B5q.drew {W : World} {g : Nat} {v0 v1 v2 v3 v4 : Value} (h : B5q W g v0 v1 v2 v3 v4) : B5q W.drew g v0 v1 v2 v3 v4 := ⟨h.c0, h.c1, h.c2, h.c3, h.c4, h.f0, h.f1, h.f2, h.f3, h.f4⟩
theorem B3.drew {W : World} {g : Nat} {v0 v1 v2 : Value} (h : B3 W g v0 v1 v2) : B3 W.drew g v0 v1 v2 := ⟨h.c0, h.c1, h.c2, h.f0, h.f1, h.f2⟩
theorem bwDrewN {B : Nat} {a w : World} (h : Below B a w) (r : Nat) : Below B a (w.drewN r) := ⟨h.os, h.tape, h.output, h.size, h.block⟩
theorem B5q.drewN {W : World} {g : Nat} {v0 v1 v2 v3 v4 : Value} (h : B5q W g v0 v1 v2 v3 v4) (r : Nat) : B5q (W.drewN r) g v0 v1 v2 v3 v4 := ⟨h.c0, h.c1, h.c2, h.c3, h.c4, h.f0, h.f1, h.f2, h.f3, h.f4⟩
abbrev FV (S : Nat) (P E G : Int) (I Q : Nat) : Value := .agg #[U S, .int .i64 P, .int .i64 E, .int .i64 G, U I, U Q]
structure B6q (W : World) (g : Nat) (v0 v1 v2 v3 v4 v5 : Value) : Prop where
  c0 : W.cell? ⟨g, 0, none⟩ = some v0
  c1 : W.cell? ⟨g, 1, none⟩ = some v1
  c2 : W.cell? ⟨g, 2, none⟩ = some v2
  c3 : W.cell? ⟨g, 3, none⟩ = some v3
  c4 : W.cell? ⟨g, 4, none⟩ = some v4
  c5 : W.cell? ⟨g, 5, none⟩ = some v5
  f0 : W.frozen? ⟨g, 0, none⟩ = false
  f1 : W.frozen? ⟨g, 1, none⟩ = false
  f2 : W.frozen? ⟨g, 2, none⟩ = false
  f3 : W.frozen? ⟨g, 3, none⟩ = false
  f4 : W.frozen? ⟨g, 4, none⟩ = false
  f5 : W.frozen? ⟨g, 5, none⟩ = false
theorem B6q.below {W W' : World} {g : Nat} {v0 v1 v2 v3 v4 v5 : Value} (h : B6q W g v0 v1 v2 v3 v4 v5) (hb : Below W.heap.size W W') : B6q W' g v0 v1 v2 v3 v4 v5 := by
  have hl : g < W.heap.size := World.block_lt_of_cell? W _ h.c0
  exact ⟨(hb.cell (p := ⟨g, 0, none⟩) hl).trans h.c0, (hb.cell (p := ⟨g, 1, none⟩) hl).trans h.c1, (hb.cell (p := ⟨g, 2, none⟩) hl).trans h.c2, (hb.cell (p := ⟨g, 3, none⟩) hl).trans h.c3, (hb.cell (p := ⟨g, 4, none⟩) hl).trans h.c4, (hb.cell (p := ⟨g, 5, none⟩) hl).trans h.c5, (hb.frozen (p := ⟨g, 0, none⟩) hl).trans h.f0, (hb.frozen (p := ⟨g, 1, none⟩) hl).trans h.f1, (hb.frozen (p := ⟨g, 2, none⟩) hl).trans h.f2, (hb.frozen (p := ⟨g, 3, none⟩) hl).trans h.f3, (hb.frozen (p := ⟨g, 4, none⟩) hl).trans h.f4, (hb.frozen (p := ⟨g, 5, none⟩) hl).trans h.f5⟩
theorem B6q.new (w : World) (ty : TypeId) (v0 v1 v2 v3 v4 v5 : Value) : B6q (w.alloc (.cells #[v0, v1, v2, v3, v4, v5] ty)) w.heap.size v0 v1 v2 v3 v4 v5 :=
  ⟨by go_simp, by go_simp, by go_simp, by go_simp, by go_simp, by go_simp, by go_simp, by go_simp, by go_simp, by go_simp, by go_simp, by go_simp⟩
theorem B6q.lt {W : World} {g : Nat} {v0 v1 v2 v3 v4 v5 : Value} (h : B6q W g v0 v1 v2 v3 v4 v5) : g < W.heap.size := World.block_lt_of_cell? W _ h.c0
theorem B6q.drew {W : World} {g : Nat} {v0 v1 v2 v3 v4 v5 : Value} (h : B6q W g v0 v1 v2 v3 v4 v5) : B6q W.drew g v0 v1 v2 v3 v4 v5 := ⟨h.c0, h.c1, h.c2, h.c3, h.c4, h.c5, h.f0, h.f1, h.f2, h.f3, h.f4, h.f5⟩
theorem rof_64 (w : World) : Calls Try.prog 30 #[.int .i64 64] w fun e w' => e = .returned (.tuple #[FV 9223372036854775808 53 (-1074) 971 9218868437227405312 9221120237041090561, .bool true]) ∧ Below w.heap.size w w' := by
  go_enter Try.func30, Try.ntmps30
  go_wp2_with fail
  refine bodyPost_ret (v := .tuple #[FV 9223372036854775808 53 (-1074) 971 9218868437227405312 9221120237041090561, .bool true]) (by rw [results_ct rfl]; go_simp) rfl ⟨rfl, ?_⟩
  exact bwAlloc w _
theorem cut_any {S I Q : Nat} {P E G : Int} (h0 : 0 < S) (hS : S ≤ 9223372036854775808) (b : Nat) (w : World) : Calls Try.prog 33 #[FV S P E G I Q, U b] w fun e w' => e = .returned (.tuple #[.bool (decide (S ≤ b)), U (b % S)]) ∧ Below w.heap.size w w' := by
  obtain ⟨z, hz⟩ : ∃ z, z = b % S := ⟨_, rfl⟩
  obtain ⟨s, hs⟩ : ∃ s, s = decide (S ≤ b) := ⟨_, rfl⟩
  have hzl : z < S := by rw [hz]; exact Nat.mod_lt _ h0
  have hd : (b : Int).tmod S = (z : Int) := by rw [Int.tmod_eq_emod_of_nonneg (by omega), hz]; rfl
  have hwz : IntKind.u64.wrap (z : Int) = (z : Int) := by rw [IntKind.wrap_u64]; omega
  have hs0 : ((S : Int) == 0) = false := by simp; omega
  have hs1 : ¬ S = 0 := by omega
  have hs2 : decide ((S : Int) ≤ (b : Int)) = s := by rw [hs]; by_cases h : S ≤ b <;> simp [h]
  have hs3 : decide (S ≤ b) = s := hs.symm
  rw [← hz, hs3]
  clear hz hs hzl h0 hS
  go_enter Try.func33, Try.ntmps33
  go_wp2_with fail
  go_quiet (fail)
  go_wp2_with fail
  go_ret2
  exact ⟨rfl, bwDrewN (bwAlloc w _) _⟩
end Go.Proofs.Ythjofcakkaolbaa
namespace Go.Proofs.Ythjofcakkaolbaa
open Go.RowKit
set_option maxRecDepth 20000
set_option maxHeartbeats 0
structure Num (w : World) (p : Option Addr) (m c : Nat) (xs : List Nat) (a : Nat) : Prop where
  at_ : At w p m c xs
  nf : Nf B64 xs a
  le : m ≤ 8192
theorem Num.below {w w' : World} {p : Option Addr} {m c : Nat} {xs : List Nat} {a : Nat} (h : Num w p m c xs a) (hb : Below w.heap.size w w') : Num w' p m c xs a := ⟨h.at_.below hb, h.nf, h.le⟩
theorem Num.lim {w : World} {p : Option Addr} {m c : Nat} {xs : List Nat} {a : Nat} (h : Num w p m c xs a) : a < LIM := h.nf.lim.1 (by rw [h.at_.len]; exact h.le)
theorem Num.of {B : Nat} {w : World} {p : Option Addr} {m : Nat} {xs : List Nat} {a : Nat} (ho : Own B w p m xs) (hn : Nf B64 xs a) (hm : m ≤ 8192) : Num w p m m xs a := ⟨ho.at_ hm, hn, hm⟩
end Go.Proofs.Ythjofcakkaolbaa
namespace Go.Proofs.Ythjofcakkaolbaa
open Go.RowKit Go.Shelf
set_option maxRecDepth 20000
set_option maxHeartbeats 0
def iv (s : Bool) (a : Nat) : Int := if s then -(a : Int) else (a : Int)
theorem iv_t (a : Nat) : iv true a = -(a : Int) := rfl
theorem iv_f (a : Nat) : iv false a = (a : Int) := rfl
abbrev ZV (s : Bool) (p : Option Addr) (n c : Nat) : Value := .agg #[.bool s, .slice p n c]
def AnsI (B : Nat) (w' : World) (e : Ending) (z : Int) : Prop :=
  (z.natAbs < LIM ∧ ∃ p m zs, e = .returned (.tuple #[ZV (decide (z < 0)) p m m, .int .i64 0]) ∧ Own B w' p m zs ∧ Nf B64 zs z.natAbs ∧ m ≤ 8192) ∨
  (LIM ≤ z.natAbs ∧ e = .returned (.tuple #[ZV false none 0 0, .int .i64 5]))
theorem AnsI.ok {B : Nat} {w' : World} {e : Ending} {z : Int} (h : AnsI B w' e z) (hz : z.natAbs < LIM) : ∃ p m zs, e = .returned (.tuple #[ZV (decide (z < 0)) p m m, .int .i64 0]) ∧ Own B w' p m zs ∧ Nf B64 zs z.natAbs ∧ m ≤ 8192 := by
  rcases h with ⟨_, h⟩ | ⟨h, _⟩
  · exact h
  · omega
theorem AnsI.no {B : Nat} {w' : World} {e : Ending} {z : Int} (h : AnsI B w' e z) (hz : LIM ≤ z.natAbs) : e = .returned (.tuple #[ZV false none 0 0, .int .i64 5]) := by
  rcases h with ⟨h, _⟩ | ⟨_, h⟩
  · omega
  · exact h
theorem Num.zero {w : World} {p : Option Addr} {m c : Nat} {xs : List Nat} {a : Nat} (h : Num w p m c xs a) : m = 0 ↔ a = 0 := by
  rw [← h.nf.zero_iff B64_one, ← h.at_.len]
  exact ⟨List.eq_nil_of_length_eq_zero, fun e => by rw [e]; rfl⟩

theorem results_cell1 {fn : Func} {p : Tmp} {ty : TypeId} (h : fn.results = #[.cell p ty]) (tmps : Array Value) (P : Program) (w : World) :
    (results fn tmps).run P w = ((asAddr (tmps.getD p undef)).run P w).andThen fun a w₁ => (loadVar ty a).run P w₁ := by
  simp only [results, h]
  simp [Sem.run_bind, Result.andThen]
theorem bSet {B : Nat} {a w : World} (h : Below B a w) (g o : Nat) (v : Value) (hB : B ≤ g) : Below B a (w.setCell ⟨g, o, none⟩ v) :=
  h.trans ((Wr.refl g o 1 w).setCell o ⟨by omega, by omega⟩ v |>.below hB)
theorem below3 (w : World) (o1 o2 o3 : Obj) : Below w.heap.size w (((w.alloc o1).alloc o2).alloc o3) := (below2 w o1 o2).alloc (by simp; omega) o3
theorem Nf.lenpos {zs : List Nat} {n m : Nat} (h : Nf B64 zs n) (hl : zs.length = m) : decide (0 < m) = decide (0 < n) := by
  refine decide_eq_decide.2 ?_
  have := h.zero_iff B64_one
  constructor
  · intro hm
    rcases Nat.eq_zero_or_pos n with e | e
    · have := this.2 e; rw [this] at hl; simp at hl; omega
    · exact e
  · intro hn
    rcases Nat.eq_zero_or_pos m with e | e
    · have := this.1 (List.eq_nil_of_length_eq_zero (by omega)); omega
    · exact e
end Go.Proofs.Ythjofcakkaolbaa
namespace Go.Proofs.Ythjofcakkaolbaa
open Go.RowKit
set_option maxRecDepth 20000
set_option maxHeartbeats 0
structure Chg (S : Nat → Nat → Prop) (w w' : World) : Prop where
  os : w'.os = w.os
  tape : w'.tape = w.tape
  output : w'.output = w.output
  size : w.heap.size ≤ w'.heap.size
  row : ∀ k cur t fr, w.heap[k]? = some (.cells cur t fr) → ∃ cur', w'.heap[k]? = some (.cells cur' t fr) ∧ cur'.size = cur.size ∧ ∀ j, ¬ S k j → cur'[j]? = cur[j]?
  other : ∀ k, k < w.heap.size → (∀ cur t fr, w.heap[k]? ≠ some (.cells cur t fr)) → w'.heap[k]? = w.heap[k]?

def Rg (g off n : Nat) : Nat → Nat → Prop := fun b o => b = g ∧ off ≤ o ∧ o < off + n
def Dj (g off n g' off' n' : Nat) : Prop := g ≠ g' ∨ off + n ≤ off' ∨ off' + n' ≤ off
theorem Dj.symm {g off n g' off' n' : Nat} (h : Dj g off n g' off' n') : Dj g' off' n' g off n := by unfold Dj at *; omega
theorem Dj.sub {g off n g' off' n' o m : Nat} (h : Dj g off n g' off' n') (h1 : off ≤ o) (h2 : o + m ≤ off + n) : Dj g o m g' off' n' := by unfold Dj at *; omega
theorem Dj.not {g off n g' off' n' j : Nat} (h : Dj g off n g' off' n') (hj : j < n) : ¬ Rg g' off' n' g (off + j) := by unfold Dj Rg at *; omega

theorem Chg.refl (S : Nat → Nat → Prop) (w : World) : Chg S w w := ⟨rfl, rfl, rfl, Nat.le_refl _, fun _ cur _ _ h => ⟨cur, h, rfl, fun _ _ => rfl⟩, fun _ _ _ => rfl⟩
theorem Chg.mono {S S' : Nat → Nat → Prop} {w w' : World} (h : Chg S w w') (hS : ∀ b o, S b o → S' b o) : Chg S' w w' := by
  refine ⟨h.os, h.tape, h.output, h.size, fun k cur t fr hk => ?_, h.other⟩
  obtain ⟨c, h1, h2, h3⟩ := h.row k cur t fr hk
  exact ⟨c, h1, h2, fun j hj => h3 j (fun hs => hj (hS k j hs))⟩
theorem Chg.trans {S : Nat → Nat → Prop} {a b c : World} (h : Chg S a b) (k : Chg S b c) : Chg S a c := by
  refine ⟨k.os.trans h.os, k.tape.trans h.tape, k.output.trans h.output, Nat.le_trans h.size k.size, fun i cur t fr hi => ?_, fun i hi hn => ?_⟩
  · obtain ⟨c1, g1, s1, e1⟩ := h.row i cur t fr hi
    obtain ⟨c2, g2, s2, e2⟩ := k.row i c1 t fr g1
    exact ⟨c2, g2, s2.trans s1, fun j hj => (e2 j hj).trans (e1 j hj)⟩
  · have e1 := h.other i hi hn
    rw [← e1]
    exact k.other i (Nat.lt_of_lt_of_le hi h.size) (by rw [e1]; exact hn)
theorem Chg.drewN {S : Nat → Nat → Prop} {w w' : World} (h : Chg S w w') (q : Nat) : Chg S w (w'.drewN q) := ⟨h.os, h.tape, h.output, h.size, h.row, h.other⟩
theorem Chg.drew {S : Nat → Nat → Prop} {w w' : World} (h : Chg S w w') : Chg S w w'.drew := ⟨h.os, h.tape, h.output, h.size, h.row, h.other⟩
theorem Chg.cell {S : Nat → Nat → Prop} {w w' : World} (h : Chg S w w') {b o : Nat} {v : Value} (hn : ¬ S b o) (hc : w.cell? ⟨b, o, none⟩ = some v) : w'.cell? ⟨b, o, none⟩ = some v := by
  obtain ⟨c, e, fr, hb, hv⟩ := Sort.cells_of_cell? hc
  obtain ⟨c', h1, _, h3⟩ := h.row b c e fr hb
  rw [cell_of_row w' b o c' e fr h1, h3 o hn]; exact hv
theorem Chg.frozen {S : Nat → Nat → Prop} {w w' : World} (h : Chg S w w') {b o : Nat} {v : Value} (hc : w.cell? ⟨b, o, none⟩ = some v) : w'.frozen? ⟨b, o, none⟩ = w.frozen? ⟨b, o, none⟩ := by
  obtain ⟨c, e, fr, hb, hv⟩ := Sort.cells_of_cell? hc
  obtain ⟨c', h1, _, h3⟩ := h.row b c e fr hb
  simp [World.frozen?, hb, h1]
theorem Chg.below {S : Nat → Nat → Prop} {w w' : World} (h : Chg S w w') {B : Nat} (hS : ∀ b o, S b o → B ≤ b) (hB : B ≤ w.heap.size) : Below B w w' := by
  refine ⟨h.os, h.tape, h.output, h.size, fun k hk => ?_⟩
  by_cases hc : ∃ cur t fr, w.heap[k]? = some (.cells cur t fr)
  · obtain ⟨cur, t, fr, hcur⟩ := hc
    obtain ⟨c', h1, h2, h3⟩ := h.row k cur t fr hcur
    have e : c' = cur := by
      apply Array.ext_getElem?
      intro j
      exact h3 j (fun hs => by have := hS k j hs; omega)
    rw [h1, hcur, e]
  · exact h.other k (by omega) (fun cur t fr e => hc ⟨cur, t, fr, e⟩)
structure Rd (w : World) (g off n : Nat) (xs : List Nat) : Prop where
  len : xs.length = n
  dig : Dig B64 xs
  cell : ∀ j, j < n → w.cell? ⟨g, off + j, none⟩ = some (U (xs.getD j 0))
theorem Row.rd {w : World} {g off n : Nat} {xs : List Nat} (h : Row w g off n xs) : Rd w g off n xs := ⟨h.len, h.dig, h.cell⟩
theorem Rd.at_ {w : World} {g off n c : Nat} {xs : List Nat} (h : Rd w g off n xs) (hc : n ≤ c) (hb : c ≤ maxLen) : At w (some ⟨g, off, none⟩) n c xs := ⟨h.len, hc, hb, h.dig, .inr ⟨g, off, rfl, h.cell⟩⟩
theorem Row.sub {w : World} {g off n : Nat} {xs : List Nat} (h : Row w g off n xs) (k m : Nat) (hkm : k + m ≤ n) : Row w g (off + k) m ((xs.drop k).take m) := by
  have hl := h.len
  refine ⟨by simp; omega, (h.dig.drop k).take m, fun j hj => ?_, fun j hj => by rw [Nat.add_assoc]; exact h.frozen (k + j) (by omega)⟩
  have e : ((xs.drop k).take m).getD j 0 = xs.getD (k + j) 0 := by rw [List.getD_eq_getElem?_getD, List.getD_eq_getElem?_getD, List.getElem?_take, if_pos hj, List.getElem?_drop]
  rw [e, Nat.add_assoc]; exact h.cell (k + j) (by omega)
theorem Rd.sub {w : World} {g off n : Nat} {xs : List Nat} (h : Rd w g off n xs) (k m : Nat) (hkm : k + m ≤ n) : Rd w g (off + k) m ((xs.drop k).take m) := by
  have hl := h.len
  refine ⟨by simp; omega, (h.dig.drop k).take m, fun j hj => ?_⟩
  have e : ((xs.drop k).take m).getD j 0 = xs.getD (k + j) 0 := by rw [List.getD_eq_getElem?_getD, List.getD_eq_getElem?_getD, List.getElem?_take, if_pos hj, List.getElem?_drop]
  rw [e, Nat.add_assoc]; exact h.cell (k + j) (by omega)
theorem nb {P Z A L cy : Nat} (hs : Z + L = A + P * cy) (hz : Z < P) (hle : L ≤ A) (hc : cy ≤ 1) : Z + L = A := by
  by_cases h : cy = 0
  · subst h; omega
  · obtain rfl : cy = 1 := by omega
    omega
theorem Below.rg {w w' : World} {g off n : Nat} {xs : List Nat} (h : Row w g off n xs) (hb : Below w.heap.size w w') (hn : 0 < n) : Row w' g off n xs := h.below hb (h.lt hn)
theorem Nf.big {us : List Nat} {a n : Nat} (h : Nf B64 us a) (hl : us.length = n) (h0 : 0 < n) : B64 ^ (n - 1) ≤ a := by
  have := mt (h.len_le (k := n - 1) B64_one).2 (by omega)
  omega
theorem Nf.zero {us : List Nat} {a : Nat} (h : Nf B64 us a) (hl : us.length = 0) : a = 0 := by
  obtain rfl := List.eq_nil_of_length_eq_zero hl
  have := h.val; simp [valB] at this; omega
end Go.Proofs.Ythjofcakkaolbaa
namespace Go.Proofs.Ythjofcakkaolbaa
open Go.RowKit Go.Shelf
set_option maxRecDepth 20000
set_option maxHeartbeats 0
structure Box (W : World) (g : Nat) (v0 v1 : Value) : Prop where
  c0 : W.cell? ⟨g, 0, none⟩ = some v0
  c1 : W.cell? ⟨g, 1, none⟩ = some v1
  f0 : W.frozen? ⟨g, 0, none⟩ = false
  f1 : W.frozen? ⟨g, 1, none⟩ = false
theorem Box.below {W W' : World} {g : Nat} {v0 v1 : Value} (h : Box W g v0 v1) (hb : Below W.heap.size W W') : Box W' g v0 v1 := by
  have hl : g < W.heap.size := World.block_lt_of_cell? W _ h.c0
  exact ⟨(hb.cell (p := ⟨g, 0, none⟩) hl).trans h.c0, (hb.cell (p := ⟨g, 1, none⟩) hl).trans h.c1, (hb.frozen (p := ⟨g, 0, none⟩) hl).trans h.f0, (hb.frozen (p := ⟨g, 1, none⟩) hl).trans h.f1⟩

theorem iv_not (t : Bool) (b : Nat) : iv (!t) b = - iv t b := by cases t <;> simp [iv]
theorem Box.new (w : World) (ty : TypeId) (v0 v1 : Value) : Box (w.alloc (.cells #[v0, v1] ty)) w.heap.size v0 v1 := ⟨by go_simp, by go_simp, by go_simp, by go_simp⟩
theorem bDrew1 {B : Nat} {a w : World} (h : Below B a w) : Below B a w.drew := ⟨h.os, h.tape, h.output, h.size, h.block⟩
theorem At32.setOther {w : World} {g off n c : Nat} {xs : List Nat} (h : At32 w (some ⟨g, off, none⟩) n c xs) (g2 o2 : Nat) (v : Value) (hne : g ≠ g2) : At32 (w.setCell ⟨g2, o2, none⟩ v) (some ⟨g, off, none⟩) n c xs := by
  refine ⟨h.len, h.cap, h.big, h.dig, ?_⟩
  rcases h.cells with h0 | ⟨g', o', he, hcl⟩
  · exact .inl h0
  · refine .inr ⟨g', o', he, fun j hj => ?_⟩
    simp only [Option.some.injEq, Addr.mk.injEq, and_true] at he
    rw [World.cell?_setCell_other _ _ _ _ (by intro e; apply hne; have := congrArg Addr.block e; simp at this; omega)]
    exact hcl j hj
theorem At.setOther {w : World} {g off n c : Nat} {xs : List Nat} (h : At w (some ⟨g, off, none⟩) n c xs) (g2 o2 : Nat) (v : Value) (hne : g ≠ g2) : At (w.setCell ⟨g2, o2, none⟩ v) (some ⟨g, off, none⟩) n c xs := by
  refine ⟨h.len, h.cap, h.big, h.dig, ?_⟩
  rcases h.cells with h0 | ⟨g', o', he, hcl⟩
  · exact .inl h0
  · refine .inr ⟨g', o', he, fun j hj => ?_⟩
    simp only [Option.some.injEq, Addr.mk.injEq, and_true] at he
    rw [World.cell?_setCell_other _ _ _ _ (by intro e; apply hne; have := congrArg Addr.block e; simp at this; omega)]
    exact hcl j hj

theorem mk04 {p : Option Addr} {n c : Nat} {xs : List Nat} {w : World} (s : Bool) (h : At32 w p n c xs) (hn : n ≤ 35184372088832) :
    Calls Try.prog 11 #[.bool s, .slice p n c] w fun e w' => ∃ g m, m = (trimL xs).length ∧ e = .returned (.agg #[.bool (s && decide (0 < m)), .slice (some ⟨g, 0, none⟩) m m]) ∧ w.heap.size ≤ g ∧ At32 w' (some ⟨g, 0, none⟩) m m (trimL xs) ∧ Below w.heap.size w w' := by
  have hd := h.dig.trimL
  have hle := trimL_length_le xs
  have hlx := h.len
  obtain ⟨zs, hzs⟩ : ∃ zs, zs = trimL xs := ⟨_, rfl⟩
  rw [← hzs] at hd hle
  rw [← hzs]
  have HZS : Hid (zs = trimL xs) := hzs
  clear hzs
  go_enter Try.func11, Try.ntmps11
  go_wp2_with fail
  have B0 : Box (w.alloc (.cells #[.bool false, .slice none 0 0] 36)) w.heap.size (.bool false) (.slice none 0 0) := ⟨by go_simp, by go_simp, by go_simp, by go_simp⟩
  refine (rnorm_any (h.alloc _) hn).mono ?_
  rintro e w1 ⟨g, rfl, hg, hblk, hb⟩
  rw [← HZS.out] at hblk ⊢
  obtain ⟨c0, c1, f0, f1⟩ := B0.below hb
  have hbw := Below.on (below1 w _) hb
  have HA : Hid (At32 w1 (some ⟨g, 0, none⟩) zs.length zs.length zs) := hblk.at_ hd rfl (by unfold maxLen; omega)
  have hg1 : w.heap.size + 1 ≤ g := by simp at hg; exact hg
  clear B0 hb hblk hg hle hlx h
  obtain ⟨m, hm⟩ : ∃ m, m = zs.length := ⟨_, rfl⟩
  rw [← hm] at HA ⊢
  have HM : Hid (m = zs.length) := hm
  clear hm
  have key : ∀ r : Bool, Hid (At32 ((w1.setCell ⟨w.heap.size, 0, none⟩ (.bool r)).setCell ⟨w.heap.size, 1, none⟩ (.slice (some ⟨g, 0, none⟩) m m)) (some ⟨g, 0, none⟩) m m zs) := by
    intro r
    have hA := HA.out
    refine ⟨hA.len, hA.cap, hA.big, hA.dig, ?_⟩
    rcases hA.cells with h0 | ⟨g', o', he, hcl⟩
    · exact .inl h0
    · refine .inr ⟨g', o', he, fun j hj => ?_⟩
      simp only [Option.some.injEq, Addr.mk.injEq, and_true] at he
      have hne : g' ≠ w.heap.size := by omega
      rw [World.cell?_setCell_other _ _ _ _ (by intro e; apply hne; have := congrArg Addr.block e; simp at this; omega), World.cell?_setCell_other _ _ _ _ (by intro e; apply hne; have := congrArg Addr.block e; simp at this; omega)]
      exact hcl j hj
  cases s
  · go_wp2_with fail
    exact bodyPost_ret (v := .agg #[.bool false, .slice (some ⟨g, 0, none⟩) m m]) (by rw [results_cell1 rfl]; go_simp) rfl ⟨g, m, HM.out, rfl, by omega, (key false).out, bSet (bSet hbw _ _ _ (Nat.le_refl _)) _ _ _ (Nat.le_refl _)⟩
  · by_cases hm0 : 0 < m
    · have hd0 : decide ((0 : Int) < (m : Int)) = true := decide_eq_true (by omega)
      go_wp2_with fail
      exact bodyPost_ret (v := .agg #[.bool true, .slice (some ⟨g, 0, none⟩) m m]) (by rw [results_cell1 rfl]; go_simp) rfl ⟨g, m, HM.out, by simp [hm0], by omega, (key true).out, bSet (bSet hbw _ _ _ (Nat.le_refl _)) _ _ _ (Nat.le_refl _)⟩
    · have hd0 : decide ((0 : Int) < (m : Int)) = false := decide_eq_false (by omega)
      go_wp2_with fail
      exact bodyPost_ret (v := .agg #[.bool false, .slice (some ⟨g, 0, none⟩) m m]) (by rw [results_cell1 rfl]; go_simp) rfl ⟨g, m, HM.out, by simp [hm0], by omega, (key false).out, bSet (bSet hbw _ _ _ (Nat.le_refl _)) _ _ _ (Nat.le_refl _)⟩
def Told (z : Int) (s : Bool) (m : Nat) (zs : List Nat) (er : Int) : Prop :=
  (z.natAbs < LIM ∧ s = decide (z < 0) ∧ Nf B64 zs z.natAbs ∧ m ≤ 8192 ∧ er = 0) ∨ (LIM ≤ z.natAbs ∧ s = false ∧ zs = [] ∧ m = 0 ∧ er = 5)
theorem AnsI.any {B : Nat} {w' : World} {e : Ending} {z : Int} (h : AnsI B w' e z) : ∃ s p m zs er, e = .returned (.tuple #[ZV s p m m, .int .i64 er]) ∧ At w' p m m zs ∧ Told z s m zs er := by
  rcases h with ⟨hz, p, m, zs, rfl, ho, hn, hm⟩ | ⟨hz, rfl⟩
  · exact ⟨_, p, m, zs, 0, rfl, ho.at_ hm, .inl ⟨hz, rfl, hn, hm, rfl⟩⟩
  · exact ⟨false, none, 0, [], 5, rfl, At.empty _ none 0 (by decide), .inr ⟨hz, rfl, rfl, rfl, rfl⟩⟩
theorem Told.er {z : Int} {s : Bool} {m : Nat} {zs : List Nat} {er : Int} (h : Told z s m zs er) : er = 0 ∨ er = 5 := by
  rcases h with ⟨_, _, _, _, rfl⟩ | ⟨_, _, _, _, rfl⟩
  · exact .inl rfl
  · exact .inr rfl
theorem Told.ok {z : Int} {s : Bool} {m : Nat} {zs : List Nat} {w : World} {p : Option Addr} (h : Told z s m zs 0) (a : At w p m m zs) : Num w p m m zs z.natAbs ∧ s = decide (z < 0) := by
  rcases h with ⟨_, h1, h2, h3, _⟩ | ⟨_, _, _, _, h⟩
  · exact ⟨⟨a, h2, h3⟩, h1⟩
  · exact absurd h (by decide)
theorem Told.no {z : Int} {s : Bool} {m : Nat} {zs : List Nat} (h : Told z s m zs 5) : LIM ≤ z.natAbs := by
  rcases h with ⟨_, _, _, _, h⟩ | ⟨h, _⟩
  · exact absurd h (by decide)
  · exact h
theorem iv_abs (z : Int) : iv (decide (z < 0)) z.natAbs = z := by
  unfold iv
  by_cases h : z < 0
  · simp only [h, decide_true, if_true]; omega
  · simp only [h, decide_false, Bool.false_eq_true, if_false]; omega
theorem iv_natAbs (s : Bool) (a : Nat) : (iv s a).natAbs = a := by cases s <;> simp [iv]
end Go.Proofs.Ythjofcakkaolbaa
