import Derived.Test.YtmlclpjimkjjeaaGreatDoorJ11
import Derived.Test.YtmlclpjimkjjeaaGreatDoorJ15
import Derived.Test.YtmlclpjimkjjeaaGreatDoorJ12
import Derived.Test.YtmlclpjimkjjeaaGreatDoorJ8
import Derived.Test.YtmlclpjimkjjeaaGreatDoorJ9
import Derived.Test.YtmlclpjimkjjeaaGreatDoorJ10
import Derived.Laws.ResultCell
import Derived.Deep.RegionWith
import Derived.Deep.DeepCutAuto
import Derived.Deep.LoopGhost
namespace Go.Proofs.YtmlclpjimkjjeaaGreatDoor
open Go.RowKit Go.Shelf
set_option maxRecDepth 20000
set_option maxHeartbeats 0
structure RSmR (w : World) (g N : Nat) (xs : List Nat) (v c i cy : Nat) (ss : List Nat) (wr : World) : Prop where
 bel : Below g w wr
 own : wr.ownsRow g 114 1 (.slice (some ⟨g, 0, none⟩) i N) i (cellsV ss)
 len : ss.length = i
 dig : Dig B32 ss
 car : cy < B32
 sum : valB B32 ss + B32 ^ i * cy = valB B32 (xs.take i) * v + c
theorem rsm_step {xs ss : List Nat} {i cy x v c lo hh : Nat} (h : valB B32 ss + B32 ^ i * cy = valB B32 (xs.take i) * v + c) (hl : ss.length = i) (ex : x = xs.getD i 0) (hs : cy + x * v = lo + B32 * hh) :
  valB B32 (ss ++ [lo]) + B32 ^ (i + 1) * hh = valB B32 (xs.take (i + 1)) * v + c := by
 rw [valB_snoc, hl, valB_take_any _ xs i, ← ex, Nat.pow_succ, Nat.add_mul]
 have e1 : B32 ^ i * (cy + x * v) = B32 ^ i * (lo + B32 * hh) := by rw [hs]
 rw [Nat.mul_add, Nat.mul_add, ← Nat.mul_assoc, ← Nat.mul_assoc] at e1
 omega
theorem own_at32 {wr : World} {g i N : Nat} {ss : List Nat} (ho : wr.ownsRow g 114 1 (.slice (some ⟨g, 0, none⟩) i N) i (cellsV ss)) (hl : ss.length = i) (hd : Dig B32 ss) : At32 wr (some ⟨g, 0, none⟩) i N ss := by
  rcases ho.2 with ⟨h', _⟩ | ⟨g', cap', cur, h', hbase, hgc, hcap', hmx, hsz, htake⟩
  · simp at h'
  · simp only [Value.slice.injEq, Option.some.injEq, Addr.mk.injEq, and_true, true_and] at h'
    obtain ⟨rfl, rfl⟩ := h'
    refine ⟨hl, hcap', hmx, hd, .inr ⟨g, 0, rfl, fun jj hj => ?_⟩⟩
    rw [Nat.zero_add, cell_of_row wr g jj _ _ _ hgc]
    have e1 := cellsV_get ss jj (by rw [hl]; exact hj)
    rw [← htake, Nat.mul_one, List.getElem?_take, if_pos hj] at e1;rw [← Array.getElem?_toList]; exact e1

theorem rsmall_any {p : Option Addr} {n c : Nat} {xs : List Nat} {a v u : Nat} {w : World} (h : At32 w p n c xs) (hx : Nf B32 xs a) (hn : n ≤ 4398046511104) (hv : v < B32) (hu : u < B32) :
  Calls Tryz.prog 131 #[.slice p n c, V v, V u] w fun e w' => ∃ g zs, e = .returned (.slice (some ⟨g, 0, none⟩) zs.length zs.length) ∧ Blk32 w' g zs ∧ Nf B32 zs (a * v + u) ∧ zs.length ≤ n + 1 ∧ Below w.heap.size w w' := by
 obtain ⟨i0, hi, hz0, hz1, hz2⟩ := info_parts Tryz.infoU32;have HX := hdQ hx;have HLX : Hid (xs.length = n) := h.len;have hcap := h.cap; have hbig := h.big;unfold maxLen at hbig
 have huw : IntKind.u64.wrap (u : Int) = (u : Int) := wrap_mod _ _ (by rw [B32_eq] at hu; omega)
 clear hx
 go_enter Tryz.func131, Tryz.ntmps131
 go_wp2_with (at_make; refine wpList_make_own _ rfl _ _ 54 rfl w.heap.size 114 i0 (.int .u32 0) 1 Tryz.underlying54 hi hz0 hz1 _ _ _ (n + 1) rfl rfl (by omega) (by rw [hz2]; omega) (by unfold maxLen; omega) (Nat.le_refl _) ?_; intro w1 hown hgrow)
 have hb1 : Below w.heap.size w w1 := (Below.refl _ _).grown hgrow (Nat.le_refl _) (fun k hk => by simp at hk)
 have HO : Hid (RSmR w w.heap.size (n + 1) xs v u 0 u [] w1) := ⟨hb1, hown, rfl, Dig.nil _, hu, by simp [valB]⟩
 clear hown hgrow hb1;obtain ⟨N, hN⟩ := exq (n + 1);rw [← hN] at HO ⊢;have HN : Hid (N = n + 1) := hN;clear hN
 go_loopg [7, 8, 9] n (fun gk sv cv iv wr => ∃ (i cy : Nat) (ss : List Nat), i + gk = n ∧ iv = .int .i64 i ∧ cv = U cy ∧ sv = .slice (some ⟨w.heap.size, 0, none⟩) i N ∧ Hid (RSmR w w.heap.size N xs v u i cy ss wr))
 case atStart => exact ⟨0, u, [], by omega, rfl, rfl, rfl, HO⟩
 case round =>
  obtain ⟨i, cy, ss, hig, rfl, rfl, rfl, HR⟩ := hrel;have hcyb := HR.out.car
  cases gk with
  | zero =>
   obtain rfl : i = n := by omega
   have hni : ¬ i < i := by omega
   have hw32 : IntKind.u32.wrap (cy : Int) = (cy : Int) := wrap32 cy hcyb;have HOA : Hid ((wr.alloc (.cells #[V cy] 114)).ownsRow w.heap.size 114 1 (.slice (some ⟨w.heap.size, 0, none⟩) i N) i (cellsV ss)) := HR.out.own.alloc _
   have hsp : i + 1 ≤ N := by have := HN.out; omega
   go_wp2_with (at_builtin; refine wpList_append_fits _ rfl (.tmp 40) (.tmp 43) 54 rfl w.heap.size 114 i0 1 Tryz.underlying54 hi hz1 w.heap.size i N (cellsV ss) rfl HOA.out ⟨wr.heap.size, 0, none⟩ 1 1 [V cy] rfl rfl (one_cell wr cy) (by intro u hu; simp at hu; subst hu; rfl) hsp ?_; intro w3 hw3 hgr3)
   have hR := HR.out
   have hbx : Below w.heap.size w w3 := (hR.bel.alloc hR.bel.size _).grown hgr3 (by have := hR.bel.size; simp; omega) (fun q hq => by simp at hq; omega)
   have e0 : cellsV (ss ++ [cy]) = cellsV ss ++ [V cy] := by unfold cellsV; rw [List.map_append]; rfl
   rw [← e0] at hw3
   have hl3 : (ss ++ [cy]).length = i + 1 := by simp [hR.len]
   have hd3 : Dig B32 (ss ++ [cy]) := hR.dig.append (Dig.cons hcyb (Dig.nil _));have A32 := own_at32 hw3 hl3 hd3
   have HNF : Hid (Nf B32 (trimL (ss ++ [cy])) (a * v + u)) := by
    have h1 := Nf.trim hd3;have h2 := hR.sum
    rw [List.take_of_length_le (by rw [HLX.out]; omega), HX.out.val] at h2
    rw [valB_snoc, hR.len, h2] at h1; exact h1
   have hle := trimL_length_le (ss ++ [cy])
   have HLE : Hid ((trimL (ss ++ [cy])).length ≤ i + 1) := by show _ ≤ _; omega
   clear hw3 hgr3 e0 hl3 hd3 hle hR
   refine (rnorm_any A32 (by omega)).mono ?_
   rintro e w5 ⟨g5, rfl, hg5, hblk5, hb5⟩;generalize trimL (ss ++ [cy]) = zs at *;go_wp2_with fail
   go_ret
   exact ⟨g5, zs, rfl, hblk5, HNF.out, HLE.out, Below.on hbx hb5⟩
  | succ gg =>
   obtain ⟨g, off, rfl, hc⟩ := h.cells.resolve_left (by omega)
   obtain ⟨x, hxx⟩ := exq (xs.getD i 0)
   have hin : i < n := by omega
   have hcx0 : w.cell? ⟨g, off + i, none⟩ = some (V x) := by rw [hxx]; exact hc i hin
   have hcx : wr.cell? ⟨g, off + i, none⟩ = some (V x) := (HR.out.bel.cell (p := ⟨g, off + i, none⟩) (World.block_lt_of_cell? w _ hcx0)).trans hcx0
   have hxb : x < B32 := by rw [hxx]; exact HX.out.dig.getD B32_pos i
   have hxw : IntKind.u64.wrap (x : Int) = (x : Int) := wrap_mod _ _ (by rw [B32_eq] at hxb; omega)
   have hvw : IntKind.u64.wrap (v : Int) = (v : Int) := wrap_mod _ _ (by rw [B32_eq] at hv; omega)
   have HXE : Hid (x = xs.getD i 0) := hxx;have hall := rmul_digit hxb hv B32_pos hcyb;obtain ⟨xy, exy⟩ := exq (x * v);rw [← exy] at hall;rw [B64_eq] at hall
   have f1 : IntKind.u64.wrap ((x : Int) * (v : Int)) = (xy : Int) := by
    have e : ((x : Int) * (v : Int)) = ((x * v : Nat) : Int) := by simp
    rw [e, ← exy]; exact wrap_mod _ _ (by omega)
   obtain ⟨s2, es2⟩ := exq (cy + xy)
   have f3 : IntKind.u64.wrap ((cy : Int) + (xy : Int)) = (s2 : Int) := wrap_mod _ _ (by omega)
   have hs2 : s2 < 18446744073709551616 := by omega
   obtain ⟨lo, elo⟩ := exq (s2 % B32);obtain ⟨hh, ehh⟩ := exq (s2 / B32)
   have hlob : lo < B32 := by rw [elo]; exact Nat.mod_lt _ B32_pos
   have hhhb : hh < B32 := by rw [ehh]; exact Nat.div_lt_of_lt_mul (by rw [B32_two, B64_eq]; exact hs2)
   have f4 : bits .and .u64 (s2 : Int) 4294967295 = (lo : Int) := by rw [elo, B32_eq]; exact and32 s2 hs2
   have f5 : (s2 : Int) / 4294967296 = (hh : Int) := by rw [ehh, B32_eq]; exact div32 s2
   have f6 : IntKind.u32.wrap (lo : Int) = (lo : Int) := wrap32 lo hlob
   have HSUM : Hid (cy + x * v = lo + B32 * hh) := by
    have := Nat.mod_add_div s2 B32;rw [← elo, ← ehh] at this
    show _ = _; omega
   have HOA : Hid ((wr.alloc (.cells #[V lo] 114)).ownsRow w.heap.size 114 1 (.slice (some ⟨w.heap.size, 0, none⟩) i N) i (cellsV ss)) := HR.out.own.alloc _
   have hsp : i + 1 ≤ N := by have := HN.out; omega
   clear hall exy es2 elo ehh hxx hcx0 hc
   go_wp2_with (at_builtin; refine wpList_append_fits _ rfl (.tmp 32) (.tmp 36) 54 rfl w.heap.size 114 i0 1 Tryz.underlying54 hi hz1 w.heap.size i N (cellsV ss) rfl HOA.out ⟨wr.heap.size, 0, none⟩ 1 1 [V lo] rfl rfl (one_cell wr lo) (by intro u hu; simp at hu; subst hu; rfl) hsp ?_; intro w3 hw3 hgr3)
   have HR3 : Hid (RSmR w w.heap.size N xs v u (i + 1) hh (ss ++ [lo]) w3) := by
    have hR := HR.out
    refine ⟨(hR.bel.alloc hR.bel.size _).grown hgr3 (by have := hR.bel.size; simp; omega) (fun q hq => by simp at hq; omega), ?_, by simp [hR.len], hR.dig.append (Dig.cons hlob (Dig.nil _)), hhhb, rsm_step hR.sum hR.len HXE.out HSUM.out⟩
    have e0 : cellsV (ss ++ [lo]) = cellsV ss ++ [V lo] := by unfold cellsV; rw [List.map_append]; rfl
    rw [e0]; exact hw3
   clear hw3 hgr3
   go_roundg gg
   case measure => omega
   case rel => exact ⟨i + 1, hh, ss ++ [lo], by omega, by go_num, rfl, rfl, HR3⟩
theorem wpList_make_room {P : Program} (w : World) {ops : Array Oper} {rest : List Oper} {o : Oper} {a : Act} {Q : Exit → Act → World → Prop}
  (hg : o.guard = none) (l c : Operand) (t : TypeId) (hop : o.op = Op.makeSlice t l c)
  (base : Nat) (e : TypeId) (i : TypeInfo) (z : Value) (size : Nat) (h1 : P.underlying t = some (.slice e)) (h2 : P.info? e = some i) (h3 : i.zero = some z) (h4 : i.size = size)
  (kl kc : IntKind) (L C : Int) (n m : Nat) (hl : a.eval l = .int kl L) (hc : a.eval c = .int kc C) (hL : L = (n : Int)) (hC : C = (m : Int)) (hnm : n ≤ m) (b2 : i.bytes * m ≤ 281474976710656) (b3 : m ≤ maxLen) (b4 : base ≤ w.heap.size)
  (hK : ∀ w', w'.ownsRow base e size (.slice (some ⟨w.heap.size, 0, none⟩) n m) n ((madeCells z.cells (m * size)).toList.take (n * size)) → w.grownBy w' none → wpList P ops Q rest (a.put o.dst (.slice (some ⟨w.heap.size, 0, none⟩) n m)) w') :
  wpList P ops Q (o :: rest) a w := by
 refine wpList_plain hg fun K hK' => ?_
 subst h4
 have h63' : (m : Int) ≤ 9223372036854775807 := by
  have h := b3
  simp [maxLen] at h
  omega
 have hb' : (i.bytes : Int) * (m : Int) ≤ 281474976710656 := by
  have h : ((i.bytes * m : Nat) : Int) ≤ 281474976710656 := by omega
  rwa [Int.natCast_mul] at h
 have hr := run_make (P := P) w t e i z h1 h2 h3 kl kc n m (by omega) (by omega) hb' h63'
 simp only [Int.toNat_natCast] at hr
 subst hL;subst hC;unfold Oper.wp
 simp [execOp, hop, hl, hc, hr, Result.andThen]
 refine hK' _ _ (hK _ ⟨?_, .inr ⟨_, m, _, rfl, b4, heap_alloc_new w _, hnm, b3, size_madeCells _ _, rfl⟩⟩ (World.grownBy_alloc w _ none))
 rw [List.length_take, Nat.min_eq_left];rw [Array.length_toList, size_madeCells]
 exact Nat.mul_le_mul_right _ hnm
theorem made_take (D M : Nat) (h : D ≤ M) : (madeCells (Value.cells (.int .u32 0)) (M * 1)).toList.take (D * 1) = cellsV (List.replicate D 0) := by
  rw [madeV, Nat.mul_one];unfold cellsV;rw [List.map_replicate, List.map_replicate, List.take_replicate, Nat.min_eq_left h]
theorem valB_zeros (D : Nat) (zs : List Nat) : valB B32 (List.replicate D 0 ++ zs) = B32 ^ D * valB B32 zs := by
  rw [valB_append, valB_replicate, List.length_replicate, Nat.zero_add]

theorem own_below {w w' : World} {base g n m size : Nat} {e : TypeId} {xs : List Value} (h : w.ownsRow base e size (.slice (some ⟨g, 0, none⟩) n m) n xs) (hb : Below w.heap.size w w') (hg : g < w.heap.size) : w'.ownsRow base e size (.slice (some ⟨g, 0, none⟩) n m) n xs := by
  refine ⟨h.1, ?_⟩
  rcases h.2 with ⟨h', _⟩ | ⟨g', cap', cur, h', hbase, hgc, hr⟩
  · simp at h'
  · have h2 := h'
    simp only [Value.slice.injEq, Option.some.injEq, Addr.mk.injEq, and_true] at h2
    obtain ⟨rfl, _⟩ := h2
    exact .inr ⟨_, cap', cur, h', hbase, (hb.block _ hg).trans hgc, hr⟩
theorem blk_src {w : World} {g : Nat} {xs : List Nat} (h : Blk32 w g xs) : ∀ j u, (cellsV xs)[j]? = some u → w.cell? ((⟨g, 0, none⟩ : Addr).add j) = some u := by
  intro j u hu
  have hj : j < xs.length := by
    have := (List.getElem?_eq_some_iff.1 hu).1
    rwa [cellsV_length] at this
  have hadd : (⟨g, 0, none⟩ : Addr).add j = ⟨g, j, none⟩ := by unfold Addr.add; split <;> simp_all
  rw [hadd, h.cell j hj];rw [cellsV_get xs j hj] at hu
  exact hu

theorem rshl_any {p : Option Addr} {n c : Nat} {xs : List Nat} {a : Nat} {w : World} (h : At32 w p n c xs) (hx : Nf B32 xs a) (hn0 : 0 < n) (hn : n ≤ 16384) (N : Nat) (hN2 : N ≤ 524288) :
  Calls Tryz.prog 105 #[.slice p n c, .int .i64 N] w fun e w' => ∃ p' m' zs, e = .returned (.slice p' m' m') ∧ At32 w' p' m' m' zs ∧ Nf B32 zs (a * 2 ^ N) ∧ m' ≤ 40000 ∧ Below w.heap.size w w' := by
 obtain ⟨i0, hi, hz0, hz1, hz2⟩ := info_parts Tryz.infoU32;have HX := hdQ hx;have HA := hdQ h;have HLX : Hid (xs.length = n) := h.len;have cap := h.cap;have big := h.big;unfold maxLen at big
 have hne : ((n : Int) == 0) = false := by simp; omega
 clear hx h
 by_cases hN0 : N = 0
 ·subst hN0
  go_enter Tryz.func105, Tryz.ntmps105
  go_wp2_with fail
  refine (rnorm_any HA.out (by omega)).mono ?_
  rw [trimL_of_Top HX.out.top];rintro e w1 ⟨g, rfl, hg, hb, hbl⟩;have HB := hdQ hb;rw [HLX.out];clear hb;go_wp2_with fail
  go_ret
  exact ⟨_, n, xs, rfl, HB.out.at_ HX.out.dig HLX.out (by unfold maxLen; omega), by rw [Nat.pow_zero, Nat.mul_one]; exact HX.out, by omega, hbl⟩
 ·obtain ⟨D, hD⟩ := exq (N / 32)
  obtain ⟨R, hR⟩ := exq (N % 32)
  have d1 : (N : Int).tdiv 32 = (D : Int) := by rw [Int.tdiv_eq_ediv_of_nonneg (by omega)]; omega
  have d2 : (N : Int).tmod 32 = (R : Int) := by rw [Int.tmod_eq_emod_of_nonneg (by omega)]; omega
  have hNp : ¬ (N : Int) ≤ 0 := by omega
  have hR32 : R < 32 := by omega
  have hDb : D ≤ 16384 := by omega
  have HD : Hid (2 ^ N = B32 ^ D * 2 ^ R) := by show _ = _; rw [show B32 = 2 ^ 32 from rfl, ← Nat.pow_mul, ← Nat.pow_add]; congr 1; omega
  obtain ⟨M, hM⟩ := exq (D + n + 1)
  have hMI : (D : Int) + (n : Int) + 1 = (M : Int) := by omega
  have HM := hdQ hM
  have hMb : M ≤ 33000 := by omega
  have hDM : D ≤ M := by omega
  obtain ⟨d, hd⟩ := exq (2 ^ R)
  have hd1 : 1 ≤ d := by rw [hd]; exact Nat.pow_pos (by decide)
  have hdB : d < B32 := by rw [hd, show B32 = 2 ^ 32 from rfl]; exact Nat.pow_lt_pow_right (by decide) hR32
  have hdw : IntKind.u32.wrap (d : Int) = (d : Int) := wrap32 d hdB
  have hdI : (2 : Int) ^ R = (d : Int) := by rw [hd]; norm_cast
  have HDD : Hid (d = 2 ^ R ∧ 1 ≤ d ∧ d < B32) := ⟨hd, hd1, hdB⟩;clear hD hR hM hd hd1 hdB
  go_enter Tryz.func105, Tryz.ntmps105
  go_wp2_with (at_make; refine wpList_make_room _ rfl _ _ 54 rfl w.heap.size 114 i0 (.int .u32 0) 1 Tryz.underlying54 hi hz0 hz1 _ _ _ _ D M rfl rfl (by omega) (by omega) hDM (by rw [hz2]; omega) (by unfold maxLen; omega) (Nat.le_refl _) ?_; intro w1 hown hgrow)
  have hb1 : Below w.heap.size w w1 := (Below.refl _ _).grown hgrow (Nat.le_refl _) (fun k hk => by simp at hk)
  rw [made_take D M hDM] at hown;have HO : Hid (w1.ownsRow w.heap.size 114 1 (.slice (some ⟨w.heap.size, 0, none⟩) D M) D (cellsV (List.replicate D 0))) := hown;have HA1 : Hid (At32 w1 p n c xs) := HA.out.below hb1;have HB1 := hdQ hb1
  have HSZ : Hid (w.heap.size < w1.heap.size) := by
   rcases HO.out.2 with ⟨h', _⟩ | ⟨g', _, _, h', _, hgc, _⟩
   ·simp at h'
   ·simp only [Value.slice.injEq, Option.some.injEq, Addr.mk.injEq, and_true] at h'
    obtain ⟨rfl, _⟩ := h'
    exact (Array.getElem?_eq_some_iff.1 hgc).1
  clear hown hgrow hb1 HA
  rw [show Value.int IntKind.u32 (d : Int) = V d from rfl, show Value.int IntKind.u32 0 = V 0 from rfl]
  refine (rsmall_any HA1.out HX.out (by omega) HDD.out.2.2 (show 0 < B32 by decide)).mono ?_
  rintro e w2 ⟨g2, z2, rfl, hk2, hn2, hl2, hb2⟩;rw [Nat.add_zero] at hn2;have HO2 : Hid (w2.ownsRow w.heap.size 114 1 (.slice (some ⟨w.heap.size, 0, none⟩) D M) D (cellsV (List.replicate D 0))) := own_below HO.out hb2 HSZ.out;have HK2 := hdQ hk2;have HN2 := hdQ hn2;have HB2 : Hid (Below w.heap.size w w2) := Below.on HB1.out hb2;obtain ⟨l2, hle2⟩ := exq z2.length;have HL2 : Hid (z2.length = l2) := hle2.symm;rw [← hle2] at hl2 ⊢
  have hsp : D + l2 ≤ M := by have := HM.out; omega
  clear hk2 hn2 hb2 hle2 HO HA1 HB1
  go_wp2_with (at_builtin; refine wpList_append_fits _ rfl (.tmp 24) (.tmp 29) 54 rfl w.heap.size 114 i0 1 Tryz.underlying54 hi hz1 w.heap.size D M (cellsV (List.replicate D 0)) rfl HO2.out ⟨g2, 0, none⟩ l2 l2 (cellsV z2) rfl (by rw [cellsV_length, HL2.out, Nat.mul_one]) (blk_src HK2.out) (cellsV_one _) hsp ?_; intro w3 hw3 hgr3)
  have hd3 : Dig B32 (List.replicate D 0 ++ z2) := (Dig.replicate B32 D B32_pos).append HN2.out.dig
  have hl3 : (List.replicate D 0 ++ z2).length = D + l2 := by rw [List.length_append, List.length_replicate, HL2.out]
  have A3 : Hid (At32 w3 (some ⟨w.heap.size, 0, none⟩) (D + l2) M (List.replicate D 0 ++ z2)) := own_at32 (by rw [show cellsV (List.replicate D 0 ++ z2) = cellsV (List.replicate D 0) ++ cellsV z2 from by unfold cellsV; rw [List.map_append]]; exact hw3) hl3 hd3
  have HB3 : Hid (Below w.heap.size w w3) := HB2.out.grown hgr3 HB2.out.size (fun q hq => by simp at hq; omega)
  have NF3 : Hid (Nf B32 (trimL (List.replicate D 0 ++ z2)) (a * 2 ^ N)) := by
   have h1 := Nf.trim hd3;rw [valB_zeros, HN2.out.val] at h1
   have e1 : B32 ^ D * (a * d) = a * 2 ^ N := by rw [HD.out, ← HDD.out.1, Nat.mul_left_comm]
   rw [e1] at h1; exact h1
  have hle3 : (trimL (List.replicate D 0 ++ z2)).length ≤ D + l2 := by have h1 := trimL_length_le (List.replicate D 0 ++ z2); omega
  clear hw3 hgr3 hl3 hd3
  refine (rnorm_any A3.out (by omega)).mono ?_
  rintro e w4 ⟨g4, rfl, hg4, hb4, hbl4⟩
  have A4 : Hid (At32 w4 (some ⟨g4, 0, none⟩) (trimL (List.replicate D 0 ++ z2)).length (trimL (List.replicate D 0 ++ z2)).length (trimL (List.replicate D 0 ++ z2))) := hb4.at_ NF3.out.dig rfl (by unfold maxLen; omega)
  have hbw4 := Below.on HB3.out hbl4;generalize trimL (List.replicate D 0 ++ z2) = z4 at *;clear hb4 hbl4 hg4;go_wp2_with fail
  go_ret
  exact ⟨_, _, z4, rfl, A4.out, NF3.out, by omega, hbw4⟩
theorem rdivsmall2 {p : Option Addr} {n c : Nat} {xs : List Nat} {w : World} (h : At32 w p n c xs) (hn : n ≤ 1099511627776) (d : Nat) (hd : 1 ≤ d) (hdb : d < B32) :
  Calls Tryz.prog 98 #[.slice p n c, .int .u32 d] w fun e w' => ∃ p' m' zs r, e = .returned (.tuple #[.slice p' m' m', .int .u32 r]) ∧ At32 w' p' m' m' zs ∧ Nf B32 zs (valB B32 xs / d) ∧ m' ≤ n ∧ r = ((valB B32 xs % d : Nat) : Int) ∧ Below w.heap.size w w' := by
 obtain ⟨i0, hi, hz0, hz1, hz2⟩ := info_parts Tryz.infoU32;have HLX : Hid (xs.length = n) := h.len;have hcap := h.cap; have hbig := h.big;unfold maxLen at hbig
 have hd0 : ((d : Int) == 0) = false := by simp; omega
 have HDB : Hid (1 ≤ d ∧ d < B32) := ⟨hd, hdb⟩
 have hdw : IntKind.u64.wrap (d : Int) = (d : Int) := wrap_mod _ _ (by rw [B32_eq] at hdb; omega)
 clear hdb
 go_enter Tryz.func98, Tryz.ntmps98
 go_wp2_with (at_make; refine wpList_make_full _ rfl _ _ 54 rfl w.heap.size 114 i0 (.int .u32 0) 1 Tryz.underlying54 hi hz0 hz1 _ _ _ _ n rfl rfl (by omega) (by omega) (by rw [hz2]; omega) (by unfold maxLen; omega) (Nat.le_refl _) ?_; intro w1 hown hgrow; have hb := made_blk32 hown hgrow; clear hown hgrow)
 have HO : Hid (DSm w w.heap.size n d xs n 0 (List.replicate n 0) w1) := by
  have hr := hb.1.row (Dig.replicate B32 n B32_pos);rw [List.length_replicate] at hr
  refine ⟨hb.2, hr, by omega, ?_⟩
  rw [List.drop_of_length_le (by rw [List.length_replicate]; exact Nat.le_refl _), List.drop_of_length_le (by rw [HLX.out]; exact Nat.le_refl _)]
  simp [valB]
 clear hb
 go_loopg [7, 8] n (fun gk lv iv wr => ∃ (L : Nat) (z : Int) (qs : List Nat), lv = U L ∧ iv = .int .i64 z ∧ z = (gk : Int) - 1 ∧ gk ≤ n ∧ Hid (DSm w w.heap.size n d xs gk L qs wr))
 case atStart => exact ⟨0, (n : Int) - 1, _, rfl, rfl, rfl, Nat.le_refl _, HO⟩
 case round =>
  obtain ⟨L, z, qs, rfl, rfl, hz, hgn, HR⟩ := hrel
  cases gk with
  | zero =>
   obtain rfl : z = -1 := by omega
   have hR := HR.out
   have A32 : At32 wr (some ⟨w.heap.size, 0, none⟩) n n qs := hR.row.at_ (Nat.le_refl _) (by unfold maxLen; omega)
   have hv := hR.val;rw [List.drop_zero, List.drop_zero] at hv
   have HV : Hid (valB B32 qs = valB B32 xs / d) := by
    show _ = _
    have h1 := hR.lt
    rw [← hv, Nat.mul_comm, Nat.mul_add_div (by omega), Nat.div_eq_of_lt h1, Nat.add_zero]
   have HRM : Hid (L = valB B32 xs % d) := by
    show _ = _
    have h1 := hR.lt;rw [← hv, Nat.mul_comm, Nat.mul_add_mod, Nat.mod_eq_of_lt h1]
   have HNF : Hid (Nf B32 (trimL qs) (valB B32 xs / d)) := by
    have := Nf.trim hR.row.dig;rw [HV.out] at this; exact this
   have hle := trimL_length_le qs
   have HLE : Hid ((trimL qs).length ≤ n) := by have := hR.row.len; show _ ≤ _; omega
   have hLw : IntKind.u32.wrap (L : Int) = (L : Int) := wrap32 L (by have := hR.lt; have := HDB.out.2; omega)
   have hbx := hR.bel;clear hR hv hle hz HR;go_wp2_with fail
   refine (rnorm_any A32 (by omega)).mono ?_
   rintro e w5 ⟨g5, rfl, hg5, hblk5, hb5⟩;have hd5 := HNF.out.dig;generalize trimL qs = us at *;go_wp2_with fail
   go_ret2
   exact ⟨_, _, us, _, rfl, hblk5.at_ hd5 rfl (by have := HLE.out; unfold maxLen; omega), HNF.out, HLE.out, by rw [← HRM.out], Below.on hbx hb5⟩
  | succ j =>
   obtain rfl : z = (j : Int) := by omega
   obtain ⟨g, off, rfl, hc⟩ := h.cells.resolve_left (by omega)
   obtain ⟨x, hx⟩ := exq (xs.getD j 0)
   have hcx0 : w.cell? ⟨g, off + j, none⟩ = some (V x) := by rw [hx]; exact hc j (by omega)
   have hcx : wr.cell? ⟨g, off + j, none⟩ = some (V x) := (HR.out.bel.cell (p := ⟨g, off + j, none⟩) (World.block_lt_of_cell? w _ hcx0)).trans hcx0
   have hxb : x < B32 := by rw [hx]; exact h.dig.getD B32_pos j
   have hjn : j < n := by omega
   have hct : wr.cell? ⟨w.heap.size, j, none⟩ = some (V (qs.getD j 0)) := by
    have := HR.out.row.cell j hjn;rw [Nat.zero_add] at this; exact this
   have hft : wr.frozen? ⟨w.heap.size, j, none⟩ = false := by
    have := HR.out.row.frozen j hjn;rw [Nat.zero_add] at this; exact this
   have hL := HR.out.lt;have hdB := HDB.out.2;rw [B32_eq] at hdB hxb;obtain ⟨T, hT⟩ := exq (L * 4294967296 + x);obtain ⟨lh, hlh⟩ := exq (L * 4294967296)
   have f1 : IntKind.u64.wrap ((L : Int) * 4294967296) = (lh : Int) := wrap_mod _ _ (by omega)
   have f2 : IntKind.u64.wrap ((lh : Int) + (x : Int)) = (T : Int) := wrap_mod _ _ (by omega)
   have fx : IntKind.u64.wrap (x : Int) = (x : Int) := wrap_mod _ _ (by omega)
   obtain ⟨Q, hQ⟩ := exq (T / d);obtain ⟨R, hRr⟩ := exq (T % d)
   have q1 : (T : Int).tdiv (d : Int) = (Q : Int) := by rw [hQ, Int.tdiv_eq_ediv_of_nonneg (Int.natCast_nonneg T)]; norm_cast
   have q2 : (T : Int) / (d : Int) = (Q : Int) := by rw [hQ]; norm_cast
   have r1 : (T : Int).tmod (d : Int) = (R : Int) := by rw [hRr, Int.tmod_eq_emod_of_nonneg (Int.natCast_nonneg T)]; norm_cast
   have r2 : (T : Int) % (d : Int) = (R : Int) := by rw [hRr]; norm_cast
   have hRd : R < d := by rw [hRr]; exact Nat.mod_lt _ hd
   have hQB : Q < B32 := by
    rw [hQ, B32_eq]
    refine Nat.div_lt_of_lt_mul ?_
    have : L * 4294967296 + 4294967296 ≤ d * 4294967296 := by
     have := Nat.mul_le_mul_right 4294967296 (show L + 1 ≤ d by omega)
     rw [Nat.add_mul] at this; omega
    omega
   have fq : IntKind.u32.wrap (Q : Int) = (Q : Int) := wrap32 Q hQB
   have fq2 : IntKind.u64.wrap (Q : Int) = (Q : Int) := wrap_mod _ _ (by rw [B32_eq] at hQB; omega)
   have fq3 : (Q : Int) % 4294967296 = (Q : Int) := by rw [B32_eq] at hQB; omega
   have hQR : L * B32 + x = Q * d + R := by rw [B32_eq, ← hT, hQ, hRr, Nat.mul_comm]; exact (Nat.div_add_mod T d).symm
   have HS : Hid (DSm w w.heap.size n d xs j R (qs.set j Q) (wr.setCell ⟨w.heap.size, j, none⟩ (V Q))) := by
    have hR := HR.out;have hs := hR.row.set j Q hjn hQB;rw [Nat.zero_add] at hs
    refine ⟨bSet0 hR.bel _ _ _ (Nat.le_refl _), hs, hRd, ?_⟩
    rw [drop_set_self qs j Q (by rw [hR.row.len]; exact hjn), valB_cons, valB_drop B32 xs j (by rw [HLX.out]; exact hjn), ← hx]
    exact divsmall_abs hR.val hQR
   clear hz HR hc hx hcx0 hQ hRr hT hlh hQR hL hdB hxb hRd hQB;go_wp2_with fail
   go_roundg j
   case measure => omega
   case rel => exact ⟨R, (j : Int) - 1, qs.set j Q, rfl, rfl, rfl, by omega, HS⟩
theorem rshl_blk {p : Option Addr} {n c : Nat} {xs : List Nat} {a : Nat} {w : World} (h : At32 w p n c xs) (hx : Nf B32 xs a) (hn0 : 0 < n) (hn : n ≤ 16384) (N : Nat) (hN2 : N ≤ 524288) :
  Calls Tryz.prog 105 #[.slice p n c, .int .i64 N] w fun e w' => ∃ g zs, e = .returned (.slice (some ⟨g, 0, none⟩) zs.length zs.length) ∧ w.heap.size ≤ g ∧ Blk32 w' g zs ∧ Nf B32 zs (a * 2 ^ N) ∧ zs.length ≤ 40000 ∧ Below w.heap.size w w' := by
 obtain ⟨i0, hi, hz0, hz1, hz2⟩ := info_parts Tryz.infoU32;have HX := hdQ hx;have HA := hdQ h;have HLX : Hid (xs.length = n) := h.len;have cap := h.cap;have big := h.big;unfold maxLen at big
 have hne : ((n : Int) == 0) = false := by simp; omega
 clear hx h
 by_cases hN0 : N = 0
 ·subst hN0
  go_enter Tryz.func105, Tryz.ntmps105
  go_wp2_with fail
  refine (rnorm_any HA.out (by omega)).mono ?_
  rw [trimL_of_Top HX.out.top];rintro e w1 ⟨g, rfl, hg, hb, hbl⟩;have HB := hdQ hb;clear hb;go_wp2_with fail
  go_ret
  exact ⟨g, xs, rfl, hg, HB.out, by rw [Nat.pow_zero, Nat.mul_one]; exact HX.out, by rw [HLX.out]; omega, hbl⟩
 ·obtain ⟨D, hD⟩ := exq (N / 32)
  obtain ⟨R, hR⟩ := exq (N % 32)
  have d1 : (N : Int).tdiv 32 = (D : Int) := by rw [Int.tdiv_eq_ediv_of_nonneg (by omega)]; omega
  have d2 : (N : Int).tmod 32 = (R : Int) := by rw [Int.tmod_eq_emod_of_nonneg (by omega)]; omega
  have hNp : ¬ (N : Int) ≤ 0 := by omega
  have hR32 : R < 32 := by omega
  have hDb : D ≤ 16384 := by omega
  have HD : Hid (2 ^ N = B32 ^ D * 2 ^ R) := by show _ = _; rw [show B32 = 2 ^ 32 from rfl, ← Nat.pow_mul, ← Nat.pow_add]; congr 1; omega
  obtain ⟨M, hM⟩ := exq (D + n + 1)
  have hMI : (D : Int) + (n : Int) + 1 = (M : Int) := by omega
  have HM := hdQ hM
  have hMb : M ≤ 33000 := by omega
  have hDM : D ≤ M := by omega
  obtain ⟨d, hd⟩ := exq (2 ^ R)
  have hd1 : 1 ≤ d := by rw [hd]; exact Nat.pow_pos (by decide)
  have hdB : d < B32 := by rw [hd, show B32 = 2 ^ 32 from rfl]; exact Nat.pow_lt_pow_right (by decide) hR32
  have hdw : IntKind.u32.wrap (d : Int) = (d : Int) := wrap32 d hdB
  have hdI : (2 : Int) ^ R = (d : Int) := by rw [hd]; norm_cast
  have HDD : Hid (d = 2 ^ R ∧ 1 ≤ d ∧ d < B32) := ⟨hd, hd1, hdB⟩;clear hD hR hM hd hd1 hdB
  go_enter Tryz.func105, Tryz.ntmps105
  go_wp2_with (at_make; refine wpList_make_room _ rfl _ _ 54 rfl w.heap.size 114 i0 (.int .u32 0) 1 Tryz.underlying54 hi hz0 hz1 _ _ _ _ D M rfl rfl (by omega) (by omega) hDM (by rw [hz2]; omega) (by unfold maxLen; omega) (Nat.le_refl _) ?_; intro w1 hown hgrow)
  have hb1 : Below w.heap.size w w1 := (Below.refl _ _).grown hgrow (Nat.le_refl _) (fun k hk => by simp at hk)
  rw [made_take D M hDM] at hown;have HO : Hid (w1.ownsRow w.heap.size 114 1 (.slice (some ⟨w.heap.size, 0, none⟩) D M) D (cellsV (List.replicate D 0))) := hown;have HA1 : Hid (At32 w1 p n c xs) := HA.out.below hb1;have HB1 := hdQ hb1
  have HSZ : Hid (w.heap.size < w1.heap.size) := by
   rcases HO.out.2 with ⟨h', _⟩ | ⟨g', _, _, h', _, hgc, _⟩
   ·simp at h'
   ·simp only [Value.slice.injEq, Option.some.injEq, Addr.mk.injEq, and_true] at h'
    obtain ⟨rfl, _⟩ := h'
    exact (Array.getElem?_eq_some_iff.1 hgc).1
  clear hown hgrow hb1 HA
  rw [show Value.int IntKind.u32 (d : Int) = V d from rfl, show Value.int IntKind.u32 0 = V 0 from rfl]
  refine (rsmall_any HA1.out HX.out (by omega) HDD.out.2.2 (show 0 < B32 by decide)).mono ?_
  rintro e w2 ⟨g2, z2, rfl, hk2, hn2, hl2, hb2⟩;rw [Nat.add_zero] at hn2;have HO2 : Hid (w2.ownsRow w.heap.size 114 1 (.slice (some ⟨w.heap.size, 0, none⟩) D M) D (cellsV (List.replicate D 0))) := own_below HO.out hb2 HSZ.out;have HK2 := hdQ hk2;have HN2 := hdQ hn2;have HB2 : Hid (Below w.heap.size w w2) := Below.on HB1.out hb2;obtain ⟨l2, hle2⟩ := exq z2.length;have HL2 : Hid (z2.length = l2) := hle2.symm;rw [← hle2] at hl2 ⊢
  have hsp : D + l2 ≤ M := by have := HM.out; omega
  clear hk2 hn2 hb2 hle2 HO HA1 HB1
  go_wp2_with (at_builtin; refine wpList_append_fits _ rfl (.tmp 24) (.tmp 29) 54 rfl w.heap.size 114 i0 1 Tryz.underlying54 hi hz1 w.heap.size D M (cellsV (List.replicate D 0)) rfl HO2.out ⟨g2, 0, none⟩ l2 l2 (cellsV z2) rfl (by rw [cellsV_length, HL2.out, Nat.mul_one]) (blk_src HK2.out) (cellsV_one _) hsp ?_; intro w3 hw3 hgr3)
  have hd3 : Dig B32 (List.replicate D 0 ++ z2) := (Dig.replicate B32 D B32_pos).append HN2.out.dig
  have hl3 : (List.replicate D 0 ++ z2).length = D + l2 := by rw [List.length_append, List.length_replicate, HL2.out]
  have A3 : Hid (At32 w3 (some ⟨w.heap.size, 0, none⟩) (D + l2) M (List.replicate D 0 ++ z2)) := own_at32 (by rw [show cellsV (List.replicate D 0 ++ z2) = cellsV (List.replicate D 0) ++ cellsV z2 from by unfold cellsV; rw [List.map_append]]; exact hw3) hl3 hd3
  have HB3 : Hid (Below w.heap.size w w3) := HB2.out.grown hgr3 HB2.out.size (fun q hq => by simp at hq; omega)
  have NF3 : Hid (Nf B32 (trimL (List.replicate D 0 ++ z2)) (a * 2 ^ N)) := by
   have h1 := Nf.trim hd3;rw [valB_zeros, HN2.out.val] at h1
   have e1 : B32 ^ D * (a * d) = a * 2 ^ N := by rw [HD.out, ← HDD.out.1, Nat.mul_left_comm]
   rw [e1] at h1; exact h1
  have hle3 : (trimL (List.replicate D 0 ++ z2)).length ≤ D + l2 := by have h1 := trimL_length_le (List.replicate D 0 ++ z2); omega
  clear hw3 hgr3 hl3 hd3
  refine (rnorm_any A3.out (by omega)).mono ?_
  rintro e w4 ⟨g4, rfl, hg4, hb4, hbl4⟩;have A4 : Hid (Blk32 w4 g4 (trimL (List.replicate D 0 ++ z2)) ∧ w.heap.size ≤ g4) := ⟨hb4, Nat.le_trans HB3.out.size hg4⟩;have hbw4 := Below.on HB3.out hbl4;generalize trimL (List.replicate D 0 ++ z2) = z4 at *;clear hb4 hbl4 hg4;go_wp2_with fail
  go_ret
  exact ⟨g4, z4, rfl, A4.out.2, A4.out.1, NF3.out, by omega, hbw4⟩
theorem rdivmod_lt {p q : Option Addr} {n m c d : Nat} {xs ys : List Nat} {a b : Nat} {w : World} (h : At32 w p n c xs) (k : At32 w q m d ys) (hx : Nf B32 xs a) (hy : Nf B32 ys b) (hn : n ≤ 16384) (_hm : m ≤ 40000) (hb : b ≠ 0) (hlt : a < b) :
  Calls Tryz.prog 158 #[.slice p n c, .slice q m d] w fun e w' => ∃ p1 m1 z1 p2 m2 z2, e = .returned (.tuple #[.slice p1 m1 m1, .slice p2 m2 m2]) ∧ At32 w' p1 m1 m1 z1 ∧ Nf B32 z1 (a / b) ∧ At32 w' p2 m2 m2 z2 ∧ Nf B32 z2 (a % b) ∧ m1 ≤ n ∧ m2 ≤ n ∧ Below w.heap.size w w' := by
 have HA := hdQ h;have HB := hdQ k;have HX := hdQ hx;have HY := hdQ hy
 have hm0 : m ≠ 0 := fun e => hb ((hy.zero_iff B32_one).1 (List.eq_nil_of_length_eq_zero (by rw [k.len]; exact e)))
 have hmb : ((m : Int) == 0) = false := by simp; omega
 have hcap := k.cap; have hbig := k.big;unfold maxLen at hbig;have HLT : Hid (a < b) := hlt;clear h k hx hy hb hlt
 go_enter Tryz.func158, Tryz.ntmps158
 go_wp2_with fail
 refine (rcmp_any HA.out HB.out HX.out HY.out).mono ?_
 rintro e w1 ⟨rfl, r, rfl⟩;rw [cmpN_lt HLT.out];have A1 : Hid (At32 (w.drewN r) p n c xs) := HA.out.drewN r;have hb1 : Below w.heap.size w (w.drewN r) := bDrewN (Below.refl _ _) r;clear HA HB;generalize w.drewN r = w1 at *;go_wp2_with fail
 rw [show Value.int IntKind.u64 0 = U 0 from rfl]
 refine (rword 0 (by decide) w1).mono ?_
 rintro e w2 ⟨g2, z2, rfl, hl2, hA2, hN2, hb2⟩;have A2 := hdQ hA2;have N2 := hdQ hN2;have A12 : Hid (At32 w2 p n c xs) := A1.out.below hb2;have hbw2 := Below.on hb1 hb2
 have hz2 : z2.length = 0 := by rw [(hN2.zero_iff B32_one).2 rfl]; rfl
 have HZ2 : Hid (z2.length = 0) := hz2;clear hA2 hN2 hb2 hb1 A1 hl2 hz2;go_wp2_with fail
 refine (rnorm_any A12.out (by omega)).mono ?_
 rw [trimL_of_Top HX.out.top];rintro e w3 ⟨g3, rfl, hg3, hblk3, hb3⟩
 have A3 : Hid (At32 w3 (some ⟨g3, 0, none⟩) xs.length xs.length xs) := hblk3.at_ HX.out.dig rfl (by rw [A12.out.len]; unfold maxLen; omega)
 have A23 : Hid (At32 w3 (some ⟨g2, 0, none⟩) z2.length z2.length z2) := A2.out.below hb3;have hbw3 := Below.on hbw2 hb3;have HLX : Hid (xs.length = n) := A12.out.len;clear hblk3 hb3 hg3 A2 A12;go_wp2_with fail
 go_ret2
 refine ⟨_, _, z2, _, _, xs, rfl, A23.out, by rw [Nat.div_eq_of_lt HLT.out]; exact N2.out, A3.out, by rw [Nat.mod_eq_of_lt HLT.out]; exact HX.out, by rw [HZ2.out]; omega, by rw [HLX.out]; exact Nat.le_refl _, hbw3⟩
theorem rdivmod_one {p q : Option Addr} {n m c d : Nat} {xs ys : List Nat} {a b : Nat} {w : World} (h : At32 w p n c xs) (k : At32 w q m d ys) (hx : Nf B32 xs a) (hy : Nf B32 ys b) (hn : n ≤ 16384) (hm : m ≤ 16384) (hb : b ≠ 0) (hge : b ≤ a) (hm1 : m = 1) :
  Calls Tryz.prog 158 #[.slice p n c, .slice q m d] w fun e w' => ∃ p1 m1 z1 p2 m2 z2, e = .returned (.tuple #[.slice p1 m1 m1, .slice p2 m2 m2]) ∧ At32 w' p1 m1 m1 z1 ∧ Nf B32 z1 (a / b) ∧ At32 w' p2 m2 m2 z2 ∧ Nf B32 z2 (a % b) ∧ m1 ≤ n ∧ m2 ≤ n ∧ Below w.heap.size w w' := by
 have HA := hdQ h;have HB := hdQ k;have HX := hdQ hx;have HY := hdQ hy
 have hm0 : m ≠ 0 := fun e => hb ((hy.zero_iff B32_one).1 (List.eq_nil_of_length_eq_zero (by rw [k.len]; exact e)))
 have hmb : ((m : Int) == 0) = false := by simp; omega
 have hcap := k.cap; have hbig := k.big;unfold maxLen at hbig;have HGE : Hid (b ≤ a) := hge;subst hm1;obtain ⟨y, rfl⟩ := List.length_eq_one_iff.1 k.len
 have hyv : b = y := by have := hy.val; simp [valB] at this; omega
 subst hyv
 obtain ⟨gq, oq, rfl, hcq⟩ := k.cells.resolve_left (by omega)
 have hc0 : w.cell? ⟨gq, oq, none⟩ = some (V b) := by have := hcq 0 (by omega); rw [Nat.add_zero] at this; exact this
 have hbB : b < B32 := hy.dig.head
 have HBB : Hid (b < B32 ∧ 1 ≤ b) := ⟨hbB, by omega⟩
 clear h k hx hy hb hge hcq hbB
 go_enter Tryz.func158, Tryz.ntmps158
 go_wp2_with fail
 refine (rcmp_any HA.out HB.out HX.out HY.out).mono ?_
 rintro e w1 ⟨rfl, r, rfl⟩;obtain ⟨cm, hcm⟩ := exq (cmpN a b);rw [← hcm]
 have hcm0 : decide (cm < 0) = false := decide_eq_false (by rw [hcm, cmpN_neg]; have := HGE.out; omega)
 have A1 : Hid (At32 (w.drewN r) p n c xs) := HA.out.drewN r;have hb1 : Below w.heap.size w (w.drewN r) := bDrewN (Below.refl _ _) r;have hc1 : (w.drewN r).cell? ⟨gq, oq, none⟩ = some (V b) := hc0;clear HA HB hcm hc0;generalize w.drewN r = w1 at *;go_wp2_with fail;clear hcm0
 refine (rdivsmall2 A1.out (by omega) b HBB.out.2 HBB.out.1).mono ?_
 rintro e w2 ⟨p2, m2, z2, r2, rfl, hA2, hN2, hl2, hr2, hb2⟩;rw [HX.out.val] at hN2 hr2;have A2 := hdQ hA2;have N2 : Hid (Nf B32 z2 (a / b) ∧ m2 ≤ n) := ⟨hN2, hl2⟩;have hbw2 := Below.on hb1 hb2;obtain ⟨rr, hrr⟩ := exq (a % b);rw [← hrr] at hr2;subst hr2
 have hrB : rr < B32 := by rw [hrr]; exact Nat.lt_trans (Nat.mod_lt _ HBB.out.2) HBB.out.1
 have HRR : Hid (rr = a % b ∧ rr < B64) := ⟨hrr, by rw [B32_eq] at hrB; rw [B64_eq]; omega⟩
 have f1 : IntKind.u64.wrap (rr : Int) = (rr : Int) := wrap_mod _ _ (by rw [B32_eq] at hrB; omega)
 have HN1 : Hid (1 ≤ n) := by
  have h1 := HGE.out; have h2 := HBB.out.2
  rcases Nat.eq_zero_or_pos n with e | e
  ·have := (HX.out.zero_iff B32_one).1 (List.eq_nil_of_length_eq_zero (by rw [A1.out.len]; exact e)); omega
  ·exact e
 have HRL : Hid (rr < B32) := hrB;clear hA2 hN2 hl2 hb2 hb1 A1 hrr hrB hc1;go_wp2_with fail
 refine (rword rr HRR.out.2 w2).mono ?_
 rintro e w3 ⟨g3, z3, rfl, hl3, hA3, hN3, hb3⟩;have A3 := hdQ hA3
 have hl1 : z3.length ≤ 1 := (hN3.len_le B32_one).2 (by rw [Nat.pow_one]; exact HRL.out)
 have N3 : Hid (Nf B32 z3 rr ∧ z3.length ≤ 1) := ⟨hN3, hl1⟩;have A23 : Hid (At32 w3 p2 m2 m2 z2) := A2.out.below hb3;have hbw3 := Below.on hbw2 hb3;clear hA3 hN3 hb3 hl3 hl1 A2 f1;go_wp2_with fail
 go_ret2
 exact ⟨_, _, z2, _, _, z3, rfl, A23.out, N2.out.1, A3.out, by rw [← HRR.out.1]; exact N3.out.1, N2.out.2, Nat.le_trans N3.out.2 HN1.out, hbw3⟩
structure B5 (W : World) (g : Nat) (v0 v1 v2 v3 v4 : Value) : Prop where
 c0 : W.cell? ⟨g, 0, none⟩ = some v0
 c1 : W.cell? ⟨g, 1, none⟩ = some v1
 c2 : W.cell? ⟨g, 2, none⟩ = some v2
 c3 : W.cell? ⟨g, 3, none⟩ = some v3
 c4 : W.cell? ⟨g, 4, none⟩ = some v4
 f0 : W.frozen? ⟨g, 0, none⟩ = false
 f1 : W.frozen? ⟨g, 1, none⟩ = false
 f2 : W.frozen? ⟨g, 2, none⟩ = false
 f3 : W.frozen? ⟨g, 3, none⟩ = false
 f4 : W.frozen? ⟨g, 4, none⟩ = false
theorem B5.below {W W' : World} {g : Nat} {v0 v1 v2 v3 v4 : Value} (h : B5 W g v0 v1 v2 v3 v4) (hb : Below W.heap.size W W') : B5 W' g v0 v1 v2 v3 v4 := by
  have hl : g < W.heap.size := World.block_lt_of_cell? W _ h.c0
  exact ⟨(hb.cell (p := ⟨g, 0, none⟩) hl).trans h.c0, (hb.cell (p := ⟨g, 1, none⟩) hl).trans h.c1, (hb.cell (p := ⟨g, 2, none⟩) hl).trans h.c2, (hb.cell (p := ⟨g, 3, none⟩) hl).trans h.c3, (hb.cell (p := ⟨g, 4, none⟩) hl).trans h.c4,
    (hb.frozen (p := ⟨g, 0, none⟩) hl).trans h.f0, (hb.frozen (p := ⟨g, 1, none⟩) hl).trans h.f1, (hb.frozen (p := ⟨g, 2, none⟩) hl).trans h.f2, (hb.frozen (p := ⟨g, 3, none⟩) hl).trans h.f3, (hb.frozen (p := ⟨g, 4, none⟩) hl).trans h.f4⟩
theorem B5.b {W W' : World} {g : Nat} {v0 v1 v2 v3 v4 : Value} (h : Hid (B5 W g v0 v1 v2 v3 v4)) (hb : Below W.heap.size W W') : Hid (B5 W' g v0 v1 v2 v3 v4) := B5.below h hb
theorem B5.new (w : World) (ty : TypeId) (v0 v1 v2 v3 v4 : Value) : B5 (w.alloc (.cells #[v0, v1, v2, v3, v4] ty)) w.heap.size v0 v1 v2 v3 v4 :=
 ⟨by go_simp, by go_simp, by go_simp, by go_simp, by go_simp, by go_simp, by go_simp, by go_simp, by go_simp, by go_simp⟩
theorem DocIs.inj {v : Nat} {us us' : List Nat} {f f' : Int} (h : DocIs v us f) (k : DocIs v us' f') : us = us' ∧ f = f' := by
  rcases h with ⟨h1, h2, rfl⟩ | ⟨h1, rfl, rfl⟩ <;> rcases k with ⟨k1, k2, rfl⟩ | ⟨k1, rfl, rfl⟩
  · exact ⟨h2.inj B64_one k2, rfl⟩
  · omega
  · omega
  · exact ⟨rfl, rfl⟩
theorem DocIs.er {v : Nat} {us : List Nat} {f : Int} (h : DocIs v us f) : f = 0 ∨ f = 5 := by
  rcases h with ⟨_, _, rfl⟩ | ⟨_, _, rfl⟩ <;> simp
structure Op5 where
 k : Int
 pa : Option Addr
 na : Nat
 ca : Nat
 xa : List Nat
 pb : Option Addr
 nb : Nat
 cb : Nat
 xb : List Nat
 nn : Int
 wd : Nat
structure Scr (w : World) (P : Option Addr) (N C : Nat) (its : List Op5) : Prop where
 len : its.length = N
 cap : N ≤ C
 big : C ≤ maxLen
 ats : ∀ t ∈ its, At w t.pa t.na t.ca t.xa ∧ At w t.pb t.nb t.cb t.xb ∧ t.na ≤ 17592186044416 ∧ t.nb ≤ 17592186044416 ∧ t.wd < B64 ∧ -9223372036854775808 ≤ t.nn ∧ t.nn ≤ 9223372036854775807
 cells : N = 0 ∨ ∃ g off, P = some ⟨g, off, none⟩ ∧ ∀ i (h : i < its.length), w.cell? ⟨g, off + i * 5, none⟩ = some (.int .i64 its[i].k) ∧ w.cell? ⟨g, off + i * 5 + 1, none⟩ = some (.slice its[i].pa its[i].na its[i].ca) ∧
  w.cell? ⟨g, off + i * 5 + 2, none⟩ = some (.slice its[i].pb its[i].nb its[i].cb) ∧ w.cell? ⟨g, off + i * 5 + 3, none⟩ = some (.int .i64 its[i].nn) ∧ w.cell? ⟨g, off + i * 5 + 4, none⟩ = some (U its[i].wd)
theorem Scr.below {w w' : World} {P : Option Addr} {N C : Nat} {its : List Op5} (h : Scr w P N C its) (hb : Below w.heap.size w w') : Scr w' P N C its := by
  refine ⟨h.len, h.cap, h.big, fun t ht => ?_, ?_⟩
  · obtain ⟨h1, h2, h3⟩ := h.ats t ht
    exact ⟨h1.below hb, h2.below hb, h3⟩
  · rcases h.cells with h0 | ⟨g, off, hP, hc⟩
    · exact .inl h0
    · refine .inr ⟨g, off, hP, fun i hi => ?_⟩
      obtain ⟨h0, h1, h2, h3, h4⟩ := hc i hi;have hl : g < w.heap.size := World.block_lt_of_cell? w _ h0
      exact ⟨(hb.cell (p := ⟨g, off + i * 5, none⟩) hl).trans h0, (hb.cell (p := ⟨g, off + i * 5 + 1, none⟩) hl).trans h1, (hb.cell (p := ⟨g, off + i * 5 + 2, none⟩) hl).trans h2,
        (hb.cell (p := ⟨g, off + i * 5 + 3, none⟩) hl).trans h3, (hb.cell (p := ⟨g, off + i * 5 + 4, none⟩) hl).trans h4⟩
theorem Scr.b {w w' : World} {P : Option Addr} {N C : Nat} {its : List Op5} (h : Hid (Scr w P N C its)) (hb : Below w.heap.size w w') : Hid (Scr w' P N C its) := Scr.below h hb
def ShIs (r : Nat → Nat → Nat) (xs : List Nat) (t : Int) (us : List Nat) (f : Int) : Prop :=
 (t < 0 ∧ us = [] ∧ f = 1) ∨ (0 ≤ t ∧ formB xs = false ∧ us = [] ∧ f = 2) ∨ (0 ≤ t ∧ formB xs = true ∧ DocIs (r (valB B64 xs) t.toNat) us f)
theorem ShIs.inj {r : Nat → Nat → Nat} {xs : List Nat} {t : Int} {us us' : List Nat} {f f' : Int} (h : ShIs r xs t us f) (k : ShIs r xs t us' f') : us = us' ∧ f = f' := by
  rcases h with ⟨h1, rfl, rfl⟩ | ⟨h1, h2, rfl, rfl⟩ | ⟨h1, h2, h3⟩ <;> rcases k with ⟨k1, rfl, rfl⟩ | ⟨k1, k2, rfl, rfl⟩ | ⟨k1, k2, k3⟩
  · exact ⟨rfl, rfl⟩
  · omega
  · omega
  · omega
  · exact ⟨rfl, rfl⟩
  · rw [k2] at h2; simp at h2
  · omega
  · rw [k2] at h2; simp at h2
  · exact h3.inj k3
theorem ShIs.er {r : Nat → Nat → Nat} {xs us : List Nat} {t f : Int} (h : ShIs r xs t us f) : f = 0 ∨ f = 1 ∨ f = 2 ∨ f = 3 ∨ f = 4 ∨ f = 5 := by
  rcases h with ⟨_, _, rfl⟩ | ⟨_, _, _, rfl⟩ | ⟨_, _, ⟨_, _, rfl⟩ | ⟨_, _, rfl⟩⟩ <;> simp
theorem rshr_all {p : Option Addr} {n c : Nat} {xs : List Nat} {v : Nat} {w : World} (h : At32 w p n c xs) (hx : Nf B32 xs v) (hn : n ≤ 16384) (N : Nat) (hN2 : N ≤ 9223372036854775807) :
  Calls Tryz.prog 47 #[.slice p n c, .int .i64 N] w fun e w' => ∃ p' m' zs, e = .returned (.slice p' m' m') ∧ At32 w' p' m' m' zs ∧ Nf B32 zs (v / 2 ^ N) ∧ m' ≤ n ∧ Below w.heap.size w w' := by
 rcases Nat.eq_zero_or_pos N with h0 | h0
 ·subst h0
  have HX := hdQ hx;have HA := hdQ h;clear h hx
  go_enter Tryz.func47, Tryz.ntmps47
  go_wp2_with fail
  refine (rnorm_any HA.out (by omega)).mono ?_
  rw [trimL_of_Top HX.out.top];rintro e w1 ⟨g, rfl, hg, hb, hbl⟩;have HB := hdQ hb;rw [HA.out.len];clear hb;go_wp2_with fail
  go_ret
  exact ⟨_, n, xs, rfl, HB.out.at_ HX.out.dig HA.out.len (by unfold maxLen; omega), by rw [Nat.pow_zero, Nat.div_one]; exact HX.out, by omega, hbl⟩
 ·exact rfshr_any h hx hn N h0 hN2
structure DigRel32 (w : World) (gq gr L n : Nat) (A D : Nat) (k : Nat) (qs rs : List Nat) (wr : World) : Prop where
 bel : ∀ B, B ≤ gq → B ≤ gr → Below B w wr
 rowq : Row32 wr gq 0 L qs
 rowr : Row32 wr gr 0 (L + n) rs
 cell : ∀ b o, b ≠ gq → b ≠ gr → wr.cell? ⟨b, o, none⟩ = w.cell? ⟨b, o, none⟩
 lt : valB B32 (rs.drop (L - k)) < D
 sum : valB B32 rs + B32 ^ (L - k) * valB B32 (qs.drop (L - k)) * D = A

theorem Row32.other {w : World} {g off n : Nat} {xs : List Nat} (h : Row32 w g off n xs) (g2 o2 : Nat) (v : Value) (hne : g ≠ g2) : Row32 (w.setCell ⟨g2, o2, none⟩ v) g off n xs := by
  refine ⟨h.len, h.dig, fun j hj => ?_, fun j hj => by rw [World.frozen?_setCell]; exact h.frozen j hj⟩
  exact (World.cell?_setCell_other _ _ _ _ (by intro e; apply hne; have := congrArg Addr.block e; simp at this; omega)).trans (h.cell j hj)
theorem Row32.wr {w w' : World} {g off n g2 o2 l2 : Nat} {xs : List Nat} (h : Row32 w g off n xs) (hwr : Wr g2 o2 l2 w w') (hne : g ≠ g2) : Row32 w' g off n xs :=
 ⟨h.len, h.dig, fun j hj => (hwr.cell g (off + j) (.inl hne)).trans (h.cell j hj), fun j hj => (hwr.frozen _).trans (h.frozen j hj)⟩
theorem At32.cells_of {w w' : World} {g off n c : Nat} {xs : List Nat} (h : At32 w (some ⟨g, off, none⟩) n c xs) (hc : ∀ o, w'.cell? ⟨g, o, none⟩ = w.cell? ⟨g, o, none⟩) : At32 w' (some ⟨g, off, none⟩) n c xs :=
 ⟨h.len, h.cap, h.big, h.dig, by
  rcases h.cells with h0 | ⟨g', o', he, hcl⟩
  ·exact .inl h0
  ·refine .inr ⟨g', o', he, fun j hj => ?_⟩
   simp only [Option.some.injEq, Addr.mk.injEq, and_true] at he
   rw [← he.1, ← he.2] at hcl ⊢
   exact (hc (off + j)).trans (hcl j hj)⟩

theorem dig_abs32 {P W q r D T Q A : Nat} (hW : q * D + r = W) (h : T + P * W + P * B32 * Q * D = A) : T + P * r + P * (q + B32 * Q) * D = A := by
  subst hW
  have e1 : P * (q + B32 * Q) * D = P * (q * D) + P * B32 * Q * D := by
    rw [Nat.mul_add, Nat.add_mul, Nat.mul_assoc P q D, ← Nat.mul_assoc P B32 Q]
  rw [e1];rw [Nat.mul_add] at h
  omega
theorem DigRel32.window {w : World} {gq gr L n A D k : Nat} {qs rs : List Nat} {wr : World} (h : DigRel32 w gq gr L n A D k qs rs wr) (hk : k < L) (hDn : D < B32 ^ n) :
  ∃ a ws, a = L - 1 - k ∧ ws = (rs.drop a).take (n + 1) ∧ Row32 wr gr a (n + 1) ws ∧ valB B32 ws < B32 * D ∧ valB B32 rs = valB B32 (rs.take a) + B32 ^ a * valB B32 ws ∧ valB B32 (rs.drop (a + (n + 1))) = 0 := by
 have hl := h.rowr.len;obtain ⟨a, ha⟩ := exq (L - 1 - k);have hlt := h.lt
 rw [show L - k = a + 1 by omega] at hlt
 have hz : valB B32 (rs.drop (a + (n + 1))) = 0 := by
  have hs := valB_split B32 (rs.drop (a + 1)) n (by rw [List.length_drop]; omega)
  rw [List.drop_drop, show a + 1 + n = a + (n + 1) by omega] at hs
  rcases Nat.eq_zero_or_pos (valB B32 (rs.drop (a + (n + 1)))) with e | e
  ·exact e
  ·exfalso
   have : B32 ^ n * 1 ≤ B32 ^ n * valB B32 (rs.drop (a + (n + 1))) := Nat.mul_le_mul_left _ e
   omega
 have hw := win_take32 rs a (n + 1) (by omega)
 rw [hz, Nat.mul_zero, Nat.add_zero] at hw
 refine ⟨a, _, ha, rfl, h.rowr.win a (n + 1) (by omega), ?_, hw, hz⟩
 have hs := valB_split B32 (rs.drop a) (n + 1) (by rw [List.length_drop]; omega)
 rw [List.drop_drop, hz, Nat.mul_zero, Nat.add_zero] at hs
 rw [← hs, valB_drop B32 rs a (by omega)]
 have hb := h.rowr.dig.getD B32_pos a;have : B32 * (valB B32 (rs.drop (a + 1)) + 1) ≤ B32 * D := Nat.mul_le_mul_left _ hlt;rw [Nat.mul_add] at this
 omega
theorem DigRel32.step {w : World} {gq gr L n A D k : Nat} {qs rs : List Nat} {wr wr' : World} (h : DigRel32 w gq gr L n A D k qs rs wr) (hk : k < L) (hne : gq ≠ gr) {a q : Nat} {ws ws' : List Nat} (ha : a = L - 1 - k)
  (hrs : valB B32 rs = valB B32 (rs.take a) + B32 ^ a * valB B32 ws) (hz : valB B32 (rs.drop (a + (n + 1))) = 0) (hD : 0 < D) (hq : q = valB B32 ws / D) (hqb : q < B32) (hr : valB B32 ws' = valB B32 ws % D)
  (hwr : Wr gr a (n + 1) wr wr') (hrow : Row32 wr' gr a (n + 1) ws') : DigRel32 w gq gr L n A D (k + 1) (qs.set a q) (winPut rs ws' a) (wr'.setCell ⟨gq, a, none⟩ (V q)) := by
 have hl := h.rowr.len; have hql := h.rowq.len; have hwl := hrow.len
 have hle : a + ws'.length ≤ rs.length := by omega
 have e1 : L - (k + 1) = a := by omega
 have e2 : L - k = a + 1 := by omega
 have hdrop : valB B32 ((winPut rs ws' a).drop a) = valB B32 ws % D := by
  rw [winPut_drop rs ws' a hle, valB_append, hwl, hz, Nat.mul_zero, Nat.add_zero, hr]
 refine ⟨fun B h1 h2 => ?_, ?_, ?_, fun b o h1 h2 => ?_, ?_, ?_⟩
 ·exact ((h.bel B h1 h2).trans (hwr.below h2)).trans ((Wr.refl gq 0 L wr').setCell a ⟨by omega, by omega⟩ (V q) |>.below h1)
 ·have := (h.rowq.wr hwr hne).set a q (by omega) hqb
  rw [Nat.zero_add] at this; exact this
 ·exact (h.rowr.put hwr hrow (by omega)).other gq a _ (Ne.symm hne)
 ·rw [World.cell?_setCell_other _ _ _ _ (by intro e; apply h1; have := congrArg Addr.block e; simp at this; omega), hwr.cell b o (.inl h2)]
  exact h.cell b o h1 h2
 ·rw [e1, hdrop]; exact Nat.mod_lt _ hD
 ·have hs := h.sum
  rw [e2, hrs, Nat.pow_succ] at hs
  rw [e1, valB_split B32 (winPut rs ws' a) a (by rw [winPut_len rs ws' a hle]; omega), winPut_take rs ws' a hle, hdrop, drop_set_at qs a q (by omega), valB_cons]
  refine dig_abs32 (W := valB B32 ws) (q := q) ?_ hs
  rw [hq, Nat.mul_comm]; exact Nat.div_add_mod _ _

theorem Row32.below2 {w w' : World} {g off n B : Nat} {xs : List Nat} (h : Row32 w g off n xs) (hb : Below B w w') (hg : g < B) : Row32 w' g off n xs :=
 ⟨h.len, h.dig, fun j hj => (hb.cell (p := ⟨g, off + j, none⟩) hg).trans (h.cell j hj), fun j hj => (hb.frozen (p := ⟨g, off + j, none⟩) hg).trans (h.frozen j hj)⟩
theorem own_row32 {wr : World} {base i N : Nat} {p : Option Addr} {ss : List Nat} (ho : wr.ownsRow base 114 1 (.slice p i N) i (cellsV ss)) (hl : ss.length = i) (hd : Dig B32 ss) (hi : 0 < i) : ∃ g, p = some ⟨g, 0, none⟩ ∧ base ≤ g ∧ Row32 wr g 0 i ss ∧ i ≤ N ∧ N ≤ maxLen := by
  rcases ho.2 with ⟨h', h0⟩ | ⟨g', cap', cur, h', hbase, hgc, hcap', hmx, hsz, htake⟩
  · omega
  · simp only [Value.slice.injEq, true_and] at h'
    obtain ⟨rfl, rfl⟩ := h'
    refine ⟨g', rfl, hbase, ⟨hl, hd, fun jj hj => ?_, fun jj _ => frozen_of_row wr g' _ _ _ hgc⟩, hcap', hmx⟩
    rw [Nat.zero_add, cell_of_row wr g' jj _ _ _ hgc]
    have e1 := cellsV_get ss jj (by rw [hl]; exact hj)
    rw [← htake, Nat.mul_one, List.getElem?_take, if_pos hj] at e1;rw [← Array.getElem?_toList]; exact e1
theorem shl_len {b M y s : Nat} {ys : List Nat} (hy : Nf B32 ys b) (hl : ys.length = M + 1) (hyy : y = ys.getD M 0) (hy0 : 0 < y) (hs : s = 32 - bitsN y) (hb32 : bitsN y ≤ 32) : b * 2 ^ s < B32 ^ (M + 1) ∧ B32 ^ M ≤ b * 2 ^ s := by
  have h1 : b = valB B32 (ys.take M) + B32 ^ M * y := by
    rw [← hy.val, valB_split B32 ys M (by omega), valB_drop B32 ys M (by omega), ← hyy, List.drop_of_length_le (by omega), valB_nil, Nat.mul_zero, Nat.add_zero]
  have h2 := valB_lt B32_pos (hy.dig.take M)
  rw [List.length_take, hl, Nat.min_eq_left (by omega)] at h2
  have h3 := bitsN_lt y
  have hp : 0 < 2 ^ s := Nat.pow_pos (by omega)
  refine ⟨?_, ?_⟩
  · have h4 : b < B32 ^ M * 2 ^ bitsN y := by
      have : B32 ^ M * (y + 1) ≤ B32 ^ M * 2 ^ bitsN y := Nat.mul_le_mul_left _ h3;rw [Nat.mul_add, Nat.mul_one] at this
      omega
    have h5 : B32 ^ M * 2 ^ bitsN y * 2 ^ s = B32 ^ (M + 1) := by
      rw [Nat.mul_assoc, ← Nat.pow_add, Nat.pow_succ, show bitsN y + s = 32 by omega]; rfl
    rw [← h5]
    exact Nat.mul_lt_mul_of_pos_right h4 hp
  · have h4 : B32 ^ M * 1 ≤ B32 ^ M * y := Nat.mul_le_mul_left _ hy0
    have h5 : b * 1 ≤ b * 2 ^ s := Nat.mul_le_mul_left _ hp
    omega
theorem rdivmod_big {p q : Option Addr} {n m c d : Nat} {xs ys : List Nat} {a b : Nat} {w : World} (h : At32 w p n c xs) (k : At32 w q m d ys) (hx : Nf B32 xs a) (hy : Nf B32 ys b) (hn : n ≤ 16384) (hm : m ≤ 16384) (hb : b ≠ 0) (hge : b ≤ a) (hm2 : 2 ≤ m) :
  Calls Tryz.prog 158 #[.slice p n c, .slice q m d] w fun e w' => ∃ p1 m1 z1 p2 m2 z2, e = .returned (.tuple #[.slice p1 m1 m1, .slice p2 m2 m2]) ∧ At32 w' p1 m1 m1 z1 ∧ Nf B32 z1 (a / b) ∧ At32 w' p2 m2 m2 z2 ∧ Nf B32 z2 (a % b) ∧ m1 ≤ n ∧ m2 ≤ n ∧ Below w.heap.size w w' := by
 have HA := hdQ h;have HB := hdQ k;have HX := hdQ hx;have HY := hdQ hy
 have hm0 : m ≠ 0 := fun e => hb ((hy.zero_iff B32_one).1 (List.eq_nil_of_length_eq_zero (by rw [k.len]; exact e)))
 have hmb : ((m : Int) == 0) = false := by simp; omega
 have hcap := k.cap; have hbig := k.big;unfold maxLen at hbig;have HGE : Hid (b ≤ a) := hge
 have hm1 : ((m : Int) == 1) = false := by simp; omega
 have hm1' : ¬ m = 1 := by omega
 obtain ⟨gq, oq, rfl, hcq⟩ := k.cells.resolve_left (by omega)
 obtain ⟨M, rfl⟩ : ∃ M, m = M + 1 := ⟨m - 1, by omega⟩
 obtain ⟨y, hyy⟩ := exq (ys.getD M 0)
 have hc0 : w.cell? ⟨gq, oq + M, none⟩ = some (V y) := by rw [hyy]; exact hcq M (by omega)
 have hyB : y < B32 := by rw [hyy]; exact hy.dig.getD B32_pos _
 have hyp : 0 < y := by
  rcases Nat.eq_zero_or_pos y with e | e
  ·exfalso
   have h1 := valB_pos B32_pos (zs := ys) (by intro e2; have := k.len; rw [e2] at this; simp at this) hy.top
   rw [hy.val, k.len, Nat.add_sub_cancel] at h1
   have h2 : b = valB B32 (ys.take M) := by
    rw [← hy.val, valB_split B32 ys M (by rw [k.len]; omega), valB_drop B32 ys M (by rw [k.len]; omega), ← hyy, e, List.drop_of_length_le (by rw [k.len]; omega), valB_nil, Nat.mul_zero, Nat.add_zero, Nat.mul_zero, Nat.add_zero]
   have h3 := valB_lt B32_pos (hy.dig.take M)
   rw [List.length_take, k.len, Nat.min_eq_left (by omega)] at h3
   omega
  ·exact e
 have hbN : bitsN y ≤ 32 ∧ 1 ≤ bitsN y := ⟨(lt_pow_bits y 32).1 (by rw [B32_eq] at hyB; omega), bitsN_pos (by omega)⟩
 obtain ⟨s, hs⟩ := exq (32 - bitsN y)
 have hsI : wrap64 (32 - (bitsN y : Int)) = (s : Int) := by simp only [wrap64]; omega
 have hsI2 : (32 : Int) - (bitsN y : Int) = (s : Int) := by omega
 have HS : Hid (s = 32 - bitsN y ∧ s ≤ 31) := ⟨hs, by omega⟩
 have HYY : Hid (y = ys.getD M 0 ∧ 0 < y ∧ y < B32) := ⟨hyy, hyp, hyB⟩;have HLXY : Hid (xs.length = n ∧ ys.length = M + 1) := ⟨h.len, k.len⟩
 have hMI : (M : Int) + 1 - 1 = (M : Int) := by omega
 clear h k hx hy hb hge hcq hyy hyB hyp hs
 go_enter Tryz.func158, Tryz.ntmps158
 go_wp2_with fail
 refine (rcmp_any HA.out HB.out HX.out HY.out).mono ?_
 rintro e w1 ⟨rfl, r, rfl⟩;obtain ⟨cm, hcm⟩ := exq (cmpN a b);rw [← hcm]
 have hcm0 : decide (cm < 0) = false := decide_eq_false (by rw [hcm, cmpN_neg]; have := HGE.out; omega)
 have A1 : Hid (At32 (w.drewN r) p n c xs) := HA.out.drewN r;have B1 : Hid (At32 (w.drewN r) (some ⟨gq, oq, none⟩) (M + 1) d ys) := HB.out.drewN r;have hb1 : Below w.heap.size w (w.drewN r) := bDrewN (Below.refl _ _) r;have hc1 : (w.drewN r).cell? ⟨gq, oq + M, none⟩ = some (V y) := hc0;clear HA HB hcm hc0;generalize w.drewN r = w1 at *;go_wp2_with fail
 have NY : Hid (Nf B32 [y] y) := by
  have h9 := HYY.out
  refine ⟨Dig.cons h9.2.2 (Dig.nil _), ?_, by simp [valB]⟩
  intro z hz
  simp at hz
  omega
 have AY : Hid (At32 w1 (some ⟨gq, oq + M, none⟩) 1 (d - M) [y]) := ⟨rfl, by omega, by unfold maxLen; omega, NY.out.dig, .inr ⟨gq, oq + M, rfl, fun j hj => by obtain rfl : j = 0 := (by omega); rw [Nat.add_zero]; exact hc1⟩⟩
 refine (rbits_any AY.out NY.out (by omega)).mono ?_
 rintro e w' ⟨rfl, hw⟩;obtain rfl := hw.symm;clear hw AY NY hc1 hcm0;go_wp2_with fail;clear hsI hsI2;have HSL : Hid (b * 2 ^ s < B32 ^ (M + 1) ∧ B32 ^ M ≤ b * 2 ^ s) := shl_len HY.out HLXY.out.2 HYY.out.1 HYY.out.2.1 HS.out.1 hbN.1
 refine (rshl_blk B1.out HY.out (by omega) hm s (by have := HS.out.2; omega)).mono ?_
 rintro e w2 ⟨gv, vs, rfl, hgv, hKv, hNv, hlv, hb2⟩;obtain ⟨D, hD⟩ := exq (b * 2 ^ s);rw [← hD] at hNv
 have hvl : vs.length = M + 1 := by
  have h1 := (hNv.len_le B32_one (k := M + 1)).2 (by rw [hD]; exact HSL.out.1)
  have h2 : ¬ vs.length ≤ M := fun e => by have := (hNv.len_le B32_one).1 e; have := HSL.out.2; omega
  omega
 rw [hvl];have HVL : Hid (vs.length = M + 1 ∧ D = b * 2 ^ s) := ⟨hvl, hD⟩;have HNV := hdQ hNv;have hgv2 : gv < w2.heap.size := hKv.lt
 have V2 : Hid (At32 w2 (some ⟨gv, 0, none⟩) (M + 1) (M + 1) vs) := hKv.at_ hNv.dig hvl (by unfold maxLen; omega)
 have A2 : Hid (At32 w2 p n c xs) := A1.out.below hb2;have HB2 : Hid (Below w.heap.size w w2) := Below.on hb1 hb2
 have HN0 : Hid (0 < n) := by
  have h1 := HGE.out
  rcases Nat.eq_zero_or_pos n with e | e
  ·have h2 := (HX.out.zero_iff B32_one).1 (List.eq_nil_of_length_eq_zero (by rw [HLXY.out.1]; exact e))
   have h3 := HSL.out.2
   have h4 : b = 0 := by omega
   rw [h4, Nat.zero_mul] at h3;have : 0 < B32 ^ M := Nat.pow_pos B32_pos
   omega
  ·exact e
 clear hKv hNv hb2 hb1 A1 B1 hD hvl hlv hgv;go_wp2_with fail
 refine (rshl_blk A2.out HX.out HN0.out hn s (by have := HS.out.2; omega)).mono ?_
 rintro e w3 ⟨gu, u0, rfl, hgu, hKu, hNu, hlu, hb3⟩
 obtain ⟨A', hA'⟩ : ∃ A', A' = a * 2 ^ s := ⟨_, rfl⟩
 rw [← hA'] at hNu
 have hp2 : 0 < 2 ^ s := Nat.pow_pos (by omega)
 have hul : n ≤ u0.length ∧ u0.length ≤ n + 1 := by
  refine ⟨?_, (hNu.len_le B32_one).2 ?_⟩
  ·rcases Nat.lt_or_ge u0.length n with e | e
   ·exfalso
    have h1 := (hNu.len_le B32_one (k := n - 1)).1 (by omega)
    have h2 : ¬ a < B32 ^ (n - 1) := fun e3 => by have := (HX.out.len_le B32_one).2 e3; have := HLXY.out.1; have := HN0.out; omega
    have h3 : a * 1 ≤ a * 2 ^ s := Nat.mul_le_mul_left _ hp2
    omega
   ·exact e
  ·have h1 := (HX.out.len_le B32_one (k := n)).1 (by rw [HLXY.out.1]; exact Nat.le_refl _)
   have h2 : 2 ^ s ≤ B32 := by rw [show B32 = 2 ^ 32 from rfl]; exact Nat.pow_le_pow_right (by omega) (by have := HS.out.2; omega)
   rw [hA', Nat.pow_succ]
   exact Nat.lt_of_lt_of_le (Nat.mul_lt_mul_of_pos_right h1 hp2) (Nat.mul_le_mul_left _ h2)
 have HAV := hdQ hA';have V3 : Hid (At32 w3 (some ⟨gv, 0, none⟩) (M + 1) (M + 1) vs) := V2.out.below hb3;have HB3 := hdQ hb3
 have HO : Hid (w3.ownsRow w2.heap.size 114 1 (.slice (some ⟨gu, 0, none⟩) u0.length u0.length) u0.length (cellsV u0)) := hKu.own hgu (by unfold maxLen; omega)
 have HDU : Hid (Dig B32 u0 ∧ valB B32 u0 = A') := ⟨hNu.dig, hNu.val⟩;obtain ⟨L0, hL0⟩ := exq u0.length;rw [← hL0] at HO hul ⊢;have HL0 : Hid (u0.length = L0) := hL0.symm;obtain ⟨i0, hi, hz0, hz1, hz2⟩ := info_parts Tryz.infoU32;clear hKu hNu hb3 hgu hlu hA' hL0 A2;go_wp2_with fail
 go_loopg [10] (n + 1 - L0) (fun gk uv wr => ∃ (i Nc : Nat) (pp : Option Addr) (ss : List Nat), i + gk = n + 1 ∧ uv = .slice pp i Nc ∧ Hid (wr.ownsRow w2.heap.size 114 1 (.slice pp i Nc) i (cellsV ss) ∧ ss.length = i ∧ Dig B32 ss ∧ valB B32 ss = A' ∧ Below w2.heap.size w2 wr))
 case atStart => exact ⟨L0, L0, _, u0, by omega, rfl, HO.out, HL0.out, HDU.out.1, HDU.out.2, HB3.out⟩
 case round =>
  obtain ⟨i, Nc, pp, ss, hig, rfl, HR⟩ := hrel;have hbr := HR.out.2.2.2.2
  cases gk with
  | succ gg =>
   have hle : (i : Int) ≤ (n : Int) := by omega
   have hle2 : i ≤ n := by omega
   have hleb : decide (i ≤ n) = true := decide_eq_true hle2;have HOA : Hid ((wr.alloc (.cells #[V 0] 114)).ownsRow w2.heap.size 114 1 (.slice pp i Nc) i (cellsV ss)) := HR.out.1.alloc _
   have hsz1 : w2.heap.size ≤ (wr.alloc (.cells #[V 0] 114)).heap.size := by have := hbr.size; simp; omega
   go_wp2_with (at_builtin; refine wpList_append_own _ rfl (.tmp 59) (.tmp 60) 54 rfl w2.heap.size 114 i0 (.int .u32 0) 1 4 Tryz.underlying54 hi hz0 hz1 hz2 rfl (by decide) (.slice pp i Nc) i (cellsV ss) rfl HOA.out ⟨wr.heap.size, 0, none⟩ 1 1 [V 0] rfl rfl (one_cell wr 0) (by intro u hu; simp at hu; subst hu; rfl) (by unfold maxLen; omega) (by omega) hsz1 ?_; intro v3 w3 hw3 hgr3 hnil3)
   obtain ⟨p3, N3, rfl⟩ := own_form hw3
   have HR3 : Hid (w3.ownsRow w2.heap.size 114 1 (.slice p3 (i + 1) N3) (i + 1) (cellsV (ss ++ [0])) ∧ (ss ++ [0]).length = i + 1 ∧ Dig B32 (ss ++ [0]) ∧ valB B32 (ss ++ [0]) = A' ∧ Below w2.heap.size w2 w3) := by
    have hR := HR.out
    refine ⟨?_, by simp [hR.2.1], hR.2.2.1.append (Dig.cons B32_pos (Dig.nil _)), by rw [valB_snoc, Nat.mul_zero, Nat.add_zero]; exact hR.2.2.2.1, ?_⟩
    ·have e0 : cellsV (ss ++ [0]) = cellsV ss ++ [V 0] := by unfold cellsV; rw [List.map_append]; rfl
     rw [e0]; exact hw3
    ·exact (hR.2.2.2.2.alloc hR.2.2.2.2.size _).grown hgr3 (by have := hR.2.2.2.2.size; simp; omega) (own_base HOA.out)
   clear hw3 hgr3 hnil3
   go_roundg gg
   case measure => omega
   case rel => exact ⟨i + 1, N3, p3, ss ++ [0], by omega, rfl, HR3⟩
  | zero =>
   obtain rfl : i = n + 1 := by omega
   obtain ⟨gu2, rfl, hgu2, hrow, hNc, hNcm⟩ := own_row32 HR.out.1 HR.out.2.1 HR.out.2.2.1 (by omega)
   unfold maxLen at hNcm;have V4 : Hid (At32 wr (some ⟨gv, 0, none⟩) (M + 1) (M + 1) vs) := V2.out.below hbr
   have HROW : Hid (Row32 wr gu2 0 (n + 1) ss ∧ valB B32 ss = A' ∧ w2.heap.size ≤ gu2 ∧ gu2 < wr.heap.size) := ⟨hrow, HR.out.2.2.2.1, hgu2, World.block_lt_of_cell? wr _ (hrow.cell 0 (by omega))⟩
   have HBR : Hid (Below w.heap.size w wr) := Below.on HB2.out hbr;have hbr2 : Hid (gv < wr.heap.size ∧ gv < w2.heap.size) := ⟨Nat.lt_of_lt_of_le hgv2 hbr.size, hgv2⟩;clear HR hrow hgu2 hbr HO;obtain ⟨L, hL⟩ := exq (n - M)
   have hMn : M < n := by
    rcases Nat.lt_or_ge M n with e | e
    ·exact e
    ·exfalso
     have h1 := (HX.out.len_le B32_one (k := n)).1 (by rw [HLXY.out.1]; exact Nat.le_refl _)
     have h2 : B32 ^ n ≤ B32 ^ M := Nat.pow_le_pow_right B32_pos e
     have h3 : ¬ b < B32 ^ M := fun e3 => by have := (HY.out.len_le B32_one).2 e3; have := HLXY.out.2; omega
     have := HGE.out
     omega
   have hLI : (n : Int) + 1 - ((M : Int) + 1) = (L : Int) := by omega
   have hLb : L ≤ 16384 := by omega
   have hLp : 1 ≤ L := by omega
   have HL : Hid (L = n - M ∧ M < n) := ⟨hL, hMn⟩;obtain ⟨wo, hwo⟩ := exq wr;subst hwo;clear hL hMn
   go_wp2_with (at_make; refine wpList_make_full _ rfl _ _ 54 rfl wo.heap.size 114 i0 (.int .u32 0) 1 Tryz.underlying54 hi hz0 hz1 _ _ _ _ L rfl rfl (by omega) (by omega) (by rw [hz2]; omega) (by unfold maxLen; omega) (Nat.le_refl _) ?_; intro w5 hown hgrow; have hb := made_blk32 hown hgrow; clear hown hgrow)
   have HNM : Hid (n + 1 = L + (M + 1)) := by have := HL.out; show _ = _; omega
   have hblt : Below wo.heap.size wo w5 := hb.2
   have HG : Hid (gv ≠ gu2 ∧ gv ≠ wo.heap.size ∧ wo.heap.size ≠ gu2 ∧ w2.heap.size ≤ gu2) := by
    have h1 := HROW.out.2.2;have h2 := hbr2.out
    exact ⟨by omega, by omega, by omega, h1.1⟩
   have V5 : Hid (At32 w5 (some ⟨gv, 0, none⟩) (M + 1) (M + 1) vs) := V4.out.below hblt
   have HD0 : Hid (DigRel32 w5 wo.heap.size gu2 L (M + 1) A' D 0 (List.replicate L 0) ss w5) := by
    have hr := hb.1.row (Dig.replicate B32 L B32_pos);rw [List.length_replicate] at hr;have hru := HROW.out.1.below2 hblt HROW.out.2.2.2;rw [HNM.out] at hru
    refine ⟨fun B _ _ => Below.refl _ _, hr, hru, fun _ _ _ _ => rfl, ?_, ?_⟩
    ·rw [Nat.sub_zero]
     have hs9 := valB_split B32 ss L (by rw [hru.len]; omega)
     rw [HROW.out.2.1] at hs9
     have hA9 : A' < B32 ^ L * D := by
      have h1 := (HX.out.len_le B32_one (k := n)).1 (by rw [HLXY.out.1]; exact Nat.le_refl _)
      have h3 : B32 ^ M ≤ b := by
       rcases Nat.lt_or_ge b (B32 ^ M) with e | e
       ·have := (HY.out.len_le B32_one).2 e; have := HLXY.out.2; omega
       ·exact e
      have h4 : B32 ^ n = B32 ^ L * B32 ^ M := by rw [← Nat.pow_add]; congr 1; have := HL.out; omega
      have h5 : B32 ^ L * B32 ^ M ≤ B32 ^ L * b := Nat.mul_le_mul_left _ h3;rw [HAV.out, HVL.out.2, ← Nat.mul_assoc]
      exact Nat.mul_lt_mul_of_pos_right (by omega) (Nat.pow_pos (by omega))
     have h6 : B32 ^ L * valB B32 (ss.drop L) < B32 ^ L * D := by omega
     exact Nat.lt_of_mul_lt_mul_left h6
    ·rw [Nat.sub_zero, List.drop_of_length_le (by rw [List.length_replicate]; exact Nat.le_refl _), valB_nil, Nat.mul_zero, Nat.zero_mul, Nat.add_zero]; exact HROW.out.2.1
   have HB5 : Hid (Below w.heap.size w w5) := Below.on HBR.out hblt
   have HV0 : Hid (0 < vs.getD (M + 1 - 1) 0 ∧ valB B32 vs = D ∧ D < B32 ^ (M + 1) ∧ 0 < D) := by
    have h1 := HNV.out;have h2 := HVL.out;have h3 := HSL.out
    have hDlt : D < B32 ^ (M + 1) := by rw [h2.2]; exact h3.1
    have hDge : B32 ^ M ≤ D := by rw [h2.2]; exact h3.2
    have hP9 : 0 < B32 ^ M := Nat.pow_pos B32_pos
    refine ⟨?_, h1.val, hDlt, by omega⟩
    rw [Nat.add_sub_cancel]
    rcases Nat.eq_zero_or_pos (vs.getD M 0) with e | e
    ·exfalso
     have h4 : D = valB B32 (vs.take M) := by
      rw [← h1.val, valB_split B32 vs M (by omega), valB_drop B32 vs M (by omega), e, List.drop_of_length_le (by omega), valB_nil, Nat.mul_zero, Nat.add_zero, Nat.mul_zero, Nat.add_zero]
     have h5 := valB_lt B32_pos (h1.dig.take M)
     rw [List.length_take, h2.1, Nat.min_eq_left (by omega)] at h5
     omega
    ·exact e
   obtain ⟨gq2, hgq2⟩ := exq wo.heap.size
   have HGQ : Hid (w.heap.size ≤ gq2 ∧ w.heap.size ≤ gu2) := ⟨by rw [hgq2]; exact HBR.out.size, Nat.le_trans HB2.out.size HG.out.2.2.2⟩
   rw [← hgq2] at HD0 HG ⊢;clear hb hblt hgq2 HROW V4 hLI
   go_loopg [13] L (fun gk jv wr => ∃ (k : Nat) (z : Int) (qs rs : List Nat), k + gk = L ∧ jv = .int .i64 z ∧ z = (gk : Int) - 1 ∧ Hid (DigRel32 w5 gq2 gu2 L (M + 1) A' D k qs rs wr))
   case atStart => exact ⟨0, _, _, ss, by omega, rfl, by omega, HD0⟩
   case round =>
    obtain ⟨k, z, qs, rs, hkg, rfl, hz, HR⟩ := hrel
    cases gk with
    | zero =>
     obtain rfl : k = L := by omega
     obtain rfl : z = -1 := by omega
     have hsum := HR.out.sum;have hltD := HR.out.lt;rw [Nat.sub_self, List.drop_zero] at hltD;rw [Nat.sub_self, List.drop_zero, Nat.pow_zero, Nat.one_mul] at hsum
     have hquo : valB B32 qs = A' / D ∧ valB B32 rs = A' % D := by
      have h1 := quo_unique (n := A') (q := valB B32 qs) (y := D) (r := valB B32 rs) (by omega) hltD
      exact h1
     have hAD : A' / D = a / b ∧ A' % D = a % b * 2 ^ s := by
      rw [HAV.out, HVL.out.2]
      exact ⟨Nat.mul_div_mul_right a b (Nat.pow_pos (by omega)), by rw [Nat.mul_mod_mul_right]⟩
     have HQU : Hid (valB B32 qs = a / b ∧ valB B32 rs = a % b * 2 ^ s) := ⟨by rw [hquo.1, hAD.1], by rw [hquo.2, hAD.2]⟩
     have HTK : Hid (valB B32 (rs.take (M + 1)) = a % b * 2 ^ s) := by
      show _ = _
      rw [← HQU.out.2]
      have h1 := valB_split B32 rs (M + 1) (by rw [HR.out.rowr.len]; omega)
      rcases Nat.eq_zero_or_pos (valB B32 (rs.drop (M + 1))) with e | e
      ·rw [e, Nat.mul_zero, Nat.add_zero] at h1; exact h1.symm
      ·exfalso
       have h2 : B32 ^ (M + 1) * 1 ≤ B32 ^ (M + 1) * valB B32 (rs.drop (M + 1)) := Nat.mul_le_mul_left _ e;have := HV0.out.2.2.1
       omega
     have AQ : Hid (At32 wr (some ⟨gq2, 0, none⟩) k k qs) := HR.out.rowq.at_ (Nat.le_refl _) (by unfold maxLen; omega)
     have AU0 : At32 wr (some ⟨gu2, 0, none⟩) (n + 1) Nc rs := by
      have h1 := HR.out.rowr;rw [← HNM.out] at h1
      exact h1.at_ hNc (by unfold maxLen; omega)
     have AU : Hid (At32 wr (some ⟨gu2, 0, none⟩) (M + 1) Nc (rs.take (M + 1))) := AU0.take (M + 1) (by have := HL.out; omega) Nc (by have := HL.out; omega) (by unfold maxLen; omega)
     have HBW : Hid (Below w.heap.size w wr) := Below.trans HB5.out (HR.out.bel w.heap.size HGQ.out.1 HGQ.out.2)
     have hMN : M + 1 ≤ n := by have := HL.out; omega
     have hMc : M + 1 ≤ Nc := by have := HL.out; omega
     clear hsum hltD hquo hAD AU0 hz hkg HR;go_wp2_with fail;obtain ⟨wq, hwq⟩ := exq wr.drew
     have hbd : Below wr.heap.size wr wq := by rw [hwq]; exact Below.drew (Below.refl _ _)
     have AQ2 : Hid (At32 wq (some ⟨gq2, 0, none⟩) k k qs) := AQ.out.below hbd;have AU2 : Hid (At32 wq (some ⟨gu2, 0, none⟩) (M + 1) Nc (rs.take (M + 1))) := AU.out.below hbd;have HBW2 : Hid (Below w.heap.size w wq) := Below.on HBW.out hbd;clear AQ AU HBW hbd;have AQ := AQ2;have AU := AU2;have HBW := HBW2;clear AQ2 AU2 HBW2
     refine wp_region_J (fun _ => True) (by kernel_rfl) ?_
     rw [← hwq];clear hwq
     refine wpJ_take (i := 0) (v := ?va0) rfl (by kernel_rfl) (by kernel_rfl) (by kernel_rfl) (fun _ _ _ h => h) (by kernel_rfl) ?hya0 trivial ?resta0
     case hya0 => (intro W' hJ; go_simp; first | done | with_reducible rfl)
     refine wpJ_take (i := 2) (v := ?va2) rfl (by kernel_rfl) (by kernel_rfl) (by kernel_rfl) (fun _ _ _ h => h) (by kernel_rfl) ?hya2 trivial ?resta2
     case hya2 => (intro W' hJ; go_simp; first | done | with_reducible rfl)
     refine wpJ_take (i := 3) (v := ?va3) rfl (by kernel_rfl) (by kernel_rfl) (by kernel_rfl) (fun _ _ _ h => h) (by kernel_rfl) ?hya3 trivial ?resta3
     case hya3 => (intro W' hJ; go_simp; first | done | with_reducible rfl)
     refine wpJ_take (i := 4) (v := ?va4) rfl (by kernel_rfl) (by kernel_rfl) (by kernel_rfl) (fun _ _ _ h => h) (by kernel_rfl) ?hya4 trivial ?resta4
     case hya4 => (intro W' hJ; go_simp; first | done | (rw [if_pos ⟨by omega, by omega⟩]) | with_reducible rfl)
     refine wpJ_take (i := 6) (v := ?va6) rfl (by kernel_rfl) (by kernel_rfl) (by kernel_rfl) (fun _ _ _ h => h) (by kernel_rfl) ?hya6 trivial ?resta6
     case hya6 => (intro W' hJ; go_simp; first | done | with_reducible rfl)
     refine wpJ_on 1 rfl fun KJ hK => ?_
     go_simp
     refine (rnorm_any AQ.out (by omega)).mono ?_
     rintro e w7 ⟨g7, rfl, hg7, hblk7, hb7⟩;have hd7 : Dig B32 (trimL qs) := Dig.trimL AQ.out.dig;have hl7 := trimL_length_le qs;rw [AQ.out.len] at hl7
     have A7 : Hid (At32 w7 (some ⟨g7, 0, none⟩) (trimL qs).length (trimL qs).length (trimL qs)) := hblk7.at_ hd7 rfl (by unfold maxLen; omega)
     have N7 : Hid (Nf B32 (trimL qs) (a / b) ∧ (trimL qs).length ≤ n) := ⟨by have h1 := Nf.trim AQ.out.dig; rw [HQU.out.1] at h1; exact h1, by have := HL.out; omega⟩
     have AU7 : Hid (At32 w7 (some ⟨gu2, 0, none⟩) (M + 1) Nc (rs.take (M + 1))) := AU.out.below hb7;have HB7 : Hid (Below w.heap.size w w7) := Below.on HBW.out hb7;generalize trimL qs = q7 at *
     refine hK _ _ trivial ?_
     clear hK hblk7 hb7 hg7 hd7 hl7 AQ AU HBW
     refine wpJ_on 5 rfl fun KJ hK => ?_
     go_simp
     refine (rnorm_any AU7.out (by omega)).mono ?_
     rintro e w8 ⟨g8, rfl, hg8, hblk8, hb8⟩;have hl8 := trimL_length_le (rs.take (M + 1));rw [AU7.out.len] at hl8
     have A8 : Hid (At32 w8 (some ⟨g8, 0, none⟩) (trimL (rs.take (M + 1))).length (trimL (rs.take (M + 1))).length (trimL (rs.take (M + 1)))) := hblk8.at_ (Dig.trimL AU7.out.dig) rfl (by unfold maxLen; omega)
     have N8 : Hid (Nf B32 (trimL (rs.take (M + 1))) (a % b * 2 ^ s) ∧ (trimL (rs.take (M + 1))).length ≤ M + 1) := ⟨by have h1 := Nf.trim AU7.out.dig; rw [HTK.out] at h1; exact h1, hl8⟩
     have A78 : Hid (At32 w8 (some ⟨g7, 0, none⟩) q7.length q7.length q7) := A7.out.below hb8;have HB8 : Hid (Below w.heap.size w w8) := Below.on HB7.out hb8;generalize trimL (rs.take (M + 1)) = u8 at *
     refine hK _ _ trivial ?_
     clear hK hblk8 hb8 hg8 hl8 A7 AU7 HB7
     refine wpJ_on 7 rfl fun KJ hK => ?_
     go_simp
     refine (rshr_all A8.out N8.out.1 (by have := N8.out.2; omega) s (by have := HS.out.2; omega)).mono ?_
     rintro e w9 ⟨p9, m9, z9, rfl, hA9, hN9, hl9, hb9⟩;have A9 := hdQ hA9
     have N9 : Hid (Nf B32 z9 (a % b) ∧ m9 ≤ n) := ⟨by rw [Nat.mul_div_cancel _ (Nat.pow_pos (by omega))] at hN9; exact hN9, by have := N8.out.2; omega⟩
     have A79 : Hid (At32 w9 (some ⟨g7, 0, none⟩) q7.length q7.length q7) := A78.out.below hb9;have HB9 : Hid (Below w.heap.size w w9) := Below.on HB8.out hb9
     refine hK _ _ trivial ?_
     clear hK hA9 hN9 hl9 hb9 A8 A78 HB8
     refine wpJ_take (i := 8) (v := ?va8) rfl (by kernel_rfl) (by kernel_rfl) (by kernel_rfl) (fun _ _ _ h => h) (by kernel_rfl) ?hya8 trivial ?resta8
     case hya8 => (intro W' hJ; go_simp; first | done | with_reducible rfl)
     refine wpJ_take (i := 9) (v := ?va9) rfl (by kernel_rfl) (by kernel_rfl) (by kernel_rfl) (fun _ _ _ h => h) (by kernel_rfl) ?hya9 trivial ?resta9
     case hya9 => (intro W' hJ; go_simp; first | done | with_reducible rfl)
     refine wpJ_done (by kernel_rfl) ?_ _
     go_wp2_with fail
     go_ret2
     exact ⟨_, _, q7, _, _, z9, rfl, A79.out, N7.out.1, A9.out, N9.out.1, N7.out.2, N9.out.2, HB9.out⟩
    | succ gg =>
     obtain rfl : z = (gg : Int) := by omega
     obtain ⟨wp, hwp⟩ := exq wr;subst hwp
     obtain ⟨a9, ws, ha9, hws, hrow, hwlt, hrs, hzz⟩ := HR.out.window (by omega) HV0.out.2.2.1
     obtain rfl : a9 = gg := by omega
     have HWIN : Hid (valB B32 rs = valB B32 (rs.take a9) + B32 ^ a9 * valB B32 ws ∧ valB B32 (rs.drop (a9 + (M + 1 + 1))) = 0 ∧ Row32 wp gu2 a9 (M + 1 + 1) ws ∧ valB B32 ws < B32 * D) := ⟨hrs, hzz, hrow, hwlt⟩
     have V6 : Hid (At32 wp (some ⟨gv, 0, none⟩) (M + 1) (M + 1) vs) := V5.out.cells_of (fun o => HR.out.cell gv o HG.out.2.1 HG.out.1)
     have hgL : a9 < L := by omega
     have hcq : wp.cell? ⟨gq2, a9, none⟩ = some (V (qs.getD a9 0)) := by have := HR.out.rowq.cell a9 hgL; rw [Nat.zero_add] at this; exact this
     have hfq : wp.frozen? ⟨gq2, a9, none⟩ = false := by have := HR.out.rowq.frozen a9 hgL; rw [Nat.zero_add] at this; exact this
     have hj1 : a9 + (M + 1) + 1 ≤ n + 1 := by have := HNM.out; omega
     have hj2 : a9 + (M + 1) + 1 ≤ Nc := by omega
     have HAK : Hid (a9 = L - 1 - k ∧ k < L) := ⟨by omega, by omega⟩
     clear hws hrow hwlt hrs hzz ha9 hz hkg;go_wp2_with fail
     rw [show a9 + (M + 1) + 1 - a9 = M + 1 + 1 by omega]
     refine (rdigit_any HWIN.out.2.2.1 (by omega) (by unfold maxLen; omega) V6.out HG.out.1 (by omega) (by omega) (by rw [HV0.out.2.1]; exact HWIN.out.2.2.2) HV0.out.1).mono ?_
     rintro e w6 ⟨ws', rfl, hwr6, hrow6, hval6⟩;rw [HV0.out.2.1] at hval6 ⊢;obtain ⟨q9, hq9⟩ := exq (valB B32 ws / D);rw [← hq9]
     have hq9b : q9 < B32 := by rw [hq9]; exact Nat.div_lt_of_lt_mul (by rw [Nat.mul_comm]; exact HWIN.out.2.2.2)
     have hcq6 : w6.cell? ⟨gq2, a9, none⟩ = some (V (qs.getD a9 0)) := (hwr6.cell gq2 a9 (.inl HG.out.2.2.1)).trans hcq;have hfq6 : w6.frozen? ⟨gq2, a9, none⟩ = false := (hwr6.frozen _).trans hfq;have HNX : Hid (DigRel32 w5 gq2 gu2 L (M + 1) A' D (k + 1) (qs.set a9 q9) (winPut rs ws' a9) (w6.setCell ⟨gq2, a9, none⟩ (V q9))) := HR.out.step HAK.out.2 HG.out.2.2.1 HAK.out.1 HWIN.out.1 HWIN.out.2.1 HV0.out.2.2.2 hq9 hq9b hval6 hwr6 hrow6;clear hcq hfq hq9 hq9b hwr6 hrow6 hval6;go_wp2_with fail
     go_roundg a9
     case measure => omega
     case rel => exact ⟨k + 1, _, qs.set a9 q9, winPut rs ws' a9, by have := HAK.out; omega, rfl, by omega, HNX⟩
theorem rdivmod04 {p q : Option Addr} {n m c d : Nat} {xs ys : List Nat} {a b : Nat} {w : World} (h : At32 w p n c xs) (k : At32 w q m d ys) (hx : Nf B32 xs a) (hy : Nf B32 ys b) (hn : n ≤ 16384) (hm : m ≤ 40000) (hb : b ≠ 0) :
  Calls Tryz.prog 158 #[.slice p n c, .slice q m d] w fun e w' => ∃ p1 m1 z1 p2 m2 z2, e = .returned (.tuple #[.slice p1 m1 m1, .slice p2 m2 m2]) ∧ At32 w' p1 m1 m1 z1 ∧ Nf B32 z1 (a / b) ∧ At32 w' p2 m2 m2 z2 ∧ Nf B32 z2 (a % b) ∧ m1 ≤ n ∧ m2 ≤ n ∧ Below w.heap.size w w' := by
 rcases Nat.lt_or_ge a b with hlt | hge
 ·exact rdivmod_lt h k hx hy hn hm hb hlt
 ·have hmn : m ≤ n := by
   have h1 := (hx.len_le B32_one (k := n)).1 (by rw [h.len]; exact Nat.le_refl _)
   have h2 := (hy.len_le B32_one (k := n)).2 (Nat.lt_of_le_of_lt hge h1);rw [k.len] at h2
   exact h2
  by_cases h1 : m = 1
  ·exact rdivmod_one h k hx hy hn (by omega) hb hge h1
  ·have hm0 : m ≠ 0 := fun e => hb ((hy.zero_iff B32_one).1 (List.eq_nil_of_length_eq_zero (by rw [k.len]; exact e)))
   exact rdivmod_big h k hx hy hn (by omega) hb hge (by omega)
theorem rof04 (z : Int) (w : World) (h0 : -9223372036854775808 ≤ z) (h1 : z ≤ 9223372036854775807) :
  Calls Tryz.prog 26 #[.int .i64 z] w fun e w' => ∃ s g m, e = .returned (.agg #[.bool s, .slice (some ⟨g, 0, none⟩) m m]) ∧ ZR w' s (some ⟨g, 0, none⟩) m z ∧ m ≤ 3 ∧ Below w.heap.size w w' :=
 (rof_any z w h0 h1).mono fun _ _ ⟨g, m, zs, he, hA, hN, hl, hb⟩ => ⟨_, g, m, he, ⟨⟨zs, hA, hN⟩, rfl⟩, hl, hb⟩
theorem rshl_nil {p : Option Addr} {c : Nat} {w : World} (hc : c ≤ maxLen) (k : Int) :
  Calls Tryz.prog 105 #[.slice p 0 c, .int .i64 k] w fun e w' => ∃ g, e = .returned (.slice (some ⟨g, 0, none⟩) 0 0) ∧ At32 w' (some ⟨g, 0, none⟩) 0 0 [] ∧ Below w.heap.size w w' := by
 have HC : Hid (c ≤ maxLen) := hc;clear hc
 by_cases h0 : k ≤ 0
 ·have h1 : ¬ 0 < k := by omega
  go_enter Tryz.func105, Tryz.ntmps105
  go_wp2_with fail
  refine (rnorm_any (At32.empty w p c HC.out) (by omega)).mono ?_
  rintro e w1 ⟨g, rfl, hg, hblk, hb⟩;go_wp2_with fail
  go_ret
  exact ⟨g, rfl, At32.empty _ _ _ (by decide), hb⟩
 ·have h1 : 0 < k := by omega
  go_enter Tryz.func105, Tryz.ntmps105
  go_wp2_with fail
  refine (rnorm_any (At32.empty w p c HC.out) (by omega)).mono ?_
  rintro e w1 ⟨g, rfl, hg, hblk, hb⟩;go_wp2_with fail
  go_ret
  exact ⟨g, rfl, At32.empty _ _ _ (by decide), hb⟩
theorem rshl_all {p : Option Addr} {n : Nat} {xs : List Nat} {a : Nat} {w : World} (h : At32 w p n n xs) (hx : Nf B32 xs a) (hn : n ≤ 16384) (k : Nat) (hk : k ≤ 524288 ∨ a = 0) :
  Calls Tryz.prog 105 #[.slice p n n, .int .i64 k] w fun e w' => ∃ p' m' zs, e = .returned (.slice p' m' m') ∧ At32 w' p' m' m' zs ∧ Nf B32 zs (a * 2 ^ k) ∧ m' ≤ 40000 ∧ Below w.heap.size w w' := by
 rcases Nat.eq_zero_or_pos n with h0 | h0
 ·subst h0
  have ha : a = 0 := (hx.zero_iff B32_one).1 (List.eq_nil_of_length_eq_zero h.len)
  refine (rshl_nil (by unfold maxLen; omega) (k : Int)).mono ?_
  rintro e w' ⟨g, he, hA, hb⟩
  exact ⟨_, 0, [], he, hA, by rw [ha, Nat.zero_mul]; exact Nf.nil _, by omega, hb⟩
 ·refine rshl_any h hx h0 hn k (hk.resolve_right fun e => ?_)
  have := (hx.zero_iff B32_one).2 e;rw [this] at h;have := h.len
  simp at this
  omega
theorem iv_mul_nat (s : Bool) (a k : Nat) : iv s (a * k) = iv s a * (k : Int) := by cases s <;> simp [iv, Int.neg_mul]
theorem rshl04 {p : Option Addr} {m : Nat} {w : World} {x : Int} (s : Bool) (h : ZR w s p m x) (hm : m ≤ 16384) (k : Nat) (hk : k ≤ 524288 ∨ x = 0) :
  Calls Tryz.prog 62 #[.agg #[.bool s, .slice p m m], .int .i64 k] w fun e w' => ∃ v, e = .returned v ∧ GotR w.heap.size w' v (x * 2 ^ k) (40000) ∧ Below w.heap.size w w' := by
 have HA := hdQ h;have HM : Hid (m ≤ 16384 ∧ (k ≤ 524288 ∨ x = 0)) := ⟨hm, hk⟩
 have HZV : Hid (iv s (x.natAbs * 2 ^ k) = x * 2 ^ k) := by show _ = _; rw [iv_mul_nat, h.iv]; rfl
 obtain ⟨xs, hAx, hNx⟩ := h.ex;have HNX := hdQ hNx;have AX := hdQ hAx;clear h hm hk hAx hNx
 go_enter Tryz.func62, Tryz.ntmps62
 go_wp2_with fail;obtain ⟨W0, hW0⟩ := exq ((w.alloc (.cells #[.bool s, .slice p m m] 56)).alloc (.cells #[.bool false, .slice none 0 0] 56))
 have Xa : Hid (Box W0 (w.heap.size) (.bool s) (.slice p m m)) := by rw [hW0]; constructor <;> go_simp
 have Xr : Hid (Box W0 (w.heap.size + 1) (.bool false) (.slice none 0 0)) := by rw [hW0]; constructor <;> go_simp
 have hb0 := bq2 hW0;rw [← hW0];clear hW0;have hbw := brf w;obtain ⟨gr, hgr⟩ := exq (w.heap.size + 1);have HGr : Hid (w.heap.size ≤ gr) := hgl hgr;rw [← hgr] at Xr
 try rw [← hgr]
 obtain ⟨ga, hga⟩ := exq w.heap.size;have HGa : Hid (w.heap.size ≤ ga) := hgl hga;rw [← hga] at Xa
 try rw [← hga]
 have HGD : Hid (ga ≠ gr ∧ gr ≠ ga) := by rw [hga, hgr]; show _ ∧ _; omega
 clear hga hgr;replace AX := At32.b AX hb0;replace hbw := bon hbw hb0;clear hb0;obtain ⟨W1, hW1⟩ := exq W0.drew
 have hbd : Below W0.heap.size W0 W1 := by rw [hW1]; exact bDrew1 (Below.refl _ _)
 replace Xa := Box.b Xa hbd;replace Xr := Box.b Xr hbd;replace AX := At32.b AX hbd;replace hbw := bon hbw hbd;clear hbd
 have HJ : Hid ((fun W' : World => W'.cell? ⟨ga, 0, none⟩ = some (.bool s) ∧ W'.cell? ⟨ga, 1, none⟩ = some (.slice p m m)) W1) := ⟨Xa.out.c0, Xa.out.c1⟩
 refine wp_region_J (fun W' => W'.cell? ⟨ga, 0, none⟩ = some (.bool s) ∧ W'.cell? ⟨ga, 1, none⟩ = some (.slice p m m)) (by kernel_rfl) ?_
 rw [← hW1];clear hW1
 refine wpJ_tq 0 rfl HJ.out ?_
 refine wpJ_tq 1 rfl HJ.out ?_
 refine wpJ_tq 2 rfl HJ.out ?_
 refine wpJ_tq 3 rfl HJ.out ?_
 refine wpJ_tq 4 rfl HJ.out ?_
 refine wpJ_on 5 rfl fun KJ hK => ?_
 go_simp
 refine (rshl_all AX.out HNX.out HM.out.1 k (by have := HM.out.2; omega)).mono ?_
 rintro e v2 ⟨p2, m2, z2, rfl, hA2, hN2, hl2, hb2⟩;replace Xa := Box.b Xa hb2;replace Xr := Box.b Xr hb2;replace AX := At32.b AX hb2;replace hbw := bon hbw hb2;clear hb2;have A2 := hdQ hA2;have N2 : Hid (Nf B32 z2 (x.natAbs * 2 ^ k) ∧ m2 ≤ 40000) := ⟨hN2, hl2⟩;clear hA2 hN2 hl2
 refine hK _ _ ⟨Xa.out.c0, Xa.out.c1⟩ ?_
 clear hK;have HRB : Hid (gr < v2.heap.size ∧ w.heap.size ≤ v2.heap.size) := ⟨Xr.out.lt, hbw.size⟩
 refine wpJ_on 6 rfl fun KJ hK => ?_
 go_simp
 refine (rmk_any s A2.out N2.out.1 (by have := N2.out.2; omega)).mono ?_
 rintro e v3 ⟨v, rfl, hv, hb3⟩;rw [HZV.out] at hv;obtain ⟨s9, g9, m9, rfl, hg9, hz9, hl9⟩ := hv;have HN9 : Hid (v2.heap.size ≤ g9) := hg9;replace Xa := Box.b Xa hb3;replace Xr := Box.b Xr hb3;replace AX := At32.b AX hb3;replace A2 := At32.b A2 hb3;replace hbw := bon hbw hb3;clear hb3;have Z9 := hdQ hz9;have HL9 : Hid (m9 ≤ 40000) := Nat.le_trans hl9 N2.out.2;clear hg9 hz9 hl9
 refine hK _ _ ⟨Xa.out.c0, Xa.out.c1⟩ ?_
 clear hK;obtain ⟨cr0, cr1, fr0, fr1⟩ := Xr.out;have hner := Xr.out.lt;obtain ⟨ca0, ca1, fa0, fa1⟩ := Xa.out;have hnea := Xa.out.lt;obtain ⟨hgd0, hgd1⟩ := HGD.out
 refine wpJ_on 7 rfl fun KJ hK => ?_
 go_simp
 have HJ2 : Hid ((fun W' : World => W'.cell? ⟨ga, 0, none⟩ = some (.bool s) ∧ W'.cell? ⟨ga, 1, none⟩ = some (.slice p m m)) ((v3.setCell ⟨gr, 0, none⟩ (.bool s9)).setCell ⟨gr, 1, none⟩ (.slice (some ⟨g9, 0, none⟩) m9 m9))) := ⟨by go_simp, by go_simp⟩
 refine hK _ _ HJ2.out ?_
 clear hK HJ;have HJ := HJ2;clear HJ2
 refine wpJ_done (by kernel_rfl) ?_ _
 clear HJ;go_wp2_with fail
 refine bodyPost_ret (v := .agg #[.bool s9, .slice (some ⟨g9, 0, none⟩) m9 m9]) (by rw [results_cell1 rfl]; go_simp) rfl ⟨_, rfl, ⟨s9, g9, m9, rfl, Nat.le_trans HRB.out.2 HN9.out, ?_, HL9.out⟩, ?_⟩
 ·have := HN9.out; have := HRB.out.1
  exact (Z9.out.set _ _ _ (by omega)).set _ _ _ (by omega)
 ·exact bSet (bSet hbw _ _ _ HGr.out) _ _ _ HGr.out
structure B6q (W : World) (g : Nat) (v0 v1 v2 v3 v4 v5 : Value) : Prop where
 c0 : W.cell? ⟨g, 0, none⟩ = some v0
 c1 : W.cell? ⟨g, 1, none⟩ = some v1
 c2 : W.cell? ⟨g, 2, none⟩ = some v2
 c3 : W.cell? ⟨g, 3, none⟩ = some v3
 c4 : W.cell? ⟨g, 4, none⟩ = some v4
 c5 : W.cell? ⟨g, 5, none⟩ = some v5
 f0 : W.frozen? ⟨g, 0, none⟩ = false
 f1 : W.frozen? ⟨g, 1, none⟩ = false
 f2 : W.frozen? ⟨g, 2, none⟩ = false
 f3 : W.frozen? ⟨g, 3, none⟩ = false
 f4 : W.frozen? ⟨g, 4, none⟩ = false
 f5 : W.frozen? ⟨g, 5, none⟩ = false
theorem B6q.below {W W' : World} {g : Nat} {v0 v1 v2 v3 v4 v5 : Value} (h : B6q W g v0 v1 v2 v3 v4 v5) (hb : Below W.heap.size W W') : B6q W' g v0 v1 v2 v3 v4 v5 := by
  have hl : g < W.heap.size := World.block_lt_of_cell? W _ h.c0
  exact ⟨(hb.cell (p := ⟨g, 0, none⟩) hl).trans h.c0, (hb.cell (p := ⟨g, 1, none⟩) hl).trans h.c1, (hb.cell (p := ⟨g, 2, none⟩) hl).trans h.c2, (hb.cell (p := ⟨g, 3, none⟩) hl).trans h.c3, (hb.cell (p := ⟨g, 4, none⟩) hl).trans h.c4, (hb.cell (p := ⟨g, 5, none⟩) hl).trans h.c5, (hb.frozen (p := ⟨g, 0, none⟩) hl).trans h.f0, (hb.frozen (p := ⟨g, 1, none⟩) hl).trans h.f1, (hb.frozen (p := ⟨g, 2, none⟩) hl).trans h.f2, (hb.frozen (p := ⟨g, 3, none⟩) hl).trans h.f3, (hb.frozen (p := ⟨g, 4, none⟩) hl).trans h.f4, (hb.frozen (p := ⟨g, 5, none⟩) hl).trans h.f5⟩
theorem B6q.b {W W' : World} {g : Nat} {v0 v1 v2 v3 v4 v5 : Value} (h : Hid (B6q W g v0 v1 v2 v3 v4 v5)) (hb : Below W.heap.size W W') : Hid (B6q W' g v0 v1 v2 v3 v4 v5) := B6q.below h hb
theorem B6q.new (w : World) (ty : TypeId) (v0 v1 v2 v3 v4 v5 : Value) : B6q (w.alloc (.cells #[v0, v1, v2, v3, v4, v5] ty)) w.heap.size v0 v1 v2 v3 v4 v5 := ⟨by go_simp, by go_simp, by go_simp, by go_simp, by go_simp, by go_simp, by go_simp, by go_simp, by go_simp, by go_simp, by go_simp, by go_simp⟩
theorem B6q.lt {w : World} {g : Nat} {a b c d e f : Value} (h : B6q w g a b c d e f) : g < w.heap.size := World.block_lt_of_cell? w _ h.c0
def Off (p : Option Addr) (m g : Nat) : Prop := m = 0 ∨ ∃ g' off, p = some ⟨g', off, none⟩ ∧ g' ≠ g
theorem At.off_new {w : World} {p : Option Addr} {m c : Nat} {us : List Nat} (h : At w p m c us) : Off p m w.heap.size := by
  rcases Nat.eq_zero_or_pos m with e | e
  · exact .inl e
  · rcases h.cells with h0 | ⟨g, off, rfl, hc⟩
    · exact .inl h0
    · have := World.block_lt_of_cell? w _ (hc 0 e)
      exact .inr ⟨g, off, rfl, Nat.ne_of_lt this⟩
theorem NewAt.off {B : Nat} {w : World} {p : Option Addr} {m c : Nat} {us : List Nat} (h : NewAt B w p m c us) {g : Nat} (hg : g < B) : Off p m g :=
 h.2.imp id fun ⟨g', e, k⟩ => ⟨g', 0, e, by omega⟩
theorem At.setOff {w : World} {p : Option Addr} {m c : Nat} {us : List Nat} (h : At w p m c us) {g : Nat} (hf : Off p m g) (o : Nat) (v : Value) : At (w.setCell ⟨g, o, none⟩ v) p m c us := by
  rcases hf with h0 | ⟨g', off, rfl, hg⟩
  · subst h0
    obtain rfl : us = [] := List.eq_nil_of_length_eq_zero h.len
    exact At.empty _ _ _ h.big
  · exact h.setOther _ _ _ hg
def rFs (x : Int) (k : Nat) : Int := fl (decide (x < 0)) x.natAbs (2 ^ k)
def rCs (x : Int) (k : Nat) : Int := ce (decide (x < 0)) x.natAbs (2 ^ k)
def rFd (x y : Int) : Int := fl (decide (x < 0) != decide (y < 0)) x.natAbs y.natAbs
def rCd (x y : Int) : Int := ce (decide (x < 0) != decide (y < 0)) x.natAbs y.natAbs
def rMo (x y : Int) : Int := mo (decide (x < 0)) (decide (y < 0)) x.natAbs y.natAbs
def ShiftZ (r : Int → Nat → Int) (sx : Bool) (xs : List Nat) (n : Int) (s : Bool) (us : List Nat) (er : Int) : Prop :=
 (n < 0 ∧ s = false ∧ us = [] ∧ er = 1) ∨ (0 ≤ n ∧ formZ sx xs = false ∧ s = false ∧ us = [] ∧ er = 2) ∨ (0 ≤ n ∧ formZ sx xs = true ∧ DocZ (r (iv sx (valB B64 xs)) n.toNat) s us er)
theorem ShiftZ.inj {r : Int → Nat → Int} {sx : Bool} {xs : List Nat} {n : Int} {s s' : Bool} {us us' : List Nat} {er er' : Int} (h : ShiftZ r sx xs n s us er) (k : ShiftZ r sx xs n s' us' er') : s = s' ∧ us = us' ∧ er = er' := by
  rcases h with ⟨h0, rfl, rfl, rfl⟩ | ⟨h0, h1, rfl, rfl, rfl⟩ | ⟨h0, h1, h2⟩ <;> rcases k with ⟨k0, rfl, rfl, rfl⟩ | ⟨k0, k1, rfl, rfl, rfl⟩ | ⟨k0, k1, k2⟩
  · exact ⟨rfl, rfl, rfl⟩
  · omega
  · omega
  · omega
  · exact ⟨rfl, rfl, rfl⟩
  · rw [h1] at k1; cases k1
  · omega
  · rw [h1] at k1; cases k1
  · exact h2.inj k2
def DivZ (r : Int → Int → Int) (sx : Bool) (xs : List Nat) (sy : Bool) (ys : List Nat) (s : Bool) (us : List Nat) (er : Int) : Prop :=
 ((formZ sx xs && formZ sy ys) = false ∧ s = false ∧ us = [] ∧ er = 2) ∨ ((formZ sx xs && formZ sy ys) = true ∧ iv sy (valB B64 ys) = 0 ∧ s = false ∧ us = [] ∧ er = 4) ∨ ((formZ sx xs && formZ sy ys) = true ∧ iv sy (valB B64 ys) ≠ 0 ∧ DocZ (r (iv sx (valB B64 xs)) (iv sy (valB B64 ys))) s us er)
theorem DivZ.inj {r : Int → Int → Int} {sx sy : Bool} {xs ys : List Nat} {s s' : Bool} {us us' : List Nat} {er er' : Int} (h : DivZ r sx xs sy ys s us er) (k : DivZ r sx xs sy ys s' us' er') : s = s' ∧ us = us' ∧ er = er' := by
  rcases h with ⟨h0, rfl, rfl, rfl⟩ | ⟨h0, h1, rfl, rfl, rfl⟩ | ⟨h0, h1, h2⟩ <;> rcases k with ⟨k0, rfl, rfl, rfl⟩ | ⟨k0, k1, rfl, rfl, rfl⟩ | ⟨k0, k1, k2⟩
  · exact ⟨rfl, rfl, rfl⟩
  · rw [h0] at k0; cases k0
  · rw [h0] at k0; cases k0
  · rw [h0] at k0; cases k0
  · exact ⟨rfl, rfl, rfl⟩
  · exact absurd h1 k1
  · rw [h0] at k0; cases k0
  · exact absurd k1 h1
  · exact h2.inj k2
end Go.Proofs.YtmlclpjimkjjeaaGreatDoor
