import Derived.Test.YtpnpdngfjgdgfabJ8
import Derived.Laws.Cover1
import Derived.Deep.RegionWith
import Derived.Deep.RegionLaw
import Derived.Deep.LoopGhost
import Derived.Test.YtpnpdngfjgdgfabJ7
import Derived.Laws.ResultCell
import Derived.Deep.DeepCutAuto
namespace Go.Proofs.Ytpnpdngfjgdgfab
open Go.RowKit Go.Shelf
set_option maxRecDepth 20000
set_option maxHeartbeats 0
structure WinRel32 (w : World) (g off n : Nat) (W D d b : Nat) (ws : List Nat) (wr : World) : Prop where
  wrs : Wr g off (n + 1) w wr
  row : Row32 wr g off (n + 1) ws
  db : d < B32
  bb : b ≤ 1
  ge : W / D ≤ d
  sum : valB B32 ws + D * d = W + B32 ^ (n + 1) * b
theorem WinRel32.done {w : World} {g off n W D d : Nat} {ws : List Nat} {wr : World} (h : WinRel32 w g off n W D d 0 ws wr) (hD : 0 < D) : d = W / D ∧ valB B32 ws = W % D := by
  have h1 := h.sum; have h2 := h.ge
  rw [Nat.mul_zero, Nat.add_zero] at h1
  have h3 : d ≤ W / D := (Nat.le_div_iff_mul_le hD).2 (by rw [Nat.mul_comm]; omega)
  have h4 : d = W / D := by omega
  refine ⟨h4, ?_⟩
  have h5 := Nat.div_add_mod W D
  rw [← h4] at h5
  omega
theorem Blk32.own {w : World} {g base : Nat} {xs : List Nat} (h : Blk32 w g xs) (hb : base ≤ g) (hm : xs.length ≤ maxLen) : w.ownsRow base 73 1 (.slice (some ⟨g, 0, none⟩) xs.length xs.length) xs.length (cellsV xs) :=
  ⟨by simp [cellsV], .inr ⟨g, xs.length, (cellsV xs).toArray, rfl, hb, h, Nat.le_refl _, hm, by simp [cellsV], by rw [Nat.mul_one]; exact List.take_of_length_le (by simp [cellsV])⟩⟩
structure RSmR (w : World) (g N : Nat) (xs : List Nat) (v c i cy : Nat) (ss : List Nat) (wr : World) : Prop where
  bel : Below g w wr
  own : wr.ownsRow g 73 1 (.slice (some ⟨g, 0, none⟩) i N) i (cellsV ss)
  len : ss.length = i
  dig : Dig B32 ss
  car : cy < B32
  sum : valB B32 ss + B32 ^ i * cy = valB B32 (xs.take i) * v + c
theorem rsm_step {xs ss : List Nat} {i cy x v c lo hh : Nat} (h : valB B32 ss + B32 ^ i * cy = valB B32 (xs.take i) * v + c) (hl : ss.length = i) (ex : x = xs.getD i 0) (hs : cy + x * v = lo + B32 * hh) :
    valB B32 (ss ++ [lo]) + B32 ^ (i + 1) * hh = valB B32 (xs.take (i + 1)) * v + c := by
  rw [valB_snoc, hl, valB_take_any _ xs i, ← ex, Nat.pow_succ, Nat.add_mul]
  have e1 : B32 ^ i * (cy + x * v) = B32 ^ i * (lo + B32 * hh) := by rw [hs]
  rw [Nat.mul_add, Nat.mul_add, ← Nat.mul_assoc, ← Nat.mul_assoc] at e1
  omega
theorem own_at32 {wr : World} {g i N : Nat} {ss : List Nat} (ho : wr.ownsRow g 73 1 (.slice (some ⟨g, 0, none⟩) i N) i (cellsV ss)) (hl : ss.length = i) (hd : Dig B32 ss) : At32 wr (some ⟨g, 0, none⟩) i N ss := by
  rcases ho.2 with ⟨h', _⟩ | ⟨g', cap', cur, h', hbase, hgc, hcap', hmx, hsz, htake⟩
  · simp at h'
  · simp only [Value.slice.injEq, Option.some.injEq, Addr.mk.injEq, and_true, true_and] at h'
    obtain ⟨rfl, rfl⟩ := h'
    refine ⟨hl, hcap', hmx, hd, .inr ⟨g, 0, rfl, fun jj hj => ?_⟩⟩
    rw [Nat.zero_add, cell_of_row wr g jj _ _ _ hgc]
    have e1 := cellsV_get ss jj (by rw [hl]; exact hj)
    rw [← htake, Nat.mul_one, List.getElem?_take, if_pos hj] at e1
    rw [← Array.getElem?_toList]; exact e1

theorem rsmall_any {p : Option Addr} {n c : Nat} {xs : List Nat} {a v u : Nat} {w : World} (h : At32 w p n c xs) (hx : Nf B32 xs a) (hn : n ≤ 4398046511104) (hv : v < B32) (hu : u < B32) :
    Calls Try.prog 56 #[.slice p n c, V v, V u] w fun e w' => ∃ g zs, e = .returned (.slice (some ⟨g, 0, none⟩) zs.length zs.length) ∧ Blk32 w' g zs ∧ Nf B32 zs (a * v + u) ∧ zs.length ≤ n + 1 ∧ Below w.heap.size w w' := by
  obtain ⟨i0, hi, hz0, hz1, hz2⟩ := info_parts Try.infoU32
  have HX : Hid (Nf B32 xs a) := hx
  have HLX : Hid (xs.length = n) := h.len
  have hcap := h.cap; have hbig := h.big
  unfold maxLen at hbig
  have huw : IntKind.u64.wrap (u : Int) = (u : Int) := wrap_mod _ _ (by rw [B32_eq] at hu; omega)
  clear hx
  go_enter Try.func56, Try.ntmps56
  go_wp2_with (at_make; refine wpList_make_own _ rfl _ _ 33 rfl w.heap.size 73 i0 (.int .u32 0) 1 Try.underlying33 hi hz0 hz1 _ _ _ (n + 1) rfl rfl (by omega) (by rw [hz2]; omega) (by unfold maxLen; omega) (Nat.le_refl _) ?_; intro w1 hown hgrow)
  have hb1 : Below w.heap.size w w1 := (Below.refl _ _).grown hgrow (Nat.le_refl _) (fun k hk => by simp at hk)
  have HO : Hid (RSmR w w.heap.size (n + 1) xs v u 0 u [] w1) := ⟨hb1, hown, rfl, Dig.nil _, hu, by simp [valB]⟩
  clear hown hgrow hb1
  obtain ⟨N, hN⟩ : ∃ N, N = n + 1 := ⟨_, rfl⟩
  rw [← hN] at HO ⊢
  have HN : Hid (N = n + 1) := hN
  clear hN
  go_loopg [7, 8, 9] n (fun gk sv cv iv wr => ∃ (i cy : Nat) (ss : List Nat), i + gk = n ∧ iv = .int .i64 i ∧ cv = U cy ∧ sv = .slice (some ⟨w.heap.size, 0, none⟩) i N ∧ Hid (RSmR w w.heap.size N xs v u i cy ss wr))
  case atStart => exact ⟨0, u, [], by omega, rfl, rfl, rfl, HO⟩
  case round =>
    obtain ⟨i, cy, ss, hig, rfl, rfl, rfl, HR⟩ := hrel
    have hcyb := HR.out.car
    cases gk with
    | zero =>
      obtain rfl : i = n := by omega
      have hni : ¬ i < i := by omega
      have hw32 : IntKind.u32.wrap (cy : Int) = (cy : Int) := wrap32 cy hcyb
      have HOA : Hid ((wr.alloc (.cells #[V cy] 73)).ownsRow w.heap.size 73 1 (.slice (some ⟨w.heap.size, 0, none⟩) i N) i (cellsV ss)) := HR.out.own.alloc _
      have hsp : i + 1 ≤ N := by have := HN.out; omega
      go_wp2_with (at_builtin; refine wpList_append_fits _ rfl (.tmp 40) (.tmp 43) 33 rfl w.heap.size 73 i0 1 Try.underlying33 hi hz1 w.heap.size i N (cellsV ss) rfl HOA.out ⟨wr.heap.size, 0, none⟩ 1 1 [V cy] rfl rfl (one_cell wr cy) (by intro u hu; simp at hu; subst hu; rfl) hsp ?_; intro w3 hw3 hgr3)
      have hR := HR.out
      have hbx : Below w.heap.size w w3 := (hR.bel.alloc hR.bel.size _).grown hgr3 (by have := hR.bel.size; simp; omega) (fun q hq => by simp at hq; omega)
      have e0 : cellsV (ss ++ [cy]) = cellsV ss ++ [V cy] := by unfold cellsV; rw [List.map_append]; rfl
      rw [← e0] at hw3
      have hl3 : (ss ++ [cy]).length = i + 1 := by simp [hR.len]
      have hd3 : Dig B32 (ss ++ [cy]) := hR.dig.append (Dig.cons hcyb (Dig.nil _))
      have A32 := own_at32 hw3 hl3 hd3
      have HNF : Hid (Nf B32 (trimL (ss ++ [cy])) (a * v + u)) := by
        have h1 := Nf.trim hd3
        have h2 := hR.sum
        rw [List.take_of_length_le (by rw [HLX.out]; omega), HX.out.val] at h2
        rw [valB_snoc, hR.len, h2] at h1; exact h1
      have hle := trimL_length_le (ss ++ [cy])
      have HLE : Hid ((trimL (ss ++ [cy])).length ≤ i + 1) := by show _ ≤ _; omega
      clear hw3 hgr3 e0 hl3 hd3 hle hR
      refine (rnorm_any A32 (by omega)).mono ?_
      rintro e w5 ⟨g5, rfl, hg5, hblk5, hb5⟩
      generalize trimL (ss ++ [cy]) = zs at *
      go_wp2_with fail
      go_ret
      exact ⟨g5, zs, rfl, hblk5, HNF.out, HLE.out, Below.on hbx hb5⟩
    | succ gg =>
      obtain ⟨g, off, rfl, hc⟩ := h.cells.resolve_left (by omega)
      obtain ⟨x, hxx⟩ : ∃ x, x = xs.getD i 0 := ⟨_, rfl⟩
      have hin : i < n := by omega
      have hcx0 : w.cell? ⟨g, off + i, none⟩ = some (V x) := by rw [hxx]; exact hc i hin
      have hcx : wr.cell? ⟨g, off + i, none⟩ = some (V x) := (HR.out.bel.cell (p := ⟨g, off + i, none⟩) (World.block_lt_of_cell? w _ hcx0)).trans hcx0
      have hxb : x < B32 := by rw [hxx]; exact HX.out.dig.getD B32_pos i
      have hxw : IntKind.u64.wrap (x : Int) = (x : Int) := wrap_mod _ _ (by rw [B32_eq] at hxb; omega)
      have hvw : IntKind.u64.wrap (v : Int) = (v : Int) := wrap_mod _ _ (by rw [B32_eq] at hv; omega)
      have HXE : Hid (x = xs.getD i 0) := hxx
      have hall := rmul_digit hxb hv B32_pos hcyb
      obtain ⟨xy, exy⟩ : ∃ xy, xy = x * v := ⟨_, rfl⟩
      rw [← exy] at hall
      rw [B64_eq] at hall
      have f1 : IntKind.u64.wrap ((x : Int) * (v : Int)) = (xy : Int) := by
        have e : ((x : Int) * (v : Int)) = ((x * v : Nat) : Int) := by simp
        rw [e, ← exy]; exact wrap_mod _ _ (by omega)
      obtain ⟨s2, es2⟩ : ∃ s2, s2 = cy + xy := ⟨_, rfl⟩
      have f3 : IntKind.u64.wrap ((cy : Int) + (xy : Int)) = (s2 : Int) := wrap_mod _ _ (by omega)
      have hs2 : s2 < 18446744073709551616 := by omega
      obtain ⟨lo, elo⟩ : ∃ lo, lo = s2 % B32 := ⟨_, rfl⟩
      obtain ⟨hh, ehh⟩ : ∃ hh, hh = s2 / B32 := ⟨_, rfl⟩
      have hlob : lo < B32 := by rw [elo]; exact Nat.mod_lt _ B32_pos
      have hhhb : hh < B32 := by rw [ehh]; exact Nat.div_lt_of_lt_mul (by rw [B32_two, B64_eq]; exact hs2)
      have f4 : bits .and .u64 (s2 : Int) 4294967295 = (lo : Int) := by rw [elo, B32_eq]; exact and32 s2 hs2
      have f5 : (s2 : Int) / 4294967296 = (hh : Int) := by rw [ehh, B32_eq]; exact div32 s2
      have f6 : IntKind.u32.wrap (lo : Int) = (lo : Int) := wrap32 lo hlob
      have HSUM : Hid (cy + x * v = lo + B32 * hh) := by
        have := Nat.mod_add_div s2 B32
        rw [← elo, ← ehh] at this
        show _ = _; omega
      have HOA : Hid ((wr.alloc (.cells #[V lo] 73)).ownsRow w.heap.size 73 1 (.slice (some ⟨w.heap.size, 0, none⟩) i N) i (cellsV ss)) := HR.out.own.alloc _
      have hsp : i + 1 ≤ N := by have := HN.out; omega
      clear hall exy es2 elo ehh hxx hcx0 hc
      go_wp2_with (at_builtin; refine wpList_append_fits _ rfl (.tmp 32) (.tmp 36) 33 rfl w.heap.size 73 i0 1 Try.underlying33 hi hz1 w.heap.size i N (cellsV ss) rfl HOA.out ⟨wr.heap.size, 0, none⟩ 1 1 [V lo] rfl rfl (one_cell wr lo) (by intro u hu; simp at hu; subst hu; rfl) hsp ?_; intro w3 hw3 hgr3)
      have HR3 : Hid (RSmR w w.heap.size N xs v u (i + 1) hh (ss ++ [lo]) w3) := by
        have hR := HR.out
        refine ⟨(hR.bel.alloc hR.bel.size _).grown hgr3 (by have := hR.bel.size; simp; omega) (fun q hq => by simp at hq; omega), ?_, by simp [hR.len], hR.dig.append (Dig.cons hlob (Dig.nil _)), hhhb, rsm_step hR.sum hR.len HXE.out HSUM.out⟩
        have e0 : cellsV (ss ++ [lo]) = cellsV ss ++ [V lo] := by unfold cellsV; rw [List.map_append]; rfl
        rw [e0]; exact hw3
      clear hw3 hgr3
      go_roundg gg
      case measure => omega
      case rel => exact ⟨i + 1, hh, ss ++ [lo], by omega, by go_num, rfl, rfl, HR3⟩
theorem wpList_make_room {P : Program} (w : World) {ops : Array Oper} {rest : List Oper} {o : Oper} {a : Act} {Q : Exit → Act → World → Prop}
    (hg : o.guard = none) (l c : Operand) (t : TypeId) (hop : o.op = Op.makeSlice t l c)
    (base : Nat) (e : TypeId) (i : TypeInfo) (z : Value) (size : Nat) (h1 : P.underlying t = some (.slice e)) (h2 : P.info? e = some i) (h3 : i.zero = some z) (h4 : i.size = size)
    (kl kc : IntKind) (L C : Int) (n m : Nat) (hl : a.eval l = .int kl L) (hc : a.eval c = .int kc C) (hL : L = (n : Int)) (hC : C = (m : Int)) (hnm : n ≤ m) (b2 : i.bytes * m ≤ 281474976710656) (b3 : m ≤ maxLen) (b4 : base ≤ w.heap.size)
    (hK : ∀ w', w'.ownsRow base e size (.slice (some ⟨w.heap.size, 0, none⟩) n m) n ((madeCells z.cells (m * size)).toList.take (n * size)) → w.grownBy w' none → wpList P ops Q rest (a.put o.dst (.slice (some ⟨w.heap.size, 0, none⟩) n m)) w') :
    wpList P ops Q (o :: rest) a w := by
  refine wpList_plain hg fun K hK' => ?_
  subst h4
  have h63' : (m : Int) ≤ 9223372036854775807 := by
    have h := b3
    simp [maxLen] at h
    omega
  have hb' : (i.bytes : Int) * (m : Int) ≤ 281474976710656 := by
    have h : ((i.bytes * m : Nat) : Int) ≤ 281474976710656 := by omega
    rwa [Int.natCast_mul] at h
  have hr := run_make (P := P) w t e i z h1 h2 h3 kl kc n m (by omega) (by omega) hb' h63'
  simp only [Int.toNat_natCast] at hr
  subst hL
  subst hC
  unfold Oper.wp
  simp [execOp, hop, hl, hc, hr, Result.andThen]
  refine hK' _ _ (hK _ ⟨?_, .inr ⟨_, m, _, rfl, b4, heap_alloc_new w _, hnm, b3, size_madeCells _ _, rfl⟩⟩ (World.grownBy_alloc w _ none))
  rw [List.length_take, Nat.min_eq_left]
  rw [Array.length_toList, size_madeCells]
  exact Nat.mul_le_mul_right _ hnm
theorem made_take (D M : Nat) (h : D ≤ M) : (madeCells (Value.cells (.int .u32 0)) (M * 1)).toList.take (D * 1) = cellsV (List.replicate D 0) := by
  rw [madeV, Nat.mul_one]
  unfold cellsV
  rw [List.map_replicate, List.map_replicate, List.take_replicate, Nat.min_eq_left h]
theorem valB_zeros (D : Nat) (zs : List Nat) : valB B32 (List.replicate D 0 ++ zs) = B32 ^ D * valB B32 zs := by
  rw [valB_append, valB_replicate, List.length_replicate, Nat.zero_add]

theorem own_below {w w' : World} {base g n m size : Nat} {e : TypeId} {xs : List Value} (h : w.ownsRow base e size (.slice (some ⟨g, 0, none⟩) n m) n xs) (hb : Below w.heap.size w w') (hg : g < w.heap.size) : w'.ownsRow base e size (.slice (some ⟨g, 0, none⟩) n m) n xs := by
  refine ⟨h.1, ?_⟩
  rcases h.2 with ⟨h', _⟩ | ⟨g', cap', cur, h', hbase, hgc, hr⟩
  · simp at h'
  · have h2 := h'
    simp only [Value.slice.injEq, Option.some.injEq, Addr.mk.injEq, and_true] at h2
    obtain ⟨rfl, _⟩ := h2
    exact .inr ⟨_, cap', cur, h', hbase, (hb.block _ hg).trans hgc, hr⟩
theorem blk_src {w : World} {g : Nat} {xs : List Nat} (h : Blk32 w g xs) : ∀ j u, (cellsV xs)[j]? = some u → w.cell? ((⟨g, 0, none⟩ : Addr).add j) = some u := by
  intro j u hu
  have hj : j < xs.length := by
    have := (List.getElem?_eq_some_iff.1 hu).1
    rwa [cellsV_length] at this
  have hadd : (⟨g, 0, none⟩ : Addr).add j = ⟨g, j, none⟩ := by unfold Addr.add; split <;> simp_all
  rw [hadd, h.cell j hj]
  rw [cellsV_get xs j hj] at hu
  exact hu

theorem rshl_any {p : Option Addr} {n c : Nat} {xs : List Nat} {a : Nat} {w : World} (h : At32 w p n c xs) (hx : Nf B32 xs a) (hn0 : 0 < n) (hn : n ≤ 16384) (N : Nat) (hN2 : N ≤ 524288) :
    Calls Try.prog 42 #[.slice p n c, .int .i64 N] w fun e w' => ∃ p' m' zs, e = .returned (.slice p' m' m') ∧ At32 w' p' m' m' zs ∧ Nf B32 zs (a * 2 ^ N) ∧ m' ≤ 40000 ∧ Below w.heap.size w w' := by
  obtain ⟨i0, hi, hz0, hz1, hz2⟩ := info_parts Try.infoU32
  have HX : Hid (Nf B32 xs a) := hx
  have HA : Hid (At32 w p n c xs) := h
  have HLX : Hid (xs.length = n) := h.len
  have cap := h.cap
  have big := h.big
  unfold maxLen at big
  have hne : ((n : Int) == 0) = false := by simp; omega
  clear hx h
  by_cases hN0 : N = 0
  · subst hN0
    go_enter Try.func42, Try.ntmps42
    go_wp2_with fail
    refine (rnorm_any HA.out (by omega)).mono ?_
    rw [trimL_of_Top HX.out.top]
    rintro e w1 ⟨g, rfl, hg, hb, hbl⟩
    have HB : Hid (Blk32 w1 g xs) := hb
    rw [HLX.out]
    clear hb
    go_wp2_with fail
    go_ret
    exact ⟨_, n, xs, rfl, HB.out.at_ HX.out.dig HLX.out (by unfold maxLen; omega), by rw [Nat.pow_zero, Nat.mul_one]; exact HX.out, by omega, hbl⟩
  · obtain ⟨D, hD⟩ : ∃ D, D = N / 32 := ⟨_, rfl⟩
    obtain ⟨R, hR⟩ : ∃ R, R = N % 32 := ⟨_, rfl⟩
    have d1 : (N : Int).tdiv 32 = (D : Int) := by rw [Int.tdiv_eq_ediv_of_nonneg (by omega)]; omega
    have d2 : (N : Int).tmod 32 = (R : Int) := by rw [Int.tmod_eq_emod_of_nonneg (by omega)]; omega
    have hNp : ¬ (N : Int) ≤ 0 := by omega
    have hR32 : R < 32 := by omega
    have hDb : D ≤ 16384 := by omega
    have HD : Hid (2 ^ N = B32 ^ D * 2 ^ R) := by show _ = _; rw [show B32 = 2 ^ 32 from rfl, ← Nat.pow_mul, ← Nat.pow_add]; congr 1; omega
    obtain ⟨M, hM⟩ : ∃ M, M = D + n + 1 := ⟨_, rfl⟩
    have hMI : (D : Int) + (n : Int) + 1 = (M : Int) := by omega
    have HM : Hid (M = D + n + 1) := hM
    have hMb : M ≤ 33000 := by omega
    have hDM : D ≤ M := by omega
    obtain ⟨d, hd⟩ : ∃ d, d = 2 ^ R := ⟨_, rfl⟩
    have hd1 : 1 ≤ d := by rw [hd]; exact Nat.pow_pos (by decide)
    have hdB : d < B32 := by rw [hd, show B32 = 2 ^ 32 from rfl]; exact Nat.pow_lt_pow_right (by decide) hR32
    have hdw : IntKind.u32.wrap (d : Int) = (d : Int) := wrap32 d hdB
    have hdI : (2 : Int) ^ R = (d : Int) := by rw [hd]; norm_cast
    have HDD : Hid (d = 2 ^ R ∧ 1 ≤ d ∧ d < B32) := ⟨hd, hd1, hdB⟩
    clear hD hR hM hd hd1 hdB
    go_enter Try.func42, Try.ntmps42
    go_wp2_with (at_make; refine wpList_make_room _ rfl _ _ 33 rfl w.heap.size 73 i0 (.int .u32 0) 1 Try.underlying33 hi hz0 hz1 _ _ _ _ D M rfl rfl (by omega) (by omega) hDM (by rw [hz2]; omega) (by unfold maxLen; omega) (Nat.le_refl _) ?_; intro w1 hown hgrow)
    have hb1 : Below w.heap.size w w1 := (Below.refl _ _).grown hgrow (Nat.le_refl _) (fun k hk => by simp at hk)
    rw [made_take D M hDM] at hown
    have HO : Hid (w1.ownsRow w.heap.size 73 1 (.slice (some ⟨w.heap.size, 0, none⟩) D M) D (cellsV (List.replicate D 0))) := hown
    have HA1 : Hid (At32 w1 p n c xs) := HA.out.below hb1
    have HB1 : Hid (Below w.heap.size w w1) := hb1
    have HSZ : Hid (w.heap.size < w1.heap.size) := by
      rcases HO.out.2 with ⟨h', _⟩ | ⟨g', _, _, h', _, hgc, _⟩
      · simp at h'
      · simp only [Value.slice.injEq, Option.some.injEq, Addr.mk.injEq, and_true] at h'
        obtain ⟨rfl, _⟩ := h'
        exact (Array.getElem?_eq_some_iff.1 hgc).1
    clear hown hgrow hb1 HA
    rw [show Value.int IntKind.u32 (d : Int) = V d from rfl, show Value.int IntKind.u32 0 = V 0 from rfl]
    refine (rsmall_any HA1.out HX.out (by omega) HDD.out.2.2 (show 0 < B32 by decide)).mono ?_
    rintro e w2 ⟨g2, z2, rfl, hk2, hn2, hl2, hb2⟩
    rw [Nat.add_zero] at hn2
    have HO2 : Hid (w2.ownsRow w.heap.size 73 1 (.slice (some ⟨w.heap.size, 0, none⟩) D M) D (cellsV (List.replicate D 0))) := own_below HO.out hb2 HSZ.out
    have HK2 : Hid (Blk32 w2 g2 z2) := hk2
    have HN2 : Hid (Nf B32 z2 (a * d)) := hn2
    have HB2 : Hid (Below w.heap.size w w2) := Below.on HB1.out hb2
    obtain ⟨l2, hle2⟩ : ∃ l2, l2 = z2.length := ⟨_, rfl⟩
    have HL2 : Hid (z2.length = l2) := hle2.symm
    rw [← hle2] at hl2 ⊢
    have hsp : D + l2 ≤ M := by have := HM.out; omega
    clear hk2 hn2 hb2 hle2 HO HA1 HB1
    go_wp2_with (at_builtin; refine wpList_append_fits _ rfl (.tmp 24) (.tmp 29) 33 rfl w.heap.size 73 i0 1 Try.underlying33 hi hz1 w.heap.size D M (cellsV (List.replicate D 0)) rfl HO2.out ⟨g2, 0, none⟩ l2 l2 (cellsV z2) rfl (by rw [cellsV_length, HL2.out, Nat.mul_one]) (blk_src HK2.out) (cellsV_one _) hsp ?_; intro w3 hw3 hgr3)
    have hd3 : Dig B32 (List.replicate D 0 ++ z2) := (Dig.replicate B32 D B32_pos).append HN2.out.dig
    have hl3 : (List.replicate D 0 ++ z2).length = D + l2 := by rw [List.length_append, List.length_replicate, HL2.out]
    have A3 : Hid (At32 w3 (some ⟨w.heap.size, 0, none⟩) (D + l2) M (List.replicate D 0 ++ z2)) := own_at32 (by rw [show cellsV (List.replicate D 0 ++ z2) = cellsV (List.replicate D 0) ++ cellsV z2 from by unfold cellsV; rw [List.map_append]]; exact hw3) hl3 hd3
    have HB3 : Hid (Below w.heap.size w w3) := HB2.out.grown hgr3 HB2.out.size (fun q hq => by simp at hq; omega)
    have NF3 : Hid (Nf B32 (trimL (List.replicate D 0 ++ z2)) (a * 2 ^ N)) := by
      have h1 := Nf.trim hd3
      rw [valB_zeros, HN2.out.val] at h1
      have e1 : B32 ^ D * (a * d) = a * 2 ^ N := by rw [HD.out, ← HDD.out.1, Nat.mul_left_comm]
      rw [e1] at h1; exact h1
    have hle3 : (trimL (List.replicate D 0 ++ z2)).length ≤ D + l2 := by have h1 := trimL_length_le (List.replicate D 0 ++ z2); omega
    clear hw3 hgr3 hl3 hd3
    refine (rnorm_any A3.out (by omega)).mono ?_
    rintro e w4 ⟨g4, rfl, hg4, hb4, hbl4⟩
    have A4 : Hid (At32 w4 (some ⟨g4, 0, none⟩) (trimL (List.replicate D 0 ++ z2)).length (trimL (List.replicate D 0 ++ z2)).length (trimL (List.replicate D 0 ++ z2))) := hb4.at_ NF3.out.dig rfl (by unfold maxLen; omega)
    have hbw4 := Below.on HB3.out hbl4
    generalize trimL (List.replicate D 0 ++ z2) = z4 at *
    clear hb4 hbl4 hg4
    go_wp2_with fail
    go_ret
    exact ⟨_, _, z4, rfl, A4.out, NF3.out, by omega, hbw4⟩
structure B5 (W : World) (g : Nat) (v0 v1 v2 v3 v4 : Value) : Prop where
  c0 : W.cell? ⟨g, 0, none⟩ = some v0
  c1 : W.cell? ⟨g, 1, none⟩ = some v1
  c2 : W.cell? ⟨g, 2, none⟩ = some v2
  c3 : W.cell? ⟨g, 3, none⟩ = some v3
  c4 : W.cell? ⟨g, 4, none⟩ = some v4
  f0 : W.frozen? ⟨g, 0, none⟩ = false
  f1 : W.frozen? ⟨g, 1, none⟩ = false
  f2 : W.frozen? ⟨g, 2, none⟩ = false
  f3 : W.frozen? ⟨g, 3, none⟩ = false
  f4 : W.frozen? ⟨g, 4, none⟩ = false
theorem B5.below {W W' : World} {g : Nat} {v0 v1 v2 v3 v4 : Value} (h : B5 W g v0 v1 v2 v3 v4) (hb : Below W.heap.size W W') : B5 W' g v0 v1 v2 v3 v4 := by
  have hl : g < W.heap.size := World.block_lt_of_cell? W _ h.c0
  exact ⟨(hb.cell (p := ⟨g, 0, none⟩) hl).trans h.c0, (hb.cell (p := ⟨g, 1, none⟩) hl).trans h.c1, (hb.cell (p := ⟨g, 2, none⟩) hl).trans h.c2, (hb.cell (p := ⟨g, 3, none⟩) hl).trans h.c3, (hb.cell (p := ⟨g, 4, none⟩) hl).trans h.c4,
    (hb.frozen (p := ⟨g, 0, none⟩) hl).trans h.f0, (hb.frozen (p := ⟨g, 1, none⟩) hl).trans h.f1, (hb.frozen (p := ⟨g, 2, none⟩) hl).trans h.f2, (hb.frozen (p := ⟨g, 3, none⟩) hl).trans h.f3, (hb.frozen (p := ⟨g, 4, none⟩) hl).trans h.f4⟩
theorem B5.new (w : World) (ty : TypeId) (v0 v1 v2 v3 v4 : Value) : B5 (w.alloc (.cells #[v0, v1, v2, v3, v4] ty)) w.heap.size v0 v1 v2 v3 v4 :=
  ⟨by go_simp, by go_simp, by go_simp, by go_simp, by go_simp, by go_simp, by go_simp, by go_simp, by go_simp, by go_simp⟩
theorem DocIs.inj {v : Nat} {us us' : List Nat} {f f' : Int} (h : DocIs v us f) (k : DocIs v us' f') : us = us' ∧ f = f' := by
  rcases h with ⟨h1, h2, rfl⟩ | ⟨h1, rfl, rfl⟩ <;> rcases k with ⟨k1, k2, rfl⟩ | ⟨k1, rfl, rfl⟩
  · exact ⟨h2.inj B64_one k2, rfl⟩
  · omega
  · omega
  · exact ⟨rfl, rfl⟩
theorem DocIs.er {v : Nat} {us : List Nat} {f : Int} (h : DocIs v us f) : f = 0 ∨ f = 5 := by
  rcases h with ⟨_, _, rfl⟩ | ⟨_, _, rfl⟩ <;> simp
structure Op5 where
  k : Int
  pa : Option Addr
  na : Nat
  ca : Nat
  xa : List Nat
  pb : Option Addr
  nb : Nat
  cb : Nat
  xb : List Nat
  nn : Int
  wd : Nat
structure Scr (w : World) (P : Option Addr) (N C : Nat) (its : List Op5) : Prop where
  len : its.length = N
  cap : N ≤ C
  big : C ≤ maxLen
  ats : ∀ t ∈ its, At w t.pa t.na t.ca t.xa ∧ At w t.pb t.nb t.cb t.xb ∧ t.na ≤ 17592186044416 ∧ t.nb ≤ 17592186044416 ∧ t.wd < B64 ∧ -9223372036854775808 ≤ t.nn ∧ t.nn ≤ 9223372036854775807
  cells : N = 0 ∨ ∃ g off, P = some ⟨g, off, none⟩ ∧ ∀ i (h : i < its.length), w.cell? ⟨g, off + i * 5, none⟩ = some (.int .i64 its[i].k) ∧ w.cell? ⟨g, off + i * 5 + 1, none⟩ = some (.slice its[i].pa its[i].na its[i].ca) ∧
    w.cell? ⟨g, off + i * 5 + 2, none⟩ = some (.slice its[i].pb its[i].nb its[i].cb) ∧ w.cell? ⟨g, off + i * 5 + 3, none⟩ = some (.int .i64 its[i].nn) ∧ w.cell? ⟨g, off + i * 5 + 4, none⟩ = some (U its[i].wd)
theorem Scr.below {w w' : World} {P : Option Addr} {N C : Nat} {its : List Op5} (h : Scr w P N C its) (hb : Below w.heap.size w w') : Scr w' P N C its := by
  refine ⟨h.len, h.cap, h.big, fun t ht => ?_, ?_⟩
  · obtain ⟨h1, h2, h3⟩ := h.ats t ht
    exact ⟨h1.below hb, h2.below hb, h3⟩
  · rcases h.cells with h0 | ⟨g, off, hP, hc⟩
    · exact .inl h0
    · refine .inr ⟨g, off, hP, fun i hi => ?_⟩
      obtain ⟨h0, h1, h2, h3, h4⟩ := hc i hi
      have hl : g < w.heap.size := World.block_lt_of_cell? w _ h0
      exact ⟨(hb.cell (p := ⟨g, off + i * 5, none⟩) hl).trans h0, (hb.cell (p := ⟨g, off + i * 5 + 1, none⟩) hl).trans h1, (hb.cell (p := ⟨g, off + i * 5 + 2, none⟩) hl).trans h2,
        (hb.cell (p := ⟨g, off + i * 5 + 3, none⟩) hl).trans h3, (hb.cell (p := ⟨g, off + i * 5 + 4, none⟩) hl).trans h4⟩
def ShIs (r : Nat → Nat → Nat) (xs : List Nat) (t : Int) (us : List Nat) (f : Int) : Prop :=
  (t < 0 ∧ us = [] ∧ f = 1) ∨ (0 ≤ t ∧ formB xs = false ∧ us = [] ∧ f = 2) ∨ (0 ≤ t ∧ formB xs = true ∧ DocIs (r (valB B64 xs) t.toNat) us f)
theorem ShIs.inj {r : Nat → Nat → Nat} {xs : List Nat} {t : Int} {us us' : List Nat} {f f' : Int} (h : ShIs r xs t us f) (k : ShIs r xs t us' f') : us = us' ∧ f = f' := by
  rcases h with ⟨h1, rfl, rfl⟩ | ⟨h1, h2, rfl, rfl⟩ | ⟨h1, h2, h3⟩ <;> rcases k with ⟨k1, rfl, rfl⟩ | ⟨k1, k2, rfl, rfl⟩ | ⟨k1, k2, k3⟩
  · exact ⟨rfl, rfl⟩
  · omega
  · omega
  · omega
  · exact ⟨rfl, rfl⟩
  · rw [k2] at h2; simp at h2
  · omega
  · rw [k2] at h2; simp at h2
  · exact h3.inj k3
theorem ShIs.er {r : Nat → Nat → Nat} {xs us : List Nat} {t f : Int} (h : ShIs r xs t us f) : f = 0 ∨ f = 1 ∨ f = 2 ∨ f = 3 ∨ f = 4 ∨ f = 5 := by
  rcases h with ⟨_, _, rfl⟩ | ⟨_, _, _, rfl⟩ | ⟨_, _, ⟨_, _, rfl⟩ | ⟨_, _, rfl⟩⟩ <;> simp
theorem rshl_nil {p : Option Addr} {c : Nat} {w : World} (hc : c ≤ maxLen) (k : Int) :
    Calls Try.prog 42 #[.slice p 0 c, .int .i64 k] w fun e w' => ∃ g, e = .returned (.slice (some ⟨g, 0, none⟩) 0 0) ∧ At32 w' (some ⟨g, 0, none⟩) 0 0 [] ∧ Below w.heap.size w w' := by
  have HC : Hid (c ≤ maxLen) := hc
  clear hc
  by_cases h0 : k ≤ 0
  · have h1 : ¬ 0 < k := by omega
    go_enter Try.func42, Try.ntmps42
    go_wp2_with fail
    refine (rnorm_any (At32.empty w p c HC.out) (by omega)).mono ?_
    rintro e w1 ⟨g, rfl, hg, hblk, hb⟩
    go_wp2_with fail
    go_ret
    exact ⟨g, rfl, At32.empty _ _ _ (by decide), hb⟩
  · have h1 : 0 < k := by omega
    go_enter Try.func42, Try.ntmps42
    go_wp2_with fail
    refine (rnorm_any (At32.empty w p c HC.out) (by omega)).mono ?_
    rintro e w1 ⟨g, rfl, hg, hblk, hb⟩
    go_wp2_with fail
    go_ret
    exact ⟨g, rfl, At32.empty _ _ _ (by decide), hb⟩
theorem rshl_all {p : Option Addr} {n : Nat} {xs : List Nat} {a : Nat} {w : World} (h : At32 w p n n xs) (hx : Nf B32 xs a) (hn : n ≤ 16384) (k : Nat) (hk : k ≤ 524288 ∨ a = 0) :
    Calls Try.prog 42 #[.slice p n n, .int .i64 k] w fun e w' => ∃ p' m' zs, e = .returned (.slice p' m' m') ∧ At32 w' p' m' m' zs ∧ Nf B32 zs (a * 2 ^ k) ∧ m' ≤ 40000 ∧ Below w.heap.size w w' := by
  rcases Nat.eq_zero_or_pos n with h0 | h0
  · subst h0
    have ha : a = 0 := (hx.zero_iff B32_one).1 (List.eq_nil_of_length_eq_zero h.len)
    refine (rshl_nil (by unfold maxLen; omega) (k : Int)).mono ?_
    rintro e w' ⟨g, he, hA, hb⟩
    exact ⟨_, 0, [], he, hA, by rw [ha, Nat.zero_mul]; exact Nf.nil _, by omega, hb⟩
  · refine rshl_any h hx h0 hn k (hk.resolve_right fun e => ?_)
    have := (hx.zero_iff B32_one).2 e
    rw [this] at h
    have := h.len
    simp at this
    omega
abbrev F64t : Value := FV 9223372036854775808 53 (-1074) 971 9218868437227405312 9221120237041090561
theorem rparts_64nt (s : Nat) (hs : 4503599627370496 ≤ s) (hs9 : s < 9223372036854775808) (w : World) : Calls Try.prog 46 #[F64t, U s] w fun e w' => e = .returned (.tuple #[U (s - (s / 4503599627370496 - 1) * 4503599627370496), .int .i64 ((-1074) + ((s / 4503599627370496 - 1 : Nat) : Int))]) ∧ Below w.heap.size w w' := by
  obtain ⟨z, hz⟩ : ∃ z, z = s / 4503599627370496 := ⟨_, rfl⟩
  obtain ⟨r, hr⟩ : ∃ r, r = s % 4503599627370496 := ⟨_, rfl⟩
  have d1 : (s : Int).tdiv 4503599627370496 = (z : Int) := by rw [Int.tdiv_eq_ediv_of_nonneg (by omega)]; omega
  have d2 : (s : Int).tmod 4503599627370496 = (r : Int) := by rw [Int.tmod_eq_emod_of_nonneg (by omega)]; omega
  have d3 : IntKind.u64.wrap (z : Int) = (z : Int) := by rw [IntKind.wrap_u64]; omega
  have d4 : IntKind.u64.wrap (r : Int) = (r : Int) := by rw [IntKind.wrap_u64]; omega
  have hzb : ((z : Int) == 0) = false := by simp; omega
  obtain ⟨y, hy⟩ : ∃ y, y = s - (z - 1) * 4503599627370496 := ⟨_, rfl⟩
  obtain ⟨x, hx⟩ : ∃ x : Int, x = (-1074) + ((z - 1 : Nat) : Int) := ⟨_, rfl⟩
  obtain ⟨x1, hx1⟩ : ∃ x1 : Int, x1 = (-1074) + (z : Int) := ⟨_, rfl⟩
  rw [← hz, ← hy, ← hx]
  have d5 : IntKind.u64.wrap (4503599627370496 + (r : Int)) = (y : Int) := by rw [IntKind.wrap_u64]; omega
  have d6 : IntKind.i64.wrap (z : Int) = (z : Int) := by simp [IntKind.wrap, IntKind.signed, IntKind.bits]; omega
  have d7 : IntKind.i64.wrap ((-1074) + (z : Int)) = x1 := by rw [hx1]; simp [IntKind.wrap, IntKind.signed, IntKind.bits]; omega
  have d8 : IntKind.i64.wrap (x1 - 1) = x := by simp [IntKind.wrap, IntKind.signed, IntKind.bits]; omega
  clear hz hr hs hs9 hy hx hx1
  go_enter Try.func46, Try.ntmps46
  go_wp2_with fail
  go_quiet (fail)
  go_wp2_with fail
  go_quiet (fail)
  go_wp2_with fail
  go_ret2
  exact ⟨rfl, bwDrewN (bwDrewN (bwAlloc w _) _) _⟩
theorem rparts_640t (s : Nat) (hs : s < 4503599627370496) (w : World) : Calls Try.prog 46 #[F64t, U s] w fun e w' => e = .returned (.tuple #[U s, .int .i64 (-1074)]) ∧ Below w.heap.size w w' := by
  obtain ⟨z, hz⟩ : ∃ z, z = s / 4503599627370496 := ⟨_, rfl⟩
  obtain ⟨r, hr⟩ : ∃ r, r = s % 4503599627370496 := ⟨_, rfl⟩
  have d1 : (s : Int).tdiv 4503599627370496 = (z : Int) := by rw [Int.tdiv_eq_ediv_of_nonneg (by omega)]; omega
  have d2 : (s : Int).tmod 4503599627370496 = (r : Int) := by rw [Int.tmod_eq_emod_of_nonneg (by omega)]; omega
  have d3 : IntKind.u64.wrap (z : Int) = (z : Int) := by rw [IntKind.wrap_u64]; omega
  have d4 : IntKind.u64.wrap (r : Int) = (r : Int) := by rw [IntKind.wrap_u64]; omega
  have hz0 : z = 0 := by omega
  have hrs : r = s := by omega
  subst hz0
  subst hrs
  clear hz hr hs
  go_enter Try.func46, Try.ntmps46
  go_wp2_with fail
  go_quiet (fail)
  go_wp2_with fail
  go_quiet (fail)
  go_wp2_with fail
  go_ret2
  exact ⟨rfl, bwDrewN (bwDrewN (bwAlloc w _) _) _⟩
theorem rparts_all64 (s : Nat) (hs9 : s < 9223372036854775808) (w : World) : Calls Try.prog 46 #[F64t, U s] w fun e w' => e = .returned (.tuple #[U (s - (s / 4503599627370496 - 1) * 4503599627370496), .int .i64 ((-1074) + ((s / 4503599627370496 - 1 : Nat) : Int))]) ∧ Below w.heap.size w w' := by
  by_cases h : s < 4503599627370496
  · have h1 : s / 4503599627370496 = 0 := Nat.div_eq_of_lt h
    rw [h1, show 0 - 1 = 0 from rfl, Nat.zero_mul, Nat.sub_zero, show ((-1074 : Int) + ((0 : Nat) : Int)) = -1074 from rfl]
    exact rparts_640t s h w
  · exact rparts_64nt s (by omega) (by omega) w
theorem zr_len9 {w : World} {s : Bool} {p : Option Addr} {m : Nat} {z : Int} (h : ZR w s p m z) {L : Nat} (hL : z.natAbs < 2 ^ L) : m ≤ L := by
  obtain ⟨zs, hA, hN⟩ := h.ex
  have h1 := (hN.len_le B32_one (k := L)).2 (Nat.lt_of_lt_of_le hL (Nat.pow_le_pow_left (by decide) L))
  rw [hA.len] at h1
  exact h1
theorem GotR.len9 {B : Nat} {w : World} {v : Value} {z : Int} {L L' : Nat} (h : GotR B w v z L) (hL : z.natAbs < 2 ^ L') : GotR B w v z L' := by
  obtain ⟨s, g, m, h1, h2, h3, _⟩ := h
  exact ⟨s, g, m, h1, h2, h3, zr_len9 h3 hL⟩
theorem svS_lt {S H : Nat} (b : Nat) {L a c : Nat} (hH : H ≤ 2 ^ a) (h0 : 0 < H) (hS : S ≤ c * H) (hS0 : 0 < S) (hL : a + c ≤ L) : (svS S H b).natAbs < 2 ^ L := by
  rw [svS_eq]
  have h1 : (if S ≤ b then -(vs H (b % S) : Int) else (vs H (b % S) : Int)).natAbs = vs H (b % S) := by split <;> omega
  rw [h1]
  have h2 : b % S < c * H := Nat.lt_of_lt_of_le (Nat.mod_lt _ hS0) hS
  have h3 : b % S / H < c := (Nat.div_lt_iff_lt_mul h0).2 h2
  have e1 := Nat.div_add_mod (b % S) H
  have e2 := Nat.mod_lt (b % S) h0
  rw [Nat.mul_comm] at e1
  have h4 : b % S - (b % S / H - 1) * H < 2 * H := by
    by_cases e3 : b % S / H = 0
    · rw [e3] at e1 ⊢; omega
    · rw [Nat.sub_mul]; omega
  unfold vs
  have h5 : 2 ^ (b % S / H - 1) ≤ 2 ^ (c - 1) := Nat.pow_le_pow_right (by decide) (by generalize b % S / H = t at h3 ⊢; omega)
  have h6 : 0 < 2 ^ (b % S / H - 1) := Nat.two_pow_pos _
  refine Nat.lt_of_lt_of_le (Nat.mul_lt_mul_of_pos_right h4 h6) (Nat.le_trans (Nat.mul_le_mul (Nat.mul_le_mul_left 2 hH) h5) ?_)
  rw [← Nat.pow_succ', ← Nat.pow_add]
  have h7 : 1 ≤ c := Nat.lt_of_le_of_lt (Nat.zero_le _) h3
  exact Nat.pow_le_pow_right (by decide) (by omega)
theorem rwhole_64 {b : Nat} (w : World) :
    Calls Try.prog 30 #[FV 9223372036854775808 53 (-1074) 971 9218868437227405312 9221120237041090561, U b] w fun en w' => ∃ v, en = .returned v ∧ GotR w.heap.size w' v (svS 9223372036854775808 4503599627370496 b) 2200 ∧ Below w.heap.size w w' := by
  obtain ⟨q, hq⟩ : ∃ q, q = b % 9223372036854775808 / 4503599627370496 - 1 := ⟨_, rfl⟩
  obtain ⟨man, hman⟩ : ∃ man, man = b % 9223372036854775808 - q * 4503599627370496 := ⟨_, rfl⟩
  obtain ⟨neg, hneg⟩ : ∃ neg, neg = decide (9223372036854775808 ≤ b) := ⟨_, rfl⟩
  obtain ⟨s, hs⟩ : ∃ s, s = b % 9223372036854775808 := ⟨_, rfl⟩
  have hv : iv neg (man * 2 ^ q) = svS 9223372036854775808 4503599627370496 b := by
    rw [svS_eq, hneg, show vs 4503599627370496 (b % 9223372036854775808) = man * 2 ^ q from by unfold vs; rw [← hq, ← hman]]
    by_cases h : 9223372036854775808 ≤ b
    · rw [if_pos h, decide_eq_true h]; rfl
    · rw [if_neg h, decide_eq_false h]; rfl
  have hq9 : q ≤ 2048 := by omega
  have e1 : IntKind.i64.wrap ((-1074 : Int) + (q : Int) - (-1074)) = (q : Int) := by simp [IntKind.wrap, IntKind.signed, IntKind.bits]; omega
  obtain ⟨ex, hex⟩ : ∃ ex : Int, ex = (-1074 : Int) + (q : Int) := ⟨_, rfl⟩
  rw [← hex] at e1
  have e2 : wrap64 (ex + 1074) = (q : Int) := by rw [hex]; simp only [wrap64]; omega
  have e3 : IntKind.i64.wrap (ex + 1074) = (q : Int) := by rw [hex]; simp [IntKind.wrap, IntKind.signed, IntKind.bits]; omega
  have HV : Hid (iv neg (man * 2 ^ q) = svS 9223372036854775808 4503599627370496 b ∧ q ≤ 2048 ∧ man < B64 ∧ b % 9223372036854775808 = s ∧ decide (9223372036854775808 ≤ b) = neg ∧ s < 9223372036854775808 ∧ s / 4503599627370496 - 1 = q ∧ s - q * 4503599627370496 = man ∧ (-1074 : Int) + (q : Int) = ex) := ⟨hv, hq9, by rw [B64_eq]; omega, hs.symm, hneg.symm, by omega, by rw [hs]; exact hq.symm, by rw [hs]; exact hman.symm, hex.symm⟩
  clear hq hman hneg hs hv hq9 hex
  go_enter Try.func30, Try.ntmps30
  go_wp2_with fail
  obtain ⟨W0, hW0⟩ : ∃ W0, W0 = ((w.alloc (.cells #[U 9223372036854775808, .int .i64 53, .int .i64 (-1074), .int .i64 971, U 9218868437227405312, U 9221120237041090561] 55)).alloc (.cells #[.bool false, .slice none 0 0] 35)) := ⟨_, rfl⟩
  have Xk : Hid (B6q W0 (w.heap.size) (U 9223372036854775808) (.int .i64 53) (.int .i64 (-1074)) (.int .i64 971) (U 9218868437227405312) (U 9221120237041090561)) := by rw [hW0]; exact ⟨by go_simp, by go_simp, by go_simp, by go_simp, by go_simp, by go_simp, by go_simp, by go_simp, by go_simp, by go_simp, by go_simp, by go_simp⟩
  have Xr : Hid (Box W0 (w.heap.size + 1) (.bool false) (.slice none 0 0)) := by rw [hW0]; exact ⟨by go_simp, by go_simp, by go_simp, by go_simp⟩
  have hb0 : Below w.heap.size w W0 := by rw [hW0]; exact below2 w _ _
  rw [← hW0]
  clear hW0
  have hbw : Below w.heap.size w w := Below.refl _ _
  obtain ⟨gr, hgr⟩ : ∃ g, g = w.heap.size + 1 := ⟨_, rfl⟩
  have HGr : Hid (w.heap.size ≤ gr) := by rw [hgr]; show _ ≤ _; omega
  rw [← hgr] at Xr
  try rw [← hgr]
  obtain ⟨gk, hgk⟩ : ∃ g, g = w.heap.size := ⟨_, rfl⟩
  have HGk : Hid (w.heap.size ≤ gk) := by rw [hgk]; show _ ≤ _; omega
  rw [← hgk] at Xk
  try rw [← hgk]
  have HGD : Hid (gk ≠ gr ∧ gr ≠ gk) := by rw [hgk, hgr]; exact ⟨by omega, by omega⟩
  clear hgk hgr
  replace hbw := Below.on hbw hb0
  clear hb0
  refine (cut_any (by decide) (by decide) b _).mono ?_
  rintro e v1 ⟨rfl, hb1⟩
  rw [HV.out.2.2.2.1, HV.out.2.2.2.2.1]
  replace Xk : Hid _ := Xk.out.below hb1
  replace Xr : Hid _ := Xr.out.below hb1
  replace hbw := Below.on hbw hb1
  clear hb1
  obtain ⟨ck0, ck1, ck2, ck3, ck4, ck5, fk0, fk1, fk2, fk3, fk4, fk5⟩ := Xk.out
  have hnek : gk < v1.heap.size := World.block_lt_of_cell? v1 _ ck0
  go_wp2_with fail
  clear ck0 ck1 ck2 ck3 ck4 ck5 fk0 fk1 fk2 fk3 fk4 fk5 hnek
  refine (rparts_all64 s HV.out.2.2.2.2.2.1 _).mono ?_
  rintro e v2 ⟨rfl, hb2⟩
  rw [HV.out.2.2.2.2.2.2.1, HV.out.2.2.2.2.2.2.2.1, HV.out.2.2.2.2.2.2.2.2]
  replace Xk : Hid _ := Xk.out.below hb2
  replace Xr : Hid _ := Xr.out.below hb2
  replace hbw := Below.on hbw hb2
  clear hb2
  obtain ⟨ck0, ck1, ck2, ck3, ck4, ck5, fk0, fk1, fk2, fk3, fk4, fk5⟩ := Xk.out
  have hnek : gk < v2.heap.size := World.block_lt_of_cell? v2 _ ck0
  go_wp2_with fail
  clear ck0 ck1 ck2 ck3 ck4 ck5 fk0 fk1 fk2 fk3 fk4 fk5 hnek
  obtain ⟨W1, hW1⟩ : ∃ W1, W1 = v2.drew := ⟨_, rfl⟩
  have hbd : Below v2.heap.size v2 W1 := by rw [hW1]; exact bDrew1 (Below.refl _ _)
  replace Xk : Hid _ := Xk.out.below hbd
  replace Xr : Hid _ := Xr.out.below hbd
  replace hbw := Below.on hbw hbd
  clear hbd
  have HJ : Hid ((fun W' : World => W'.cell? ⟨gk, 2, none⟩ = some (.int .i64 (-1074)) ∧ W'.cell? ⟨gk, 1, none⟩ = some (.int .i64 53)) W1) := ⟨Xk.out.c2, Xk.out.c1⟩
  refine wp_region_J (fun W' => W'.cell? ⟨gk, 2, none⟩ = some (.int .i64 (-1074)) ∧ W'.cell? ⟨gk, 1, none⟩ = some (.int .i64 53)) (by kernel_rfl) ?_
  rw [← hW1]
  clear hW1
  refine wpJ_tq 0 rfl HJ.out ?_
  refine wpJ_tq 1 rfl HJ.out ?_
  refine wpJ_tq 3 rfl HJ.out ?_
  refine wpJ_tq 4 rfl HJ.out ?_
  refine wpJ_tq 5 rfl HJ.out ?_
  refine wpJ_tq 6 rfl HJ.out ?_
  refine wpJ_on 2 rfl fun KJ hK => ?_
  go_simp
  refine (rword man HV.out.2.2.1 _).mono ?_
  rintro e v5 ⟨g5, z5, rfl, hl5, hA5, hN5, hb5⟩
  replace Xk : Hid _ := Xk.out.below hb5
  replace Xr : Hid _ := Xr.out.below hb5
  replace hbw := Below.on hbw hb5
  clear hb5
  have A5 : Hid (At32 v5 (some ⟨g5, 0, none⟩) z5.length z5.length z5) := hA5
  have N5 : Hid (Nf B32 z5 man ∧ z5.length ≤ 2) := ⟨hN5, hl5⟩
  clear hA5 hN5 hl5
  obtain ⟨l5, hl5⟩ : ∃ l5, l5 = z5.length := ⟨_, rfl⟩
  rw [← hl5] at A5 N5 ⊢
  clear hl5
  refine hK _ _ ⟨Xk.out.c2, Xk.out.c1⟩ ?_
  clear hK
  refine wpJ_on 7 rfl fun KJ hK => ?_
  go_simp
  refine (rshl_all A5.out N5.out.1 (by have := N5.out.2; omega) q (.inl (by have := HV.out.2.1; omega))).mono ?_
  rintro e v6 ⟨p6, m6, z6, rfl, hA6, hN6, hm6, hb6⟩
  replace Xk : Hid _ := Xk.out.below hb6
  replace Xr : Hid _ := Xr.out.below hb6
  replace A5 : Hid _ := A5.out.below hb6
  replace hbw := Below.on hbw hb6
  clear hb6
  clear A5
  have A6 : Hid (At32 v6 p6 m6 m6 z6) := hA6
  have N6 : Hid (Nf B32 z6 (man * 2 ^ q) ∧ m6 ≤ 40000) := ⟨hN6, hm6⟩
  clear hA6 hN6 hm6 N5
  refine hK _ _ ⟨Xk.out.c2, Xk.out.c1⟩ ?_
  clear hK
  have HRL : Hid (gr < v6.heap.size ∧ w.heap.size ≤ v6.heap.size) := ⟨Xr.out.lt, hbw.size⟩
  refine wpJ_on 8 rfl fun KJ hK => ?_
  go_simp
  refine (rmk_any neg A6.out N6.out.1 (by have := N6.out.2; omega)).mono ?_
  rintro e v7 ⟨v, rfl, hv, hb7⟩
  rw [HV.out.1] at hv
  obtain ⟨LL, hLL⟩ : ∃ LL : Nat, LL = 2200 := ⟨_, rfl⟩
  obtain ⟨s7, g7, m7, rfl, hg7, hz7, hl7⟩ := hv.len9 (L' := LL) (svS_lt b (a := 52) (c := 2048) (by decide) (by decide) (by decide) (by decide) (by omega))
  rw [hLL] at hl7
  clear hLL
  have HN7 : Hid (v6.heap.size ≤ g7) := hg7
  replace Xk : Hid _ := Xk.out.below hb7
  replace Xr : Hid _ := Xr.out.below hb7
  replace A6 : Hid _ := A6.out.below hb7
  replace hbw := Below.on hbw hb7
  clear hb7
  clear A6
  have Z7 : Hid (ZR v7 s7 (some ⟨g7, 0, none⟩) m7 (svS 9223372036854775808 4503599627370496 b)) := hz7
  have HL7 : Hid (m7 ≤ 2200) := hl7
  clear hv hg7 hz7 hl7 N6
  refine hK _ _ ⟨Xk.out.c2, Xk.out.c1⟩ ?_
  clear hK
  obtain ⟨cr0, cr1, fr0, fr1⟩ := Xr.out
  have hner := Xr.out.lt
  obtain ⟨ck0, ck1, ck2, ck3, ck4, ck5, fk0, fk1, fk2, fk3, fk4, fk5⟩ := Xk.out
  have hnek : gk < v7.heap.size := World.block_lt_of_cell? v7 _ ck0
  obtain ⟨hgd0, hgd1⟩ := HGD.out
  refine wpJ_on 9 rfl fun KJ hK => ?_
  go_simp
  have HJ2 : Hid ((fun W' : World => W'.cell? ⟨gk, 2, none⟩ = some (.int .i64 (-1074)) ∧ W'.cell? ⟨gk, 1, none⟩ = some (.int .i64 53)) ((v7.setCell ⟨gr, 0, none⟩ (.bool s7)).setCell ⟨gr, 1, none⟩ (.slice (some ⟨g7, 0, none⟩) m7 m7))) := ⟨by go_simp, by go_simp⟩
  refine hK _ _ HJ2.out ?_
  clear hK HJ
  have HJ := HJ2
  clear HJ2
  refine wpJ_done (by kernel_rfl) ?_ _
  clear HJ
  go_wp2_with fail
  refine bodyPost_ret (v := .agg #[.bool s7, .slice (some ⟨g7, 0, none⟩) m7 m7]) (by rw [results_cell1 rfl]; go_simp) rfl ⟨_, rfl, ⟨s7, g7, m7, rfl, Nat.le_trans HRL.out.2 HN7.out, ?_, HL7.out⟩, ?_⟩
  · have := HN7.out; have := HRL.out.1
    exact (Z7.out.set _ _ _ (by omega)).set _ _ _ (by omega)
  · exact bSet (bSet hbw _ _ _ HGr.out) _ _ _ HGr.out
theorem rsz (b : Nat) (w : World) : Calls Try.prog 10 #[U b] w fun e w' => e = .returned (U (b % 9223372036854775808)) ∧ w' = w := by
  go_enter Try.func10, Try.ntmps10
  go_wp2_with fail
  go_ret
  exact ⟨congrArg (fun z => Ending.returned (.int .u64 z)) (by omega), rfl⟩
theorem rfin (b : Nat) (w : World) : Calls Try.prog 16 #[U b] w fun e w' => e = .returned (.bool (decide (b % 9223372036854775808 < 9218868437227405312))) ∧ w' = w := by
  go_enter Try.func16, Try.ntmps16
  go_wp2_with fail
  refine (rsz b _).mono ?_
  rintro e w' ⟨rfl, rfl⟩
  go_wp2_with fail
  go_ret
  exact ⟨congrArg (fun z => Ending.returned (.bool z)) (decide_eq_decide.2 (by omega)), rfl⟩
theorem rpow19 (k : Nat) (e : Int) (he : e = (k : Int) - 1023) (hk : k ≤ 2046) (w : World) : Calls Try.prog 11 #[.int .i64 e] w fun e w' => e = .returned (U (k * 4503599627370496)) ∧ w' = w := by
  go_enter Try.func11, Try.ntmps11
  have h1 : wrap64 (e + 1023) = (k : Int) := by rw [he]; simp only [wrap64]; omega
  have h2 : IntKind.i64.wrap (e + 1023) = (k : Int) := by rw [he]; simp [IntKind.wrap, IntKind.signed, IntKind.bits]; omega
  have h3 : IntKind.u64.wrap (k : Int) = (k : Int) := by rw [IntKind.wrap_u64]; omega
  have h4 : IntKind.u64.wrap ((k : Int) * 4503599627370496) = ((k * 4503599627370496 : Nat) : Int) := by rw [IntKind.wrap_u64]; omega
  clear he
  go_wp2_with fail
  go_ret
  exact ⟨congrArg (fun z => Ending.returned (.int .u64 z)) (by omega), rfl⟩
theorem ratmost (b k : Nat) (e : Int) (he : e = (k : Int) - 1023) (hk : k ≤ 2046) (w : World) : Calls Try.prog 9 #[U b, .int .i64 e] w fun e w' => e = .returned (.bool (decide (b % 9223372036854775808 ≤ k * 4503599627370496))) ∧ w' = w := by
  have HE : Hid (e = (k : Int) - 1023) := he
  clear he
  go_enter Try.func9, Try.ntmps9
  go_wp2_with fail
  refine (rsz b _).mono ?_
  rintro e' w' ⟨rfl, rfl⟩
  go_wp2_with fail
  refine (rpow19 k e HE.out hk _).mono ?_
  rintro e' w' ⟨rfl, rfl⟩
  go_wp2_with fail
  go_ret
  exact ⟨congrArg (fun z => Ending.returned (.bool z)) (decide_eq_decide.2 (by omega)), rfl⟩
theorem rdouble (w : World) :
    Calls Try.prog 31 #[] w fun en w' => en = .returned (FV 9223372036854775808 53 (-1074) 971 9218868437227405312 9221120237041090561) ∧ Below w.heap.size w w' := by
  go_enter Try.func31, Try.ntmps31
  go_wp2_with fail
  obtain ⟨W0, hW0⟩ : ∃ W0, W0 = (w.alloc (.cells #[.int .u64 0, .int .i64 0, .int .i64 0, .int .i64 0, .int .u64 0, .int .u64 0] 55)) := ⟨_, rfl⟩
  have Xr : Hid (B6q W0 (w.heap.size) (.int .u64 0) (.int .i64 0) (.int .i64 0) (.int .i64 0) (.int .u64 0) (.int .u64 0)) := by rw [hW0]; exact ⟨by go_simp, by go_simp, by go_simp, by go_simp, by go_simp, by go_simp, by go_simp, by go_simp, by go_simp, by go_simp, by go_simp, by go_simp⟩
  have hb0 : Below w.heap.size w W0 := by rw [hW0]; exact below1 w _
  rw [← hW0]
  clear hW0
  have hbw : Below w.heap.size w w := Below.refl _ _
  obtain ⟨gr, hgr⟩ : ∃ g, g = w.heap.size := ⟨_, rfl⟩
  have HGr : Hid (w.heap.size ≤ gr) := by rw [hgr]; show _ ≤ _; omega
  rw [← hgr] at Xr
  try rw [← hgr]
  clear hgr
  replace hbw := Below.on hbw hb0
  clear hb0
  refine (rof_64 _).mono ?_
  rintro e v1 ⟨rfl, hb1⟩
  replace Xr : Hid _ := Xr.out.below hb1
  replace hbw := Below.on hbw hb1
  clear hb1
  obtain ⟨cr0, cr1, cr2, cr3, cr4, cr5, fr0, fr1, fr2, fr3, fr4, fr5⟩ := Xr.out
  have hner : gr < v1.heap.size := World.block_lt_of_cell? v1 _ cr0
  go_wp2_with fail
  obtain ⟨V, hV⟩ : ∃ V, V = ((((((v1.setCell ⟨gr, 0, none⟩ (.int .u64 9223372036854775808)).setCell ⟨gr, 1, none⟩ (.int .i64 53)).setCell ⟨gr, 2, none⟩ (.int .i64 (-1074))).setCell ⟨gr, 3, none⟩ (.int .i64 971)).setCell ⟨gr, 4, none⟩ (.int .u64 9218868437227405312)).setCell ⟨gr, 5, none⟩ (.int .u64 9221120237041090561)) := ⟨_, rfl⟩
  have Y : B6q V gr (U 9223372036854775808) (.int .i64 53) (.int .i64 (-1074)) (.int .i64 971) (U 9218868437227405312) (U 9221120237041090561) := by rw [hV]; exact ⟨by go_simp, by go_simp, by go_simp, by go_simp, by go_simp, by go_simp, by go_simp, by go_simp, by go_simp, by go_simp, by go_simp, by go_simp⟩
  have hbV : Below w.heap.size w V := by rw [hV]; exact bSet (bSet (bSet (bSet (bSet (bSet hbw _ _ _ HGr.out) _ _ _ HGr.out) _ _ _ HGr.out) _ _ _ HGr.out) _ _ _ HGr.out) _ _ _ HGr.out
  rw [← hV]
  clear hV cr0 fr0 cr1 fr1 cr2 fr2 cr3 fr3 cr4 fr4 cr5 fr5 hner hbw Xr
  have hb2 := below1 V (.cells #[.int .u64 9223372036854775808, .int .i64 53, .int .i64 (-1074), .int .i64 971, .int .u64 9218868437227405312, .int .u64 9221120237041090561] 55)
  have Y2 := Y.below hb2
  have hb3 := Below.on hbV hb2
  generalize V.alloc (.cells #[.int .u64 9223372036854775808, .int .i64 53, .int .i64 (-1074), .int .i64 971, .int .u64 9218868437227405312, .int .u64 9221120237041090561] 55) = V2 at *
  obtain ⟨y0, y1, y2, y3, y4, y5, y6, y7, y8, y9, y10, y11⟩ := Y2
  refine bodyPost_ret (v := FV 9223372036854775808 53 (-1074) 971 9218868437227405312 9221120237041090561) (by rw [results_cell1 rfl]; go_simp) rfl ⟨rfl, hb3⟩
theorem runits {b : Nat} (w : World) :
    Calls Try.prog 13 #[U b] w fun en w' => ∃ v, en = .returned v ∧ GotR w.heap.size w' v (ux b) 2200 ∧ Below w.heap.size w w' := by
  go_enter Try.func13, Try.ntmps13
  go_wp2_with fail
  obtain ⟨W0, hW0⟩ : ∃ W0, W0 = (w.alloc (.cells #[.bool false, .slice none 0 0] 35)) := ⟨_, rfl⟩
  have Xr : Hid (Box W0 (w.heap.size) (.bool false) (.slice none 0 0)) := by rw [hW0]; exact ⟨by go_simp, by go_simp, by go_simp, by go_simp⟩
  have hb0 : Below w.heap.size w W0 := by rw [hW0]; exact below1 w _
  rw [← hW0]
  clear hW0
  have hbw : Below w.heap.size w w := Below.refl _ _
  obtain ⟨gr, hgr⟩ : ∃ g, g = w.heap.size := ⟨_, rfl⟩
  have HGr : Hid (w.heap.size ≤ gr) := by rw [hgr]; show _ ≤ _; omega
  rw [← hgr] at Xr
  try rw [← hgr]
  clear hgr
  replace hbw := Below.on hbw hb0
  clear hb0
  refine (rdouble _).mono ?_
  rintro e v1 ⟨rfl, hb1⟩
  replace Xr : Hid _ := Xr.out.below hb1
  replace hbw := Below.on hbw hb1
  clear hb1
  go_wp2_with fail
  have HRB : Hid (gr < v1.heap.size ∧ w.heap.size ≤ v1.heap.size) := ⟨Xr.out.lt, hbw.size⟩
  refine (rwhole_64 _).mono ?_
  rintro e v2 ⟨v, rfl, hv, hb2⟩
  obtain ⟨s2, g2, m2, rfl, hg2, hz2, hl2⟩ := hv
  have HN2 : Hid (v1.heap.size ≤ g2) := hg2
  have HB2 : Hid (v1.heap.size ≤ v2.heap.size) := hb2.size
  replace Xr : Hid _ := Xr.out.below hb2
  replace hbw := Below.on hbw hb2
  clear hb2
  have Z2 : Hid (ZR v2 s2 (some ⟨g2, 0, none⟩) m2 (ux b)) := hz2
  have HL2 : Hid (m2 ≤ 2200) := hl2
  clear hz2 hl2 hg2
  obtain ⟨cr0, cr1, fr0, fr1⟩ := Xr.out
  have hner := Xr.out.lt
  go_wp2_with fail
  refine bodyPost_ret (v := .agg #[.bool s2, .slice (some ⟨g2, 0, none⟩) m2 m2]) (by rw [results_cell1 rfl]; go_simp) rfl ⟨_, rfl, ⟨s2, g2, m2, rfl, Nat.le_trans HRB.out.2 HN2.out, ?_, HL2.out⟩, ?_⟩
  · have := HN2.out; have := HRB.out.1
    exact (Z2.out.set _ _ _ (by omega)).set _ _ _ (by omega)
  · exact bSet (bSet hbw _ _ _ HGr.out) _ _ _ HGr.out
end Go.Proofs.Ytpnpdngfjgdgfab
namespace Go.Proofs.Ytpnpdngfjgdgfab
open Go.RowKit
set_option maxRecDepth 20000
set_option maxHeartbeats 0
theorem FlR.add {x y r : Nat} (h : FlR .add x y r) (hx : Fin64 x) (hy : Fin64 y) (hm : (ux x + ux y).natAbs ≤ MaxU) : Sm64 (ux x + ux y) r := by
  obtain ⟨v, h1, h2⟩ := fl_add_fin hx hy hm
  rw [h.some v h1]; exact h2
theorem FlR.sub {x y r : Nat} (h : FlR .sub x y r) (hx : Fin64 x) (hy : Fin64 y) (hm : (ux x - ux y).natAbs ≤ MaxU) : Sm64 (ux x - ux y) r := by
  obtain ⟨v, h1, h2⟩ := fl_sub_fin hx hy hm
  rw [h.some v h1]; exact h2
theorem ux_abs (b : Nat) : (ux b).natAbs = vs 4503599627370496 (b % 9223372036854775808) := by
  rw [ux_eq]; split <;> omega
theorem vs_le4 {s t : Nat} (h : s ≤ t) : vs 4503599627370496 s ≤ vs 4503599627370496 t := by
  rcases Nat.lt_or_eq_of_le h with h1 | h1
  · exact Nat.le_of_lt (vs_mono (by omega) h1)
  · rw [h1]; exact Nat.le_refl _
theorem ux_pow {b K : Nat} (h : b % 9223372036854775808 ≤ (K + 1) * 4503599627370496) : (ux b).natAbs ≤ 2 ^ (52 + K) := by
  rw [ux_abs]
  refine Nat.le_trans (vs_le4 h) (Nat.le_of_eq ?_)
  have := vs_at K 4503599627370496 (.inr (Nat.le_refl _)) (by omega)
  rw [show (K + 1) * 4503599627370496 = K * 4503599627370496 + 4503599627370496 by omega, this, Nat.pow_add, show (2 : Nat) ^ 52 = 4503599627370496 by decide]
theorem Rn.bound {p : Nat} {x s : Int} {K : Nat} (h : Rn p x s) (hx : x.natAbs ≤ 2 ^ K) : s.natAbs ≤ 2 ^ K := by
  have h1 := h.hi (Fl.pow p K) (by omega)
  have h2 := h.neg.hi (Fl.pow p K) (by omega)
  omega
theorem Rn.near1 {x s : Int} {M : Nat} (h : Rn 53 x s) (hs : s.natAbs ≤ 4 * M) : (x - s).natAbs ≤ M := by
  have h1 := h.little (by omega)
  rw [show (2 : Nat) ^ 53 = 9007199254740992 by decide] at h1
  omega
theorem max_big {K M : Nat} (hK : K = 2044) (h : M = 2 ^ (52 + K)) : 3 * M ≤ MaxU ∧ 2 ^ (53 + K) = 2 * M := by
  have h1 : 2 ^ (52 + K) = 2251799813685248 * 2 ^ (K + 1) := by
    rw [show (2251799813685248 : Nat) = 2 ^ 51 by decide, ← Nat.pow_add]
    congr 1
    omega
  have h2 : 2 ^ (53 + K) = 2 * 2 ^ (52 + K) := by rw [show 53 + K = 52 + K + 1 by omega, p2succ]
  refine ⟨?_, by rw [h2, h]⟩
  rw [MaxU_eq (show K + 1 = 2045 by omega), h, h1]
  generalize 2 ^ (K + 1) = z
  omega
theorem pow1022 {a K : Nat} (hK : K = 2044) (h : a % 9223372036854775808 ≤ 9209861237972664320) : (ux a).natAbs ≤ 2 ^ (52 + K) := ux_pow (by omega)
theorem TSR.ok {a b s r : Nat} (h : TSR a b s r) (ha : a < 18446744073709551616) (hb : b < 18446744073709551616) (ka : a % 9223372036854775808 ≤ 9209861237972664320) (kb : b % 9223372036854775808 ≤ 9209861237972664320) :
    Sm64 (ux a + ux b) s ∧ Fin64 r ∧ ux s + ux r = ux a + ux b := by
  obtain ⟨ob, oa, da, db, F1, F2, F3, F4, F5, F6⟩ := h
  have fa : Fin64 a := ⟨ha, by omega⟩
  have fb : Fin64 b := ⟨hb, by omega⟩
  obtain ⟨K, hK⟩ : ∃ K, K = 2044 := ⟨_, rfl⟩
  have ma := pow1022 hK ka
  have mb := pow1022 hK kb
  obtain ⟨M, hM⟩ : ∃ M, M = 2 ^ (52 + K) := ⟨_, rfl⟩
  obtain ⟨m3, m2⟩ := max_big hK hM
  rw [← hM] at ma mb
  have S1 := F1.add fa fb (by omega)
  have bs := S1.rn.bound (K := 53 + K) (by rw [m2]; omega)
  rw [m2] at bs
  have e1 := S1.rn.near1 (M := M) (by omega)
  have S2 := F2.sub S1.fin fa (by omega)
  have bb := S2.rn.bound (K := 53 + K) (by rw [m2]; omega)
  rw [m2] at bb
  have e2 := S2.rn.near1 (M := M) (by omega)
  have S3 := F3.sub S1.fin S2.fin (by omega)
  have ba := S3.rn.bound (K := 53 + K) (by rw [m2]; omega)
  rw [m2] at ba
  have S4 := F4.sub fa S3.fin (by omega)
  have S5 := F5.sub fb S2.fin (by omega)
  have hd := two_sum_a (by omega) fa.fl fb.fl S1.rn S2.rn S3.rn S4.rn S5.rn
  have S6 := F6.add S4.fin S5.fin (by omega)
  exact ⟨S1, S6.fin, two_sum (by omega) fa.fl fb.fl S1.rn S2.rn S3.rn S4.rn S5.rn S6.rn⟩
theorem FSR.ok {a b s r : Nat} (h : FSR a b s r) (ha : a < 18446744073709551616) (hb : b < 18446744073709551616) (ka : a % 9223372036854775808 ≤ 9209861237972664320) (kb : b % 9223372036854775808 ≤ 9209861237972664320) (hab : a % 9223372036854775808 = 0 ∨ b % 9223372036854775808 ≤ a % 9223372036854775808) :
    Sm64 (ux a + ux b) s ∧ Fin64 r ∧ ux s + ux r = ux a + ux b := by
  obtain ⟨t, F1, F2, F3⟩ := h
  have fa : Fin64 a := ⟨ha, by omega⟩
  have fb : Fin64 b := ⟨hb, by omega⟩
  obtain ⟨K, hK⟩ : ∃ K, K = 2044 := ⟨_, rfl⟩
  have ma := pow1022 hK ka
  have mb := pow1022 hK kb
  have hab : ux a = 0 ∨ (ux b).natAbs ≤ (ux a).natAbs := by
    rcases hab with h | h
    · refine .inl ?_
      have := ux_abs a
      rw [h, vs_zero] at this
      omega
    · refine .inr ?_
      rw [ux_abs, ux_abs]; exact vs_le4 h
  obtain ⟨M, hM⟩ : ∃ M, M = 2 ^ (52 + K) := ⟨_, rfl⟩
  obtain ⟨m3, m2⟩ := max_big hK hM
  rw [← hM] at ma mb
  have S1 := F1.add fa fb (by omega)
  have bs := S1.rn.bound (K := 53 + K) (by rw [m2]; omega)
  rw [m2] at bs
  have e1 := S1.rn.near1 (M := M) (by omega)
  have S2 := F2.sub S1.fin fa (by omega)
  have bb := S2.rn.bound (K := 53 + K) (by rw [m2]; omega)
  rw [m2] at bb
  have S3 := F3.sub fb S2.fin (by omega)
  exact ⟨S1, S3.fin, fast_sum (by omega) fa.fl fb.fl hab S1.rn S2.rn S3.rn⟩
theorem Rn.self {p : Nat} {x : Int} (h : Fl p x) : Rn p x x := ⟨h, fun z _ => by rw [Int.sub_self]; exact Nat.zero_le _⟩
theorem mul_dvd2 {L t : Nat} {s : Int} (h : ((2 ^ L : Nat) : Int) ∣ s) : ((2 ^ (L + t) : Nat) : Int) ∣ s * ((2 ^ t : Nat) : Int) := by
  rw [Nat.pow_add, Int.natCast_mul]; exact Int.mul_dvd_mul h (Int.dvd_refl _)
theorem abs_mul2 (x : Int) (t : Nat) : (x * ((2 ^ t : Nat) : Int)).natAbs = x.natAbs * 2 ^ t := by rw [Int.natAbs_mul, Int.natAbs_natCast]
theorem Fl.scale {p : Nat} {x : Int} (h : Fl p x) (t : Nat) : Fl p (x * ((2 ^ t : Nat) : Int)) := by
  obtain ⟨q, h1, h2⟩ := h
  exact ⟨q + t, mul_dvd2 h1, by rw [abs_mul2, ← Nat.add_assoc, Nat.pow_add]; exact Nat.mul_le_mul_right _ h2⟩
theorem Rn.scale {p : Nat} {x s : Int} (hp : 1 ≤ p) (h : Rn p x s) (t : Nat) : Rn p (x * ((2 ^ t : Nat) : Int)) (s * ((2 ^ t : Nat) : Int)) := by
  obtain ⟨m, m1, m2⟩ := place hp x
  have he := h.err (m := m) (Nat.le_of_lt m1)
  by_cases hm0 : m = 0
  · subst hm0
    have e1 : s = x := by simp at he; omega
    rw [e1]
    rw [e1] at h
    exact Rn.self (h.fl.scale t)
  have m2 : 2 ^ (p - 1 + m) ≤ x.natAbs := by rcases m2 with h | h; exact absurd h hm0; exact h
  have hs := (h.dvd hp m2).1
  have hb : s.natAbs ≤ 2 ^ (p + m) := by
    have h1 := h.hi (Fl.pow p (p + m)) (by omega)
    have h2 := h.neg.hi (Fl.pow p (p + m)) (by omega)
    omega
  refine rn_mk (L := m + t) hp (mul_dvd2 hs) ?_ ?_ (.inr ?_)
  · rw [abs_mul2, ← Nat.add_assoc, Nat.pow_add]; exact Nat.mul_le_mul_right _ hb
  · rw [← Int.sub_mul, abs_mul2, ← Nat.mul_assoc, Nat.pow_add]; exact Nat.mul_le_mul_right _ he
  · rw [abs_mul2, ← Nat.add_assoc, Nat.pow_add]; exact Nat.mul_le_mul_right _ m2
theorem pw (k e : Nat) : 2 ^ (k + e) = 2 ^ k * 2 ^ e := Nat.pow_add ..
theorem veltkamp_p {a c d h l : Int} {e : Nat} (h0 : 0 < a) (h1 : 2 ^ (52 + e) ≤ a.natAbs) (h2 : a.natAbs < 2 ^ (53 + e)) (hf : Fl 53 a) (hc : Rn 53 (134217729 * a) c) (hd : Rn 53 (c - a) d) (hh : Rn 53 (c - d) h) (hl : Rn 53 (a - h) l) :
    ((2 ^ (27 + e) : Nat) : Int) ∣ h ∧ ((2 ^ e : Nat) : Int) ∣ a ∧ (a - h).natAbs ≤ 2 ^ (26 + e) ∧ h.natAbs ≤ 2 ^ (53 + e) ∧ l = a - h ∧ h = c - d ∧ 67108864 * (a - h).natAbs < a.natAbs := by
  have ha : ((2 ^ e : Nat) : Int) ∣ a := hf.dvd (by omega) h1
  have hp := p2pos e
  -- the powers, by the unit of a
  have q26 : 2 ^ (26 + e) = 67108864 * 2 ^ e := by rw [pw]
  have q27 : 2 ^ (27 + e) = 134217728 * 2 ^ e := by rw [pw]
  have q28 : 2 ^ (28 + e) = 268435456 * 2 ^ e := by rw [pw]
  have q52 : 2 ^ (52 + e) = 4503599627370496 * 2 ^ e := by rw [pw]
  have q53 : 2 ^ (53 + e) = 9007199254740992 * 2 ^ e := by rw [pw]
  have q79 : 2 ^ (79 + e) = 604462909807314587353088 * 2 ^ e := by rw [pw]
  have q80 : 2 ^ (80 + e) = 1208925819614629174706176 * 2 ^ e := by rw [pw]
  have q81 : 2 ^ (81 + e) = 2417851639229258349412352 * 2 ^ e := by rw [pw]
  have hup : a.natAbs + 2 ^ e ≤ 2 ^ (53 + e) := le_of_dvd2 (dvd_abs ha) (Nat.pow_dvd_pow 2 (by omega)) h2
  have hlo : a.natAbs = 2 ^ (52 + e) ∨ 2 ^ (52 + e) + 2 ^ e ≤ a.natAbs := by
    rcases Nat.lt_or_ge (2 ^ (52 + e)) a.natAbs with h | h
    · exact .inr (le_of_dvd2 (Nat.pow_dvd_pow 2 (by omega)) (dvd_abs ha) h)
    · exact .inl (by omega)
  have hc1 := hc.err (m := 28 + e) (by rw [show 53 + (28 + e) = 81 + e by omega]; omega)
  have hc2 : (134217729 * a).natAbs < 2 ^ (80 + e) → 2 * (c - 134217729 * a).natAbs ≤ 2 ^ (27 + e) := fun h => hc.err (m := 27 + e) (by rw [show 53 + (27 + e) = 80 + e by omega]; omega)
  have hc3 := (hc.dvd (by omega) (m := 27 + e) (by rw [show 53 - 1 + (27 + e) = 79 + e by omega]; omega)).1
  rcases hlo with hA | hB
  · -- a power of two
    have ea : a = ((2 ^ (52 + e) : Nat) : Int) := by omega
    have e1 : c = 134217729 * a := by
      refine hc.ex ⟨52 + e, ⟨134217729, by rw [← ea, Int.mul_comm]⟩, ?_⟩
      rw [Int.natAbs_mul, show (134217729 : Int).natAbs = 134217729 from rfl, pw 53 (52 + e), ← hA]
      exact Nat.mul_le_mul_right _ (by decide)
    have e2 : d = c - a := by
      refine hd.ex ?_
      rw [show c - a = ((2 ^ (79 + e) : Nat) : Int) by omega]
      exact Fl.pow 53 _
    have e3 : h = c - d := by
      refine hh.ex ?_
      rw [show c - d = a by omega]; exact hf
    have e4 : h = a := by omega
    have e5 : l = a - h := by
      refine hl.ex ?_
      rw [e4, Int.sub_self]; exact Fl.zero 53
    refine ⟨?_, ha, by rw [e4, Int.sub_self]; exact Nat.zero_le _, by rw [e4]; omega, e5, e3, by rw [e4, Int.sub_self]; simp; omega⟩
    rw [e4, ea]; exact p2dvd (by omega)
  · have hca : 2 ^ (79 + e) ≤ (c - a).natAbs ∧ (c - a).natAbs ≤ 2 ^ (80 + e) ∧ 0 < c - a := by
      by_cases h3 : (134217729 * a).natAbs < 2 ^ (80 + e)
      · have := hc2 h3
        omega
      · omega
    have hd1 := hd.err (m := 27 + e) (by rw [show 53 + (27 + e) = 80 + e by omega]; omega)
    have hd2 := (hd.dvd (by omega) (m := 27 + e) (by rw [show 53 - 1 + (27 + e) = 79 + e by omega]; omega)).1
    have hcd : ((2 ^ (27 + e) : Nat) : Int) ∣ c - d := Int.dvd_sub hc3 hd2
    have hb : (c - d).natAbs ≤ 2 ^ (53 + e) := Nat.le_of_not_lt fun h3 => by
      have := le_of_dvd2 (Nat.pow_dvd_pow 2 (show 27 + e ≤ 53 + e by omega)) (dvd_abs hcd) h3
      omega
    have e3 : h = c - d := hh.ex ⟨27 + e, hcd, by rw [show 53 + (27 + e) = 80 + e by omega]; omega⟩
    have hdv : ((2 ^ e : Nat) : Int) ∣ a - h := by
      rw [e3]; exact Int.dvd_sub ha (Int.dvd_trans (p2dvd (by omega)) hcd)
    have e5 : l = a - h := hl.ex ⟨e, hdv, by omega⟩
    exact ⟨by rw [e3]; exact hcd, ha, by omega, by omega, e5, e3, by omega⟩
theorem veltkamp {a c d h l : Int} {e : Nat} (h1 : 2 ^ (52 + e) ≤ a.natAbs) (h2 : a.natAbs < 2 ^ (53 + e)) (hf : Fl 53 a) (hc : Rn 53 (134217729 * a) c) (hd : Rn 53 (c - a) d) (hh : Rn 53 (c - d) h) (hl : Rn 53 (a - h) l) :
    ((2 ^ (27 + e) : Nat) : Int) ∣ h ∧ ((2 ^ e : Nat) : Int) ∣ a ∧ (a - h).natAbs ≤ 2 ^ (26 + e) ∧ h.natAbs ≤ 2 ^ (53 + e) ∧ l = a - h ∧ h = c - d ∧ 67108864 * (a - h).natAbs < a.natAbs := by
  rcases Int.lt_trichotomy a 0 with h0 | h0 | h0
  · have := veltkamp_p (a := -a) (c := -c) (d := -d) (h := -h) (l := -l) (e := e) (by omega) (by omega) (by omega) hf.neg
      (by rw [Int.mul_neg]; exact hc.neg) (by rw [show -c - -a = -(c - a) by omega]; exact hd.neg) (by rw [show -c - -d = -(c - d) by omega]; exact hh.neg) (by rw [show -a - -h = -(a - h) by omega]; exact hl.neg)
    obtain ⟨k1, k2, k3, k4, k5, k6, k7⟩ := this
    exact ⟨Int.dvd_neg.1 k1, Int.dvd_neg.1 k2, by omega, by omega, by omega, by omega, by omega⟩
  · subst h0
    have := p2pos (52 + e)
    rw [Int.natAbs_zero] at h1
    omega
  · exact veltkamp_p h0 h1 h2 hf hc hd hh hl
theorem dekker {a b ah al bh bl p e1 e2 e3 e4 : Int} {i j : Nat} (a1 : 2 ^ (52 + i) ≤ a.natAbs) (a2 : a.natAbs < 2 ^ (53 + i)) (b1 : 2 ^ (52 + j) ≤ b.natAbs) (b2 : b.natAbs < 2 ^ (53 + j))
    (ea : al = a - ah) (eb : bl = b - bh) (da : ((2 ^ i : Nat) : Int) ∣ a) (db : ((2 ^ j : Nat) : Int) ∣ b) (dah : ((2 ^ (27 + i) : Nat) : Int) ∣ ah) (dbh : ((2 ^ (27 + j) : Nat) : Int) ∣ bh)
    (lal : al.natAbs ≤ 2 ^ (26 + i)) (lbl : bl.natAbs ≤ 2 ^ (26 + j)) (lah : ah.natAbs ≤ 2 ^ (53 + i)) (lbh : bh.natAbs ≤ 2 ^ (53 + j))
    (hp : Rn 53 (a * b) p) (h1 : Rn 53 (ah * bh - p) e1) (h2 : Rn 53 (e1 + ah * bl) e2) (h3 : Rn 53 (e2 + al * bh) e3) (h4 : Rn 53 (e3 + al * bl) e4) :
    p + e4 = a * b ∧ e1 = ah * bh - p ∧ e2 = e1 + ah * bl ∧ e3 = e2 + al * bh ∧ Fl 53 (ah * bh) ∧ Fl 53 (ah * bl) ∧ Fl 53 (al * bh) ∧ Fl 53 (al * bl) := by
  have dvd_mul : ∀ {x y : Int} {m n : Nat}, ((2 ^ m : Nat) : Int) ∣ x → ((2 ^ n : Nat) : Int) ∣ y → ((2 ^ (m + n) : Nat) : Int) ∣ x * y := fun hx hy => by
    rw [Nat.pow_add, Int.natCast_mul]; exact Int.mul_dvd_mul hx hy
  have le_mul : ∀ {x y : Int} {m n : Nat}, x.natAbs ≤ 2 ^ m → y.natAbs ≤ 2 ^ n → (x * y).natAbs ≤ 2 ^ (m + n) := fun hx hy => by
    rw [Int.natAbs_mul, Nat.pow_add]; exact Nat.mul_le_mul hx hy
  have dal : ((2 ^ i : Nat) : Int) ∣ al := by rw [ea]; exact Int.dvd_sub da (Int.dvd_trans (p2dvd (by omega)) dah)
  have dbl : ((2 ^ j : Nat) : Int) ∣ bl := by rw [eb]; exact Int.dvd_sub db (Int.dvd_trans (p2dvd (by omega)) dbh)
  obtain ⟨E, hE⟩ : ∃ E, E = i + j := ⟨_, rfl⟩
  have x1d := dvd_mul dah dbh
  have x2d := dvd_mul dah dbl
  have x3d := dvd_mul dal dbh
  have x4d := dvd_mul dal dbl
  have x1l := le_mul lah lbh
  have x2l := le_mul lah lbl
  have x3l := le_mul lal lbh
  have x4l := le_mul lal lbl
  have abl := le_mul (Nat.le_of_lt a2) (Nat.le_of_lt b2)
  have abg : 2 ^ (104 + E) ≤ (a * b).natAbs := by
    rw [Int.natAbs_mul, show 104 + E = 52 + i + (52 + j) by omega, Nat.pow_add]; exact Nat.mul_le_mul a1 b1
  rw [show 27 + i + (27 + j) = 54 + E by omega] at x1d
  rw [show 27 + i + j = 27 + E by omega] at x2d
  rw [show i + (27 + j) = 27 + E by omega] at x3d
  rw [← hE] at x4d
  rw [show 53 + i + (53 + j) = 106 + E by omega] at x1l abl
  rw [show 53 + i + (26 + j) = 79 + E by omega] at x2l
  rw [show 26 + i + (53 + j) = 79 + E by omega] at x3l
  rw [show 26 + i + (26 + j) = 52 + E by omega] at x4l
  have hsum : a * b = ah * bh + ah * bl + al * bh + al * bl := by
    rw [show a = ah + al by omega, show b = bh + bl by omega, Int.add_mul, Int.mul_add, Int.mul_add]; omega
  have pe := hp.err (m := 53 + E) (by rw [show 53 + (53 + E) = 106 + E by omega]; exact abl)
  have pd := (hp.dvd (by omega) (m := 52 + E) (by rw [show 53 - 1 + (52 + E) = 104 + E by omega]; exact abg)).1
  have hq := p2pos E
  have q27 : 2 ^ (27 + E) = 134217728 * 2 ^ E := by rw [pw]
  have q52 : 2 ^ (52 + E) = 4503599627370496 * 2 ^ E := by rw [pw]
  have q53 : 2 ^ (53 + E) = 9007199254740992 * 2 ^ E := by rw [pw]
  have q79 : 2 ^ (79 + E) = 604462909807314587353088 * 2 ^ E := by rw [pw]
  have q80 : 2 ^ (80 + E) = 1208925819614629174706176 * 2 ^ E := by rw [pw]
  have q105 : 2 ^ (105 + E) = 40564819207303340847894502572032 * 2 ^ E := by rw [pw]
  have f1 : Fl 53 (ah * bh) := ⟨54 + E, x1d, by rw [show 53 + (54 + E) = 107 + E by omega]; exact Nat.le_trans x1l (p2le (by omega))⟩
  have f2 : Fl 53 (ah * bl) := ⟨27 + E, x2d, by rw [show 53 + (27 + E) = 80 + E by omega]; omega⟩
  have f3 : Fl 53 (al * bh) := ⟨27 + E, x3d, by rw [show 53 + (27 + E) = 80 + E by omega]; omega⟩
  have f4 : Fl 53 (al * bl) := ⟨E, x4d, by omega⟩
  generalize ah * bh = X1 at *
  generalize ah * bl = X2 at *
  generalize al * bh = X3 at *
  generalize al * bl = X4 at *
  generalize a * b = AB at *
  have g1 : e1 = X1 - p := h1.ex ⟨52 + E, Int.dvd_sub (Int.dvd_trans (p2dvd (by omega)) x1d) pd, by rw [show 53 + (52 + E) = 105 + E by omega]; omega⟩
  have g2 : e2 = e1 + X2 := h2.ex ⟨27 + E, by rw [g1]; exact Int.dvd_add (Int.dvd_sub (Int.dvd_trans (p2dvd (by omega)) x1d) (Int.dvd_trans (p2dvd (by omega)) pd)) x2d, by rw [show 53 + (27 + E) = 80 + E by omega]; omega⟩
  have g3 : e3 = e2 + X3 := h3.ex ⟨27 + E, by rw [g2, g1]; exact Int.dvd_add (Int.dvd_add (Int.dvd_sub (Int.dvd_trans (p2dvd (by omega)) x1d) (Int.dvd_trans (p2dvd (by omega)) pd)) x2d) x3d, by rw [show 53 + (27 + E) = 80 + E by omega]; omega⟩
  have g4 : e4 = e3 + X4 := h4.ex ⟨E, by rw [g3, g2, g1]; exact Int.dvd_add (Int.dvd_add (Int.dvd_add (Int.dvd_sub (Int.dvd_trans (p2dvd (by omega)) x1d) (Int.dvd_trans (p2dvd (by omega)) pd)) (Int.dvd_trans (p2dvd (by omega)) x2d)) (Int.dvd_trans (p2dvd (by omega)) x3d)) x4d, by omega⟩
  exact ⟨by omega, g1, g2, g3, f1, f2, f3, f4⟩
theorem cut_all (neg : Bool) (n L : Nat) : Ieee.Toward.even.cut neg n L = rne n L := by
  rcases Nat.lt_or_ge (n.log2 + 2) L with h | h
  · have hu : n < 2 ^ (n.log2 + 1) := Nat.lt_log2_self
    have h1 : 2 ^ (n.log2 + 2) = 2 * 2 ^ (n.log2 + 1) := p2succ _
    have h2 : 2 ^ (n.log2 + 2) ≤ 2 ^ L := p2le (by omega)
    unfold Ieee.Toward.cut rne
    rw [Nat.min_eq_right (by omega), Nat.one_shiftLeft]
    dsimp only
    rw [Nat.div_eq_of_lt (show n < 2 ^ (n.log2 + 2) by omega), Nat.div_eq_of_lt (show n < 2 ^ L by omega), Nat.mod_eq_of_lt (show n < 2 ^ (n.log2 + 2) by omega), Nat.mod_eq_of_lt (show n < 2 ^ L by omega)]
    rw [decide_eq_false (show ¬ 2 ^ (n.log2 + 2) < 2 * n by omega), decide_eq_false (show ¬ 2 ^ L < 2 * n by omega), show (2 ^ (n.log2 + 2) == 2 * n) = false by simp; omega, show (2 ^ L == 2 * n) = false by simp; omega]
  · exact cut_eq neg n L h
def rgc (c n : Nat) : Nat := if n = 0 then 0 else min ((max (n.log2 - 52) c - c) * 4503599627370496 + rne n (max (n.log2 - 52) c)) 9218868437227405312
theorem nearest_rgc (neg : Bool) (mag c d : Nat) : Ieee.double.nearest neg mag (-1074 - (c : Int) + (d : Int)) = Ieee.double.word neg (rgc c (mag * 2 ^ d)) := by
  have e1 : Ieee.double.leastPlace = -1074 := by decide
  have e2 : Ieee.double.binade = 4503599627370496 := by decide
  have e3 : Ieee.double.infRung = 9218868437227405312 := by decide
  have e4 : Ieee.double.fractionBits = 52 := by decide
  have hd : 0 < 2 ^ d := p2pos d
  unfold Ieee.Format.nearest rgc
  by_cases h0 : mag = 0
  · subst h0; simp
  · have hz : mag * 2 ^ d ≠ 0 := Nat.mul_ne_zero h0 (by omega)
    rw [if_neg h0, if_neg hz, e1, e2, e3, e4]
    have hl := log2_mul mag d h0
    obtain ⟨l, hle⟩ : ∃ l, l = mag.log2 := ⟨_, rfl⟩
    rw [← hle] at hl ⊢
    rw [hl]
    obtain ⟨L, hL⟩ : ∃ L, L = max (l + d - 52) c := ⟨_, rfl⟩
    rw [← hL]
    have e5 : max (-1074 - (c : Int) + (d : Int) + (l : Int) - ((52 : Nat) : Int)) (-1074) = -1074 - (c : Int) + (L : Int) := by omega
    dsimp only
    rw [e5]
    have e6 : (-1074 - (c : Int) + (L : Int) - -1074).toNat = L - c := by omega
    rw [e6]
    have e7 : (-1074 - (c : Int) + (d : Int) - (-1074 - (c : Int) + (L : Int))).toNat = d - L := by omega
    have e8 : (-1074 - (c : Int) + (L : Int) - (-1074 - (c : Int) + (d : Int))).toNat = L - d := by omega
    rw [e7, e8, Nat.shiftLeft_eq, cut_all]
    have e9 : rne (mag * 2 ^ (d - L)) (L - d) = rne (mag * 2 ^ d) L := by
      rcases Nat.le_total L d with h1 | h1
      · rw [show L - d = 0 by omega, rne_zero]
        have h2 := rne_mul (mag * 2 ^ (d - L)) 0 L
        rw [Nat.zero_add, rne_zero, Nat.mul_assoc, ← Nat.pow_add, show d - L + L = d by omega] at h2
        exact h2.symm
      · rw [show d - L = 0 by omega, Nat.pow_zero, Nat.mul_one]
        have h2 := rne_mul mag (L - d) d
        rw [show L - d + d = L by omega] at h2
        exact h2.symm
    rw [e9]
theorem rgc_int (c n : Nat) : rgc c (n * 2 ^ c) = rg 0 n := by
  have hd : 0 < 2 ^ c := p2pos c
  unfold rgc rg
  by_cases h0 : n = 0
  · subst h0; simp
  · have hz : n * 2 ^ c ≠ 0 := Nat.mul_ne_zero h0 (by omega)
    rw [if_neg h0, if_neg hz, log2_mul n c h0, show max (n.log2 + c - 52) c = n.log2 - 52 + c by omega, rne_mul, Nat.add_sub_cancel, Nat.sub_zero]
theorem fmul_any {a b : Nat} (ha : Fin64 a) (hb : Fin64 b) : floatBits .mul .f64 a b = some (Ieee.double.word (decide (9223372036854775808 ≤ a) ^^ decide (9223372036854775808 ≤ b)) (rgc 1074 ((ux a).natAbs * (ux b).natAbs))) := by
  obtain ⟨m, q, h1, h2⟩ := read_fin ha.lt ha.fin
  obtain ⟨n, t, h3, h4⟩ := read_fin hb.lt hb.fin
  rw [ux_abs, ux_abs, ← h2, ← h4]
  show ((Ieee.double.read a).product (Ieee.double.read b)).map Ieee.double.write = _
  rw [h1, h3]
  show some (Ieee.double.nearest _ (m * n) (-1074 + (q : Int) + (-1074 + (t : Int)))) = _
  have := nearest_rgc (decide (9223372036854775808 ≤ a) ^^ decide (9223372036854775808 ≤ b)) (m * n) 1074 (q + t)
  rw [show (-1074 : Int) - ((1074 : Nat) : Int) + ((q + t : Nat) : Int) = -1074 + (q : Int) + (-1074 + (t : Int)) by omega] at this
  rw [this, show m * n * 2 ^ (q + t) = m * 2 ^ q * (n * 2 ^ t) by rw [Nat.pow_add, ← Nat.mul_assoc, ← Nat.mul_assoc, Nat.mul_assoc m n, Nat.mul_comm n, ← Nat.mul_assoc]]
theorem ux_neg {b : Nat} (h : ux b ≠ 0) : decide (9223372036854775808 ≤ b) = decide (ux b < 0) := by
  refine decide_eq_decide.2 ?_
  have := ux_eq b
  by_cases h1 : 9223372036854775808 ≤ b
  · rw [if_pos h1] at this; omega
  · rw [if_neg h1] at this; omega
theorem mul_sign {a b : Nat} (h : ux a * ux b ≠ 0) : (decide (9223372036854775808 ≤ a) ^^ decide (9223372036854775808 ≤ b)) = decide (ux a * ux b < 0) := by
  have ha : ux a ≠ 0 := fun k => h (by rw [k, Int.zero_mul])
  have hb : ux b ≠ 0 := fun k => h (by rw [k, Int.mul_zero])
  rw [ux_neg ha, ux_neg hb]
  generalize ux a = x at *
  generalize ux b = y at *
  rcases Int.lt_or_gt_of_ne ha with h1 | h1 <;> rcases Int.lt_or_gt_of_ne hb with h2 | h2
  · have := Int.mul_pos_of_neg_of_neg h1 h2
    simp [h1, h2]; omega
  · have := Int.mul_neg_of_neg_of_pos h1 h2
    simp [h1, Int.not_lt.2 (Int.le_of_lt h2), this]
  · have := Int.mul_neg_of_pos_of_neg h1 h2
    simp [h2, Int.not_lt.2 (Int.le_of_lt h1), this]
  · have := Int.mul_pos h1 h2
    simp [Int.not_lt.2 (Int.le_of_lt h1), Int.not_lt.2 (Int.le_of_lt h2)]; omega
theorem FlR.mul {x y r : Nat} (h : FlR .mul x y r) (hx : Fin64 x) (hy : Fin64 y) {X : Int} {c : Nat} (hc : c = 1074) (hX : ux x * ux y = X * ((2 ^ c : Nat) : Int)) (hm : X.natAbs ≤ MaxU) : Sm64 X r := by
  have h1 := fmul_any hx hy
  rw [← Int.natAbs_mul, hX, Int.natAbs_mul, Int.natAbs_natCast, ← hc, rgc_int] at h1
  rw [h.some _ h1]
  refine sm_word hm fun h0 => ?_
  have hp : (0 : Int) < ((2 ^ c : Nat) : Int) := Int.ofNat_lt.2 (p2pos c)
  have h2 : ux x * ux y ≠ 0 := by rw [hX]; exact Int.mul_ne_zero h0 (by omega)
  rw [mul_sign h2, hX]
  refine decide_eq_decide.2 ⟨fun h3 => ?_, fun h3 => Int.mul_neg_of_neg_of_pos h3 hp⟩
  refine Int.lt_of_not_ge fun h4 => ?_
  have := Int.mul_nonneg h4 (Int.le_of_lt hp)
  omega
structure Pm64 (V : Int) (r : Nat) : Prop where
  fin : Fin64 r
  size : r % 9223372036854775808 = rg 1074 V.natAbs
  sign : V ≠ 0 → (9223372036854775808 ≤ r ↔ V < 0)
  rn : ∀ c, c = 1074 → Rn 53 V (ux r * ((2 ^ c : Nat) : Int))
theorem FlR.big {x y r : Nat} (h : FlR .mul x y r) (hx : Fin64 x) (hy : Fin64 y) (h1 : 1126 ≤ (ux x * ux y).natAbs.log2) (h2 : (ux x * ux y).natAbs.log2 ≤ 3169) : Pm64 (ux x * ux y) r := by
  have hr := fmul_any hx hy
  rw [← Int.natAbs_mul] at hr
  have hV0 : ux x * ux y ≠ 0 := fun h0 => by rw [h0] at h1; simp at h1
  rw [mul_sign hV0] at hr
  have hr := h.some _ hr
  generalize ux x * ux y = V at *
  obtain ⟨N, hN⟩ : ∃ N, N = V.natAbs := ⟨_, rfl⟩
  have hN0 : N ≠ 0 := by omega
  rw [← hN] at h1 h2 hr
  have hl : 2 ^ N.log2 ≤ N := Nat.log2_self_le hN0
  have hu : N < 2 ^ (N.log2 + 1) := Nat.lt_log2_self
  obtain ⟨L, hL⟩ : ∃ L, L = N.log2 - 52 := ⟨_, rfl⟩
  have hk1 : rne N L ≤ 9007199254740992 := by
    refine rne_le N L _ (Nat.le_of_lt (Nat.lt_of_lt_of_le hu ?_))
    rw [show 9007199254740992 = 2 ^ 53 by decide, ← Nat.pow_add]
    exact p2le (by omega)
  have hk2 : 4503599627370496 ≤ rne N L := by
    refine le_rne N L _ (Nat.le_trans ?_ hl)
    rw [show 4503599627370496 = 2 ^ 52 by decide, ← Nat.pow_add]
    exact p2le (by omega)
  have hg : rgc 1074 N = (L - 1074) * 4503599627370496 + rne N L := by
    unfold rgc
    rw [if_neg hN0, ← hL, Nat.max_eq_left (by omega), Nat.min_eq_left (by omega)]
  have hg2 : rg 1074 N = rgc 1074 N := by
    rw [hg]; unfold rg
    rw [if_neg hN0, ← hL, Nat.min_eq_left (by omega)]
  have hlt : rgc 1074 N < 9218868437227405312 := by rw [hg]; omega
  obtain ⟨wa, wb, wc⟩ := word_facts (decide (V < 0)) hlt
  rw [← hr] at wa wb wc
  refine ⟨⟨wa, by rw [wb]; exact hlt⟩, by rw [wb, ← hN, hg2], fun _ => ?_, fun c hc => ?_⟩
  · have e4 : Ieee.double.signWeight = 9223372036854775808 := by decide
    rw [hr]
    unfold Ieee.Format.word
    rw [e4]
    by_cases h2 : V < 0
    · simp [h2]
    · simp [h2]; omega
  · have hvs : vs 4503599627370496 (rgc 1074 N) * 2 ^ c = rne N L * 2 ^ L := by
      rw [hg, vs_at _ _ (.inr hk2) hk1, Nat.mul_assoc, ← Nat.pow_add, show L - 1074 + c = L by omega]
    have hR : Rn 53 (N : Int) ((rne N L * 2 ^ L : Nat) : Int) := by
      refine rn_mk (L := L) (by omega) ⟨rne N L, by rw [Int.natCast_mul, Int.mul_comm]⟩ ?_ (rne_err N L) (.inr ?_)
      · rw [Int.natAbs_natCast, Nat.pow_add]
        exact Nat.mul_le_mul_right _ hk1
      · rw [Int.natAbs_natCast]
        exact Nat.le_trans (p2le (by omega)) hl
    rw [wc]
    by_cases h3 : V < 0
    · rw [decide_eq_true h3, if_pos rfl, Int.neg_mul, ← Int.natCast_mul, hvs]
      have := hR.neg
      rw [hN, show -((V.natAbs : Nat) : Int) = V by omega, ← hN] at this
      exact this
    · rw [decide_eq_false h3]
      simp only [Bool.false_eq_true, if_false]
      rw [← Int.natCast_mul, hvs]
      rw [show (N : Int) = V by omega] at hR
      exact hR
theorem ux_split {c : Nat} (hc : c = 1074) : ux 4728779608772575232 = 134217729 * ((2 ^ c : Nat) : Int) := by
  have h1 : 4728779608772575232 / 4503599627370496 - 1 = c - 25 := by rw [hc]
  have h2 : 4728779608772575232 - (c - 25) * 4503599627370496 = 134217729 * 33554432 := by rw [hc]
  have h3 : 2 ^ c = 33554432 * 2 ^ (c - 25) := by
    rw [show (33554432 : Nat) = 2 ^ 25 by decide, ← Nat.pow_add]
    congr 1
    omega
  rw [ux_eq, if_neg (by decide)]
  unfold vs
  rw [show 4728779608772575232 % 9223372036854775808 = 4728779608772575232 by decide, h1, h2, h3, Nat.mul_assoc, Int.natCast_mul]
  rfl
theorem fin_split : Fin64 4728779608772575232 := ⟨by decide, by decide⟩
structure Hlv (a h l : Nat) (i : Nat) : Prop where
  lo : 2 ^ (52 + i) ≤ (ux a * ((2 ^ 53 : Nat) : Int)).natAbs
  hi : (ux a * ((2 ^ 53 : Nat) : Int)).natAbs < 2 ^ (53 + i)
  dh : ((2 ^ (27 + i) : Nat) : Int) ∣ ux h * ((2 ^ 53 : Nat) : Int)
  da : ((2 ^ i : Nat) : Int) ∣ ux a * ((2 ^ 53 : Nat) : Int)
  ll : (ux l * ((2 ^ 53 : Nat) : Int)).natAbs ≤ 2 ^ (26 + i)
  lh : (ux h * ((2 ^ 53 : Nat) : Int)).natAbs ≤ 2 ^ (53 + i)
  eq : ux l = ux a - ux h
  sm : 67108864 * (ux l).natAbs < (ux a).natAbs
theorem SPR.ok {a h l : Nat} (k : SPR a h l) (ha : a < 18446744073709551616) (ka : a % 9223372036854775808 ≤ 9088264048033660928) :
    Fin64 h ∧ Fin64 l ∧ ((ux a = 0 ∧ ux h = 0 ∧ ux l = 0) ∨ ∃ i, Hlv a h l i) := by
  obtain ⟨c, d, F1, F2, F3, F4⟩ := k
  have fa : Fin64 a := ⟨ha, by omega⟩
  obtain ⟨K, hK⟩ : ∃ K, K = 2044 := ⟨_, rfl⟩
  obtain ⟨J, hJ⟩ : ∃ J, J = 2017 := ⟨_, rfl⟩
  have ma : (ux a).natAbs ≤ 2 ^ (52 + J) := ux_pow (by omega)
  obtain ⟨M, hM⟩ : ∃ M, M = 2 ^ (52 + K) := ⟨_, rfl⟩
  obtain ⟨m3, m2⟩ := max_big hK hM
  have hMJ : M = 134217728 * 2 ^ (52 + J) := by
    rw [hM, show (134217728 : Nat) = 2 ^ 27 by decide, ← Nat.pow_add]
    congr 1
    omega
  have m4 : 2 ^ (54 + K) = 4 * M := by rw [show 54 + K = 53 + K + 1 by omega, p2succ, m2]; omega
  obtain ⟨q, hq⟩ : ∃ q, q = 1074 := ⟨_, rfl⟩
  have S1 := F1.mul fin_split fa (X := 134217729 * ux a) hq (by rw [ux_split hq, Int.mul_assoc, Int.mul_comm _ (ux a), ← Int.mul_assoc]) (by omega)
  have bc := S1.rn.bound (K := 53 + K) (by rw [m2]; omega)
  rw [m2] at bc
  have S2 := F2.sub S1.fin fa (by omega)
  have bd := S2.rn.bound (K := 54 + K) (by rw [m4]; omega)
  rw [m4] at bd
  have e2 := S2.rn.near1 (M := M) (by omega)
  have S3 := F3.sub S1.fin S2.fin (by omega)
  have bh := S3.rn.bound (K := 53 + K) (by rw [m2]; omega)
  rw [m2] at bh
  have S4 := F4.sub fa S3.fin (by omega)
  refine ⟨S3.fin, S4.fin, ?_⟩
  by_cases h0 : ux a = 0
  · have z1 := S1.rn
    rw [h0, Int.mul_zero] at z1
    have z1 := z1.ex (Fl.zero 53)
    have z2 := S2.rn
    rw [z1, h0, Int.sub_zero] at z2
    have z2 := z2.ex (Fl.zero 53)
    have z3 := S3.rn
    rw [z1, z2, Int.sub_zero] at z3
    have z3 := z3.ex (Fl.zero 53)
    have z4 := S4.rn
    rw [h0, z3, Int.sub_zero] at z4
    exact .inl ⟨h0, z3, z4.ex (Fl.zero 53)⟩
  · refine .inr ?_
    have hA : 2 ^ 53 ≤ (ux a * ((2 ^ 53 : Nat) : Int)).natAbs := by
      rw [abs_mul2]
      have := Nat.mul_le_mul_right (2 ^ 53) (show 1 ≤ (ux a).natAbs by omega)
      omega
    obtain ⟨i, i1, i2⟩ := place (show 1 ≤ 53 by omega) (ux a * ((2 ^ 53 : Nat) : Int))
    have i2 : 2 ^ (52 + i) ≤ (ux a * ((2 ^ 53 : Nat) : Int)).natAbs := by
      rcases i2 with h | h
      · subst h; exact Nat.le_trans (p2le (by omega)) hA
      · exact h
    have r1 := S1.rn.scale (by omega) 53
    have r2 := S2.rn.scale (by omega) 53
    have r3 := S3.rn.scale (by omega) 53
    have r4 := S4.rn.scale (by omega) 53
    rw [Int.mul_assoc] at r1
    rw [Int.sub_mul] at r2 r3 r4
    obtain ⟨v1, v2, v3, v4, v5, v6, v7⟩ := veltkamp i2 i1 (fa.fl.scale 53) r1 r2 r3 r4
    have e5 : ux l = ux a - ux h := by
      rw [← Int.sub_mul] at v5
      exact Int.eq_of_mul_eq_mul_right (by decide) v5
    refine ⟨i, i2, i1, v1, v2, by rw [v5]; exact v3, v4, e5, ?_⟩
    rw [← Int.sub_mul, abs_mul2, abs_mul2, ← Nat.mul_assoc] at v7
    rw [e5]
    exact Nat.lt_of_mul_lt_mul_right v7
theorem Fl.unscale {p : Nat} {x : Int} {t : Nat} (h : Fl p (x * ((2 ^ t : Nat) : Int))) : Fl p x := by
  obtain ⟨q, h1, h2⟩ := h
  have ht := p2pos t
  rw [abs_mul2] at h2
  rcases Nat.lt_or_ge q t with h3 | h3
  · refine Fl.small (Nat.le_of_mul_le_mul_right (Nat.le_trans h2 ?_) ht)
    rw [← Nat.pow_add]; exact p2le (by omega)
  · obtain ⟨r, rfl⟩ : ∃ r, q = r + t := ⟨q - t, by omega⟩
    refine ⟨r, ?_, ?_⟩
    · rw [Nat.pow_add, Int.natCast_mul] at h1
      exact Int.dvd_of_mul_dvd_mul_right (by omega) h1
    · refine Nat.le_of_mul_le_mul_right (c := 2 ^ t) ?_ ht
      rw [← Nat.pow_add, Nat.add_assoc]; exact h2
theorem dvd_mul2 {x y : Int} {m n : Nat} (hx : ((2 ^ m : Nat) : Int) ∣ x) (hy : ((2 ^ n : Nat) : Int) ∣ y) : ((2 ^ (m + n) : Nat) : Int) ∣ x * y := by
  rw [Nat.pow_add, Int.natCast_mul]; exact Int.mul_dvd_mul hx hy
theorem le_mul2 {x y : Int} {m n : Nat} (hx : x.natAbs ≤ 2 ^ m) (hy : y.natAbs ≤ 2 ^ n) : (x * y).natAbs ≤ 2 ^ (m + n) := by
  rw [Int.natAbs_mul, Nat.pow_add]; exact Nat.mul_le_mul hx hy
theorem half_prod {u v : Int} {m n k l c t : Nat} (hc : c = 1074) (ht : t = 1180) (du : ((2 ^ m : Nat) : Int) ∣ u * ((2 ^ 53 : Nat) : Int)) (dv : ((2 ^ n : Nat) : Int) ∣ v * ((2 ^ 53 : Nat) : Int)) (lu : (u * ((2 ^ 53 : Nat) : Int)).natAbs ≤ 2 ^ k) (lv : (v * ((2 ^ 53 : Nat) : Int)).natAbs ≤ 2 ^ l) (h1 : 1180 ≤ m + n) (h2 : k + l ≤ 53 + (m + n)) :
    ∃ X : Int, u * v = X * ((2 ^ c : Nat) : Int) ∧ Fl 53 X ∧ X * ((2 ^ t : Nat) : Int) = u * ((2 ^ 53 : Nat) : Int) * (v * ((2 ^ 53 : Nat) : Int)) := by
  have hm : u * ((2 ^ 53 : Nat) : Int) * (v * ((2 ^ 53 : Nat) : Int)) = u * v * ((2 ^ 106 : Nat) : Int) := by
    rw [show ((2 ^ 106 : Nat) : Int) = ((2 ^ 53 : Nat) : Int) * ((2 ^ 53 : Nat) : Int) from rfl, Int.mul_assoc, Int.mul_assoc, ← Int.mul_assoc _ v, Int.mul_comm _ v, Int.mul_assoc]
  have hd := dvd_mul2 du dv
  have hl := le_mul2 lu lv
  have hf : Fl 53 (u * ((2 ^ 53 : Nat) : Int) * (v * ((2 ^ 53 : Nat) : Int))) := ⟨m + n, hd, Nat.le_trans hl (p2le h2)⟩
  rw [hm] at hd hf
  have hd2 : ((2 ^ t : Nat) : Int) ∣ u * v * ((2 ^ 106 : Nat) : Int) := Int.dvd_trans (p2dvd (by omega)) hd
  have e1 : ((2 ^ t : Nat) : Int) = ((2 ^ c : Nat) : Int) * ((2 ^ 106 : Nat) : Int) := by rw [← Int.natCast_mul, ← Nat.pow_add, show c + 106 = t by omega]
  rw [e1] at hd2
  obtain ⟨X, hX0⟩ := Int.dvd_of_mul_dvd_mul_right (by decide) hd2
  have hX : u * v = X * ((2 ^ c : Nat) : Int) := by rw [hX0, Int.mul_comm]
  refine ⟨X, hX, ?_, ?_⟩
  · rw [hX, Int.mul_assoc, ← e1] at hf
    exact hf.unscale
  · rw [hm, hX, Int.mul_assoc, ← e1]
theorem Rn.near2 {x s : Int} {M : Nat} (h : Rn 53 x s) (hs : s.natAbs ≤ 32 * M) : (x - s).natAbs ≤ M := by
  have h1 := h.little (by omega)
  rw [show (2 : Nat) ^ 53 = 9007199254740992 by decide] at h1
  omega
theorem p2x4 (k : Nat) : 2 ^ (k + 2) = 4 * 2 ^ k := by rw [p2succ, p2succ]; omega
theorem p2x8 (k : Nat) : 2 ^ (k + 3) = 8 * 2 ^ k := by rw [p2succ, p2succ, p2succ]; omega
theorem p2x16 (k : Nat) : 2 ^ (k + 4) = 16 * 2 ^ k := by rw [p2succ, p2succ, p2succ, p2succ]; omega
theorem dek_small {x y a b : Int} {k l i j : Nat} (hx : x.natAbs ≤ 2 ^ k) (hy : y.natAbs ≤ 2 ^ l) (ha : 2 ^ (52 + i) ≤ a.natAbs) (hb : 2 ^ (52 + j) ≤ b.natAbs) (h : k + l + 2 ≤ 104 + (i + j)) : 4 * (x * y).natAbs ≤ (a * b).natAbs := by
  have h1 := le_mul2 hx hy
  have h2 : 2 ^ (104 + (i + j)) ≤ (a * b).natAbs := by
    rw [Int.natAbs_mul, show 104 + (i + j) = 52 + i + (52 + j) by omega, Nat.pow_add]; exact Nat.mul_le_mul ha hb
  have h3 : 4 * 2 ^ (k + l) ≤ 2 ^ (104 + (i + j)) := by
    rw [← p2x4]; exact p2le h
  omega
theorem TPR.ok {a b p e : Nat} (h : TPR a b p e) (ha : a < 18446744073709551616) (hb : b < 18446744073709551616) (ka : a % 9223372036854775808 ≤ 9088264048033660928) (kb : b % 9223372036854775808 ≤ 9088264048033660928)
    (hV : ux a * ux b = 0 ∨ ((∀ K, K = 1188 → 2 ^ K ≤ (ux a * ux b).natAbs) ∧ ∀ K, K = 3169 → (ux a * ux b).natAbs ≤ 2 ^ K)) :
    Fin64 p ∧ Fin64 e ∧ (∀ c, c = 1074 → (ux p + ux e) * ((2 ^ c : Nat) : Int) = ux a * ux b) ∧ (ux a * ux b = 0 → ux p = 0 ∧ ux e = 0) ∧ (ux a * ux b ≠ 0 → Pm64 (ux a * ux b) p) := by
  obtain ⟨ah, al, bh, bl, x1, e1, x2, e2, x3, e3, x4, F1, S1, S2, F2, F3, F4, F5, F6, F7, F8, F9⟩ := h
  have fa : Fin64 a := ⟨ha, by omega⟩
  have fb : Fin64 b := ⟨hb, by omega⟩
  obtain ⟨f1, f2, g1⟩ := S1.ok ha ka
  obtain ⟨f3, f4, g2⟩ := S2.ok hb kb
  obtain ⟨c, hc⟩ : ∃ c, c = 1074 := ⟨_, rfl⟩
  by_cases hV0 : ux a * ux b = 0
  · -- a nought among them
    have hz : ∀ {x y r : Nat}, FlR .mul x y r → Fin64 x → Fin64 y → ux x * ux y = 0 → Fin64 r ∧ ux r = 0 := fun F hx hy h0 => by
      have S := F.mul hx hy (X := 0) hc (by rw [h0, Int.zero_mul]) (by simp)
      exact ⟨S.fin, S.rn.ex (Fl.zero 53)⟩
    have hs : ∀ {x y r : Nat}, FlR .add x y r → Fin64 x → Fin64 y → ux x = 0 → ux y = 0 → Fin64 r ∧ ux r = 0 := fun F hx hy h0 h1 => by
      have S := F.add hx hy (by rw [h0, h1]; simp)
      have R := S.rn
      rw [h0, h1, Int.add_zero] at R
      exact ⟨S.fin, R.ex (Fl.zero 53)⟩
    have hd : ∀ {x y r : Nat}, FlR .sub x y r → Fin64 x → Fin64 y → ux x = 0 → ux y = 0 → Fin64 r ∧ ux r = 0 := fun F hx hy h0 h1 => by
      have S := F.sub hx hy (by rw [h0, h1]; simp)
      have R := S.rn
      rw [h0, h1, Int.sub_zero] at R
      exact ⟨S.fin, R.ex (Fl.zero 53)⟩
    have hab : ux ah * ux bh = 0 ∧ ux ah * ux bl = 0 ∧ ux al * ux bh = 0 ∧ ux al * ux bl = 0 := by
      rcases Int.mul_eq_zero.1 hV0 with h0 | h0
      · rcases g1 with ⟨_, z1, z2⟩ | ⟨i, g⟩
        · rw [z1, z2]; simp
        · have := g.sm; rw [h0] at this; simp at this
      · rcases g2 with ⟨_, z1, z2⟩ | ⟨i, g⟩
        · rw [z1, z2]; simp
        · have := g.sm; rw [h0] at this; simp at this
    obtain ⟨y0, z0⟩ := hz F1 fa fb hV0
    obtain ⟨y1, z1⟩ := hz F2 f1 f3 hab.1
    obtain ⟨y2, z2⟩ := hd F3 y1 y0 z1 z0
    obtain ⟨y3, z3⟩ := hz F4 f1 f4 hab.2.1
    obtain ⟨y4, z4⟩ := hs F5 y2 y3 z2 z3
    obtain ⟨y5, z5⟩ := hz F6 f2 f3 hab.2.2.1
    obtain ⟨y6, z6⟩ := hs F7 y4 y5 z4 z5
    obtain ⟨y7, z7⟩ := hz F8 f2 f4 hab.2.2.2
    obtain ⟨y8, z8⟩ := hs F9 y6 y7 z6 z7
    exact ⟨y0, y8, fun c _ => by rw [z0, z8, hV0, Int.add_zero, Int.zero_mul], fun _ => ⟨z0, z8⟩, fun h => absurd hV0 h⟩
  · have hVb := hV.resolve_left hV0
    rcases g1 with ⟨z, _⟩ | ⟨i, ga⟩
    · exact absurd (by rw [z, Int.zero_mul]) hV0
    rcases g2 with ⟨z, _⟩ | ⟨j, gb⟩
    · exact absurd (by rw [z, Int.mul_zero]) hV0
    obtain ⟨k1, hk1⟩ : ∃ K, K = 1188 := ⟨_, rfl⟩
    obtain ⟨k2, hk2⟩ : ∃ K, K = 3169 := ⟨_, rfl⟩
    obtain ⟨t, ht⟩ : ∃ t, t = 1180 := ⟨_, rfl⟩
    have hV1 := hVb.1 k1 hk1
    have hV2 := hVb.2 k2 hk2
    have hm : ux a * ((2 ^ 53 : Nat) : Int) * (ux b * ((2 ^ 53 : Nat) : Int)) = ux a * ux b * ((2 ^ 106 : Nat) : Int) := by
      rw [show ((2 ^ 106 : Nat) : Int) = ((2 ^ 53 : Nat) : Int) * ((2 ^ 53 : Nat) : Int) from rfl, Int.mul_assoc, Int.mul_assoc, ← Int.mul_assoc _ (ux b), Int.mul_comm _ (ux b), Int.mul_assoc]
    have hij : 1188 ≤ i + j := by
      have h1 := le_mul2 (Nat.le_of_lt ga.hi) (Nat.le_of_lt gb.hi)
      rw [hm, abs_mul2] at h1
      have h2 := Nat.le_trans (Nat.mul_le_mul_right (2 ^ 106) hV1) h1
      rw [← Nat.pow_add] at h2
      have h3 : k1 + 106 < 53 + i + (53 + j) + 1 := p2lt (Nat.lt_of_le_of_lt h2 (by rw [p2succ]; have := p2pos (53 + i + (53 + j)); omega))
      omega
    have dal : ((2 ^ i : Nat) : Int) ∣ ux al * ((2 ^ 53 : Nat) : Int) := by rw [ga.eq, Int.sub_mul]; exact Int.dvd_sub ga.da (Int.dvd_trans (p2dvd (by omega)) ga.dh)
    have dbl : ((2 ^ j : Nat) : Int) ∣ ux bl * ((2 ^ 53 : Nat) : Int) := by rw [gb.eq, Int.sub_mul]; exact Int.dvd_sub gb.da (Int.dvd_trans (p2dvd (by omega)) gb.dh)
    obtain ⟨X1, p1, q1, s1⟩ := half_prod hc ht ga.dh gb.dh ga.lh gb.lh (by omega) (by omega)
    obtain ⟨X2, p2, q2, s2⟩ := half_prod hc ht ga.dh dbl ga.lh gb.ll (by omega) (by omega)
    obtain ⟨X3, p3, q3, s3⟩ := half_prod hc ht dal gb.dh ga.ll gb.lh (by omega) (by omega)
    obtain ⟨X4, p4, q4, s4⟩ := half_prod hc ht dal dbl ga.ll gb.ll (by omega) (by omega)
    have b2 := dek_small ga.lh gb.ll ga.lo gb.lo (by omega)
    have b3 := dek_small ga.ll gb.lh ga.lo gb.lo (by omega)
    have b4 := dek_small ga.ll gb.ll ga.lo gb.lo (by omega)
    have hsum : ux a * ux b = ux ah * ux bh + ux ah * ux bl + ux al * ux bh + ux al * ux bl := by
      have h1 := ga.eq
      have h2 := gb.eq
      rw [show ux a = ux ah + ux al by omega, show ux b = ux bh + ux bl by omega, Int.add_mul, Int.mul_add, Int.mul_add]; omega
    have hW : ux a * ux b = (X1 + X2 + X3 + X4) * ((2 ^ c : Nat) : Int) := by rw [hsum, p1, p2, p3, p4, Int.add_mul, Int.add_mul, Int.add_mul]
    have hWt : ux a * ((2 ^ 53 : Nat) : Int) * (ux b * ((2 ^ 53 : Nat) : Int)) = (X1 + X2 + X3 + X4) * ((2 ^ t : Nat) : Int) := by
      rw [hm, hW, Int.mul_assoc, ← Int.natCast_mul, ← Nat.pow_add, show c + 106 = t by omega]
    have hcp := p2pos c
    have htp := p2pos t
    rw [hWt, ← s2, abs_mul2, abs_mul2, ← Nat.mul_assoc] at b2
    rw [hWt, ← s3, abs_mul2, abs_mul2, ← Nat.mul_assoc] at b3
    rw [hWt, ← s4, abs_mul2, abs_mul2, ← Nat.mul_assoc] at b4
    have b2 := Nat.le_of_mul_le_mul_right b2 htp
    have b3 := Nat.le_of_mul_le_mul_right b3 htp
    have b4 := Nat.le_of_mul_le_mul_right b4 htp
    obtain ⟨K, hK⟩ : ∃ K, K = 2044 := ⟨_, rfl⟩
    obtain ⟨M, hM⟩ : ∃ M, M = 2 ^ (52 + K) := ⟨_, rfl⟩
    obtain ⟨m3, m2⟩ := max_big hK hM
    obtain ⟨M0, hM0⟩ : ∃ M0, M0 = 2 ^ (48 + K) := ⟨_, rfl⟩
    have hMM : M = 16 * M0 := by rw [hM, hM0, ← p2x16]; congr 1; omega
    have hWb : (X1 + X2 + X3 + X4).natAbs ≤ 8 * M0 := by
      rw [hW, abs_mul2] at hV2
      refine Nat.le_of_mul_le_mul_right (Nat.le_trans hV2 (Nat.le_of_eq ?_)) hcp
      rw [hM0, ← p2x8, ← Nat.pow_add]
      congr 1
      omega
    have hl1 : k1 ≤ (ux a * ux b).natAbs.log2 := (Nat.le_log2 (by omega)).2 hV1
    have hl2 : (ux a * ux b).natAbs.log2 ≤ k2 := by
      refine Nat.le_of_lt_succ ((Nat.log2_lt (by omega)).2 (Nat.lt_of_le_of_lt hV2 ?_))
      rw [p2succ]; have := p2pos k2; omega
    have P1 := F1.big fa fb (by omega) (by omega)
    have hp := P1.rn c hc
    have bp : (ux p).natAbs ≤ 8 * M0 := by
      have h1 := hp.bound hV2
      rw [abs_mul2] at h1
      refine Nat.le_of_mul_le_mul_right (Nat.le_trans h1 (Nat.le_of_eq ?_)) hcp
      rw [hM0, ← p2x8, ← Nat.pow_add]
      congr 1
      omega
    have T1 := F2.mul f1 f3 hc p1 (by omega)
    have T2 := F4.mul f1 f4 hc p2 (by omega)
    have T3 := F6.mul f2 f3 hc p3 (by omega)
    have T4 := F8.mul f2 f4 hc p4 (by omega)
    have y1 := T1.rn.ex q1
    have y2 := T2.rn.ex q2
    have y3 := T3.rn.ex q3
    have y4 := T4.rn.ex q4
    have U1 := F3.sub T1.fin P1.fin (by omega)
    have v1 := U1.rn.bound (K := 53 + K) (by rw [m2]; omega)
    rw [m2] at v1
    have n1 := U1.rn.near2 (M := M0) (by omega)
    have U2 := F5.add U1.fin T2.fin (by omega)
    have v2 := U2.rn.bound (K := 53 + K) (by rw [m2]; omega)
    rw [m2] at v2
    have n2 := U2.rn.near2 (M := M0) (by omega)
    have U3 := F7.add U2.fin T3.fin (by omega)
    have v3 := U3.rn.bound (K := 53 + K) (by rw [m2]; omega)
    rw [m2] at v3
    have n3 := U3.rn.near2 (M := M0) (by omega)
    have U4 := F9.add U3.fin T4.fin (by omega)
    -- in units that make normals
    have r0 := hp.scale (by omega) 106
    rw [Int.mul_assoc (ux p), ← Int.natCast_mul, ← Nat.pow_add, show c + 106 = t by omega, ← hm] at r0
    have r1 := U1.rn.scale (by omega) t
    rw [y1, Int.sub_mul, s1] at r1
    have r2 := U2.rn.scale (by omega) t
    rw [y2, Int.add_mul, s2] at r2
    have r3 := U3.rn.scale (by omega) t
    rw [y3, Int.add_mul, s3] at r3
    have r4 := U4.rn.scale (by omega) t
    rw [y4, Int.add_mul, s4] at r4
    have D := dekker ga.lo ga.hi gb.lo gb.hi (by rw [ga.eq, Int.sub_mul]) (by rw [gb.eq, Int.sub_mul]) ga.da gb.da ga.dh gb.dh ga.ll gb.ll ga.lh gb.lh r0 r1 r2 r3 r4
    have hD := D.1
    rw [← Int.add_mul, hWt] at hD
    have hD := Int.eq_of_mul_eq_mul_right (by omega) hD
    exact ⟨P1.fin, U4.fin, fun c' hc' => by rw [hD, hW, hc', hc], fun h => absurd h hV0, fun _ => P1⟩
end Go.Proofs.Ytpnpdngfjgdgfab
namespace Go.Proofs.Ytpnpdngfjgdgfab
open Go.RowKit Go.Shelf
set_option maxRecDepth 20000
set_option maxHeartbeats 0
theorem ts_awake {s r : Nat} (h : TSR 4336966441157787648 4607182418800017408 s r) : s = 4607182418800017408 ∧ r = 4336966441157787648 := by
  obtain ⟨ob, oa, da, db, F1, F2, F3, F4, F5, F6⟩ := h
  obtain rfl : s = 4607182418800017408 := F1.some _ (by decide +kernel)
  obtain rfl : ob = 4607182418800017408 := F2.some _ (by decide +kernel)
  obtain rfl : oa = 0 := F3.some _ (by decide +kernel)
  obtain rfl : da = 4336966441157787648 := F4.some _ (by decide +kernel)
  obtain rfl : db = 0 := F5.some _ (by decide +kernel)
  obtain rfl : r = 4336966441157787648 := F6.some _ (by decide +kernel)
  exact ⟨rfl, rfl⟩
theorem fs_awake {s r : Nat} (h : FSR 4607182418800017408 4336966441157787648 s r) : s = 4607182418800017408 ∧ r = 4336966441157787648 := by
  obtain ⟨t, F1, F2, F3⟩ := h
  obtain rfl : s = 4607182418800017408 := F1.some _ (by decide +kernel)
  obtain rfl : t = 0 := F2.some _ (by decide +kernel)
  obtain rfl : r = 4336966441157787648 := F3.some _ (by decide +kernel)
  exact ⟨rfl, rfl⟩
theorem sp_awake {h l : Nat} (k : SPR 4607182418804211712 h l) : h = 4607182418800017408 ∧ l = 4472074429978902528 := by
  obtain ⟨c, d, F1, F2, F3, F4⟩ := k
  obtain rfl : c = 4728779608776769536 := F1.some _ (by decide +kernel)
  obtain rfl : d = 4728779608743215104 := F2.some _ (by decide +kernel)
  obtain rfl : h = 4607182418800017408 := F3.some _ (by decide +kernel)
  obtain rfl : l = 4472074429978902528 := F4.some _ (by decide +kernel)
  exact ⟨rfl, rfl⟩
theorem tp_awake {p e : Nat} (k : TPR 4607182418804211712 4607182418804211712 p e) : p = 4607182418808406016 ∧ e = 4336966441157787648 := by
  obtain ⟨ah, al, bh, bl, x1, e1, x2, e2, x3, e3, x4, F1, S1, S2, F2, F3, F4, F5, F6, F7, F8, F9⟩ := k
  obtain ⟨rfl, rfl⟩ := sp_awake S1
  obtain ⟨rfl, rfl⟩ := sp_awake S2
  obtain rfl : p = 4607182418808406016 := F1.some _ (by decide +kernel)
  obtain rfl : x1 = 4607182418800017408 := F2.some _ (by decide +kernel)
  obtain rfl : e1 = 13699950066461048832 := F3.some _ (by decide +kernel)
  obtain rfl : x2 = 4472074429978902528 := F4.some _ (by decide +kernel)
  obtain rfl : e2 = 13695446466833678336 := F5.some _ (by decide +kernel)
  obtain rfl : x3 = 4472074429978902528 := F6.some _ (by decide +kernel)
  obtain rfl : e3 = 0 := F7.some _ (by decide +kernel)
  obtain rfl : x4 = 4336966441157787648 := F8.some _ (by decide +kernel)
  obtain rfl : e = 4336966441157787648 := F9.some _ (by decide +kernel)
  exact ⟨rfl, rfl⟩
theorem awake19 (w : World) : Calls Try.prog 7 #[] w fun e w' => e = .returned (.bool true) ∧ ∃ n, w' = w.drewN n := by
  go_enter Try.func7, Try.ntmps7
  go_wp2_with fail
  refine (sumB 4336966441157787648 4607182418800017408 _).mono ?_
  rintro e w' ⟨s, r, n1, rfl, rfl, hR⟩
  obtain ⟨rfl, rfl⟩ := ts_awake hR
  clear hR
  go_wp2_with fail
  refine (fastB 4607182418800017408 4336966441157787648 _).mono ?_
  rintro e w' ⟨s, r, n2, rfl, rfl, hR⟩
  obtain ⟨rfl, rfl⟩ := fs_awake hR
  clear hR
  go_wp2_with fail
  refine (splitB 4607182418804211712 _).mono ?_
  rintro e w' ⟨s, r, n3, rfl, rfl, hR⟩
  obtain ⟨rfl, rfl⟩ := sp_awake hR
  clear hR
  go_wp2_with fail
  refine (prodB 4607182418804211712 4607182418804211712 _).mono ?_
  rintro e w' ⟨s, r, n4, rfl, rfl, hR⟩
  obtain ⟨rfl, rfl⟩ := tp_awake hR
  clear hR
  go_wp2_with fail
  go_ret
  exact ⟨rfl, _, rfl⟩
theorem Sm64.little {X : Int} {s e : Nat} (h : Sm64 X s) (he : ux s + ux e = X) : 9007199254740992 * (ux e).natAbs ≤ (ux s).natAbs := by
  have h1 := h.rn.little (by omega)
  rw [show X - ux s = ux e by omega, show (2 : Nat) ^ 53 = 9007199254740992 by decide] at h1
  exact h1
theorem p2lts (k : Nat) : 2 ^ k < 2 ^ (k + 1) := by rw [p2succ]; have := p2pos k; omega
structure Hf (x m k : Nat) : Prop where
  fin : Fin64 x
  dv : ((2 ^ m : Nat) : Int) ∣ ux x * ((2 ^ 53 : Nat) : Int)
  le : (ux x * ((2 ^ 53 : Nat) : Int)).natAbs ≤ 2 ^ k
  wd : k ≤ 26 + m
  lo : 675 ≤ m
  hi : k ≤ 1608
theorem Hf.most {x m k : Nat} (h : Hf x m k) : x % 9223372036854775808 ≤ 9088264048033660928 := by
  refine Nat.le_of_not_lt fun h1 => ?_
  have h2 := vs_le4 (Nat.le_of_lt h1)
  have h3 : vs 4503599627370496 9088264048033660928 = 4503599627370496 * 2 ^ 2017 := vs_at 2017 4503599627370496 (.inr (Nat.le_refl _)) (by omega)
  obtain ⟨J, hJ⟩ : ∃ J, J = 2017 := ⟨_, rfl⟩
  rw [← ux_abs, h3, ← hJ] at h2
  have h4 := h.le
  rw [abs_mul2] at h4
  have h5 := Nat.le_trans (Nat.mul_le_mul_right (2 ^ 53) h2) (Nat.le_trans h4 (p2le h.hi))
  obtain ⟨K, hK⟩ : ∃ K, K = 1608 := ⟨_, rfl⟩
  rw [← hK, show (4503599627370496 : Nat) = 2 ^ 52 by decide, ← Nat.pow_add, ← Nat.pow_add] at h5
  have h6 := p2lt (Nat.lt_of_le_of_lt h5 (p2lts K))
  omega
theorem Hlv.half {a h l i : Nat} (g : Hlv a h l i) (fh : Fin64 h) (fl : Fin64 l) (k1 : 2805742567851819008 ≤ a % 9223372036854775808) (k2 : a % 9223372036854775808 ≤ 6768910239937855488) : Hf h (27 + i) (53 + i) ∧ Hf l i (26 + i) := by
  obtain ⟨J, hJ⟩ : ∃ J, J = 1502 := ⟨_, rfl⟩
  obtain ⟨I, hI⟩ : ∃ I, I = 622 := ⟨_, rfl⟩
  have h1 : (ux a).natAbs ≤ 2 ^ (52 + J) := ux_pow (by omega)
  have h2 : 2 ^ (52 + I) ≤ (ux a).natAbs := by
    rw [ux_abs]
    refine Nat.le_trans (Nat.le_of_eq ?_) (vs_le4 k1)
    have := vs_at I 4503599627370496 (.inr (Nat.le_refl _)) (by omega)
    rw [show I * 4503599627370496 + 4503599627370496 = 2805742567851819008 by omega] at this
    rw [this, Nat.pow_add, show (2 : Nat) ^ 52 = 4503599627370496 by decide]
  have g1 := g.lo
  have g2 := g.hi
  rw [abs_mul2] at g1 g2
  have j1 : 52 + i < 52 + J + 53 + 1 := p2lt (Nat.lt_of_le_of_lt (Nat.le_trans g1 (Nat.mul_le_mul_right _ h1)) (by rw [← Nat.pow_add]; exact p2lts _))
  have j2 : 52 + I + 53 < 53 + i := p2lt (Nat.lt_of_le_of_lt (by rw [Nat.pow_add]; exact Nat.mul_le_mul_right _ h2) g2)
  have dl : ((2 ^ i : Nat) : Int) ∣ ux l * ((2 ^ 53 : Nat) : Int) := by rw [g.eq, Int.sub_mul]; exact Int.dvd_sub g.da (Int.dvd_trans (p2dvd (by omega)) g.dh)
  exact ⟨⟨fh, g.dh, g.lh, by omega, by omega, by omega⟩, ⟨fl, dl, g.ll, by omega, by omega, by omega⟩⟩
theorem size_le {b K : Nat} (h : (ux b).natAbs ≤ 2 ^ (52 + K)) : b % 9223372036854775808 ≤ (K + 1) * 4503599627370496 := by
  refine Nat.le_of_not_lt fun h1 => ?_
  have h2 := vs_mono (H := 4503599627370496) (by omega) h1
  have h3 := vs_at K 4503599627370496 (.inr (Nat.le_refl _)) (by omega)
  rw [show (K + 1) * 4503599627370496 = K * 4503599627370496 + 4503599627370496 by omega, h3, ← ux_abs, show (4503599627370496 : Nat) = 2 ^ 52 by decide, ← Nat.pow_add] at h2
  omega
def xm (x : Nat) : Nat := 3256102530588868608 + x % 9223372036854775808 % 5404319552844595200 + x / 9223372036854775808 * 9223372036854775808
theorem xm_fin {x : Nat} (h : x < 18446744073709551616) : Fin64 (xm x) ∧ xm x % 9223372036854775808 ≤ 1923 * 4503599627370496 := by
  have h1 : x % 9223372036854775808 % 5404319552844595200 < 5404319552844595200 := Nat.mod_lt _ (by omega)
  have h2 : x / 9223372036854775808 ≤ 1 := by omega
  unfold xm
  generalize x % 9223372036854775808 % 5404319552844595200 = r at *
  rcases (show x / 9223372036854775808 = 0 ∨ x / 9223372036854775808 = 1 by omega) with h3 | h3
  · rw [h3]; exact ⟨⟨by omega, by omega⟩, by omega⟩
  · rw [h3]; exact ⟨⟨by omega, by omega⟩, by omega⟩
def sumU : List Nat → Int
  | [] => 0
  | e :: es => ux e + sumU es
theorem sumU_snoc (es : List Nat) (e : Nat) : sumU (es ++ [e]) = sumU es + ux e := by
  induction es with
  | nil => show ux e + 0 = 0 + ux e; omega
  | cons a r ih => show ux a + sumU (r ++ [e]) = ux a + sumU r + ux e; omega
theorem sumU_take (es : List Nat) (j : Nat) (h : j < es.length) : sumU (es.take (j + 1)) = sumU (es.take j) + ux (es.getD j 0) := by
  have h1 : es.take (j + 1) = es.take j ++ [es.getD j 0] := by
    rw [List.take_add_one, List.getD_eq_getElem?_getD, List.getElem?_eq_getElem h]
    rfl
  rw [h1, sumU_snoc]
structure Lefts (n : Nat) (Q : Nat) (es : List Nat) : Prop where
  len : es.length = n
  fin : ∀ e, e ∈ es → Fin64 e ∧ (ux e).natAbs ≤ Q
theorem Lefts.snoc {n Q : Nat} {es : List Nat} {e : Nat} (h : Lefts n Q es) (h1 : Fin64 e) (h2 : (ux e).natAbs ≤ Q) : Lefts (n + 1) Q (es ++ [e]) := by
  refine ⟨by rw [List.length_append, h.len]; rfl, fun x hx => ?_⟩
  rcases List.mem_append.1 hx with hx | hx
  · exact h.fin x hx
  · rw [List.mem_singleton] at hx; subst hx; exact ⟨h1, h2⟩
theorem Lefts.at_ {n Q j : Nat} {es : List Nat} (h : Lefts n Q es) (hj : j < n) : Fin64 (es.getD j 0) ∧ (ux (es.getD j 0)).natAbs ≤ Q := by
  have hl : j < es.length := by rw [h.len]; exact hj
  rw [List.getD_eq_getElem?_getD, List.getElem?_eq_getElem hl]
  exact h.fin _ (List.getElem_mem hl)
theorem sumU_le {n Q : Nat} {es : List Nat} (h : Lefts n Q es) : ∀ j, j ≤ n → (sumU (es.take j)).natAbs ≤ j * Q := by
  intro j
  induction j with
  | zero => intro _; simp [sumU]
  | succ j ih =>
    intro hj
    have h1 := ih (by omega)
    have h2 := (h.at_ (j := j) (by omega)).2
    rw [sumU_take es j (by rw [h.len]; omega), Nat.add_mul, Nat.one_mul]
    omega
theorem chain_step {K M Q k A x s e : Nat} (hK : K = 1974) (hM : M = 2 ^ K) (hQ : Q = 140737488355328 * M) (hA : Fin64 A) (hb : (ux A).natAbs ≤ k * M) (hk : k < 17592186044416) (hx : x < 18446744073709551616) (h : TSR A (xm x) s e) :
    Fin64 s ∧ s % 9223372036854775808 ≤ 9209861237972664320 ∧ (ux s).natAbs ≤ (k + 1) * M ∧ Fin64 e ∧ (ux e).natAbs ≤ Q ∧ ux s + ux e = ux A + ux (xm x) ∧ (ux (xm x)).natAbs ≤ M := by
  obtain ⟨fx, sx⟩ := xm_fin hx
  obtain ⟨J, hJ⟩ : ∃ J, J = 1966 := ⟨_, rfl⟩
  obtain ⟨I, hI⟩ : ∃ I, I = 1922 := ⟨_, rfl⟩
  have hX : (ux (xm x)).natAbs ≤ M := by
    have := ux_pow (b := xm x) (K := I) (by rw [hI]; exact sx)
    rw [hM, show K = 52 + I by omega]; exact this
  have hkM : (k + 1) * M ≤ 17592186044416 * M := Nat.mul_le_mul_right _ (by omega)
  have e1 : (k + 1) * M = k * M + M := by rw [Nat.add_mul, Nat.one_mul]
  have hP : 17592186044416 * M = 2 ^ (52 + J) := by
    rw [hM, show (17592186044416 : Nat) = 2 ^ 44 by decide, ← Nat.pow_add]
    congr 1
    omega
  have hF : Fl 53 (((k + 1) * M : Nat) : Int) := by
    refine ⟨K, ?_, ?_⟩
    · rw [hM, Int.natCast_mul]; exact ⟨_, Int.mul_comm _ _⟩
    · rw [Int.natAbs_natCast, hM, Nat.pow_add]
      refine Nat.mul_le_mul_right _ ?_
      rw [show (2 : Nat) ^ 53 = 9007199254740992 by decide]
      omega
  have small : ∀ b : Nat, (ux b).natAbs ≤ 17592186044416 * M → b % 9223372036854775808 ≤ 9209861237972664320 := fun b h1 => by
    have h2 := size_le (b := b) (K := J) (by rw [← hP]; exact h1)
    rw [hJ] at h2
    exact Nat.le_trans h2 (by decide)
  have q1 : (ux A).natAbs ≤ 17592186044416 * M := Nat.le_trans hb (Nat.le_trans (Nat.mul_le_mul_right _ (Nat.le_succ k)) hkM)
  obtain ⟨p1, p2, p3⟩ := h.ok hA.lt fx.lt (small A q1) (Nat.le_trans sx (by decide))
  clear hM hP hx sx fx hI hJ
  obtain ⟨Z, hZ⟩ : ∃ Z, Z = (k + 1) * M := ⟨_, rfl⟩
  rw [← hZ] at hF hkM e1 ⊢
  obtain ⟨Y, hY⟩ : ∃ Y, Y = k * M := ⟨_, rfl⟩
  rw [← hY] at e1 hb
  have s1 : (ux s).natAbs ≤ Z := by
    have a1 := p1.rn.hi hF (by omega)
    have a2 := p1.rn.neg.hi hF (by omega)
    omega
  exact ⟨p1.fin, small s (Nat.le_trans s1 hkM), s1, p2, by omega, p3, hX⟩
end Go.Proofs.Ytpnpdngfjgdgfab
