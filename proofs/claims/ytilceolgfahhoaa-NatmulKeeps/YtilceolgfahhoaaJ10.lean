import Derived.Test.YtilceolgfahhoaaOpenS
import Derived.Test.YtilceolgfahhoaaJ9
import Derived.Deep.Slices
import Derived.Laws.Bits64b
import Derived.Deep.LoopGhost
import Derived.Deep.RegionWith
import Derived.Deep.DeepAppendRoom
import Derived.Maps.AppendAt
import Derived.OwnWalk
namespace Go.Proofs.Ytilceolgfahhoaa
open Go.ChangeShapes Go.WideShapes Go.ChangeAt Go.RowKit Go.Deep
set_option maxRecDepth 20000
set_option maxHeartbeats 0
theorem weightsAll_mem {H : Type} {P : Program} {e : TypeId} : ∀ {l : List (DataW H)} {d : DataW H}, d ∈ l → ∀ n ∈ d.weights P e, n ∈ DataW.weightsAll P e l
  | [], d, hd, n, hn => by simp at hd
  | d0 :: r, d, hd, n, hn => by
    simp only [DataW.weightsAll, List.mem_append]
    rcases List.mem_cons.1 hd with rfl | h
    · exact .inl hn
    · exact .inr (weightsAll_mem h n hn)
theorem sized_elem {H : Type} {P : Program} {ts : List TypeId} {ds : List (DataW H)} (h : (DataW.weightsEach P ts ds).all (· ≤ reachBytes) = true) {j : Nat} {t e : TypeId} {fs : Array Field} {parts : List (DataW H)} {elems spare : List (DataW H)}
    (ht : ts[j]? = some t) (hd : ds[j]? = some (.slice elems spare)) (hu : P.underlying t = some (.slice e)) (hm : DataW.agg parts ∈ elems) (he : P.underlying e = some (.struct fs)) :
    (DataW.weightsEach P (fs.toList.map (·.type)) parts).all (· ≤ reachBytes) = true := by
  rw [List.all_eq_true]
  intro n hn
  refine List.all_eq_true.1 h n (DataW.weights_mem_each ht hd n ?_)
  simp only [DataW.weights, hu, List.mem_cons, List.mem_append]
  exact .inr (.inl (weightsAll_mem hm n (by simpa [DataW.weights, he] using hn)))
theorem cellsOfOp : Try.prog.cellsOf 27 = 5 := by kernel_rfl
theorem oneCellOp {fs : Array Field} (h : Try.prog.underlying 27 = some (.struct fs)) : oneCellFields Try.prog fs = true := by
  have : (match Try.prog.underlying 27 with | some (.struct fs) => oneCellFields Try.prog fs | _ => false) = true := by kernel_rfl
  rw [h] at this
  exact this

theorem open_script {H : Type} {enc : TypeId × Value → H} {W : World} {a : Option Addr} {len cap : Nat} {d : DataW H} {ps : List MemPlace} {ts : List TypeId} {ds : List (DataW H)} {j : Nat}
    (h : DataW.Trod enc Try.prog W 0 (fun _ => true) true 22 (.slice a len cap) d ps) (hsz : (DataW.weightsEach Try.prog ts ds).all (· ≤ reachBytes) = true) (ht : ts[j]? = some 22) (hd : ds[j]? = some d) :
    ∃ its, Scr W a len cap its := by
  obtain ⟨fuel, hf⟩ := h
  rcases DataW.trod_slice Try.underlying22 hf with ⟨hcs, _⟩ | ⟨x, l, c, elems, rest, n, _, hcs, hx, hb, hl, hm, hlen, hel, _, _⟩
  · simp [Value.cells] at hcs
    obtain ⟨rfl, rfl, rfl⟩ := hcs
    exact ⟨[], rfl, Nat.le_refl _, by decide, fun t h => by simp at h, .inl rfl⟩
  · simp [Value.cells] at hcs
    obtain ⟨rfl, rfl, rfl⟩ := hcs
    simp only [Prod.mk.injEq] at hx
    obtain ⟨rfl, _⟩ := hx
    obtain ⟨b, off, spot⟩ := x
    have each : ∀ i, i < len → ∃ t : Op5, (W.cell? ((⟨b, off, spot⟩ : Addr).add (i * 5 + 0)) = some (.int .i64 t.k) ∧ W.cell? ((⟨b, off, spot⟩ : Addr).add (i * 5 + 1)) = some (.slice t.pa t.na t.ca) ∧
        W.cell? ((⟨b, off, spot⟩ : Addr).add (i * 5 + 2)) = some (.slice t.pb t.nb t.cb) ∧ W.cell? ((⟨b, off, spot⟩ : Addr).add (i * 5 + 3)) = some (.int .i64 t.nn) ∧ W.cell? ((⟨b, off, spot⟩ : Addr).add (i * 5 + 4)) = some (.slice t.pl t.nl t.cl)) ∧
        At W t.pa t.na t.ca t.xa ∧ At W t.pb t.nb t.cb t.xb ∧ t.na ≤ 17592186044416 ∧ t.nb ≤ 17592186044416 ∧ -9223372036854775808 ≤ t.nn ∧ t.nn ≤ 9223372036854775807 := by
      intro i hi
      have h1 := hel i hi
      have hie : i < elems.length := by omega
      rw [List.getElem?_eq_getElem hie, Option.bind_eq_some_iff] at h1
      obtain ⟨cs', h2, h3⟩ := h1
      rw [cellsOfOp] at h2
      obtain ⟨_, hlen5, hcell⟩ := World.cells?_some h2
      obtain ⟨ys, k, _, hxy, _, hxl, hg⟩ := DataW.trod_struct Try.underlying27 h3
      have hone := oneCellOp Try.underlying27
      match ys, hxl, cs', hlen5 with
      | [y0, y1, y2, y3, y4], _, [v0, v1, v2, v3, v4], _ =>
        have sf := sized_elem hsz ht hd Try.underlying22 (parts := [y0.1, y1.1, y2.1, y3.1, y4.1]) (by
          have : elems[i].1 = DataW.agg [y0.1, y1.1, y2.1, y3.1, y4.1] := by rw [hxy]; rfl
          rw [← this]
          exact List.mem_map_of_mem (List.getElem_mem hie)) Try.underlying27
        have g0 := hg 0 _ rfl
        have g1 := hg 1 _ rfl
        have g2 := hg 2 _ rfl
        have g3 := hg 3 _ rfl
        have g4 := hg 4 _ rfl
        rw [(hone_of hone 0 _ rfl).1, (hone_of hone 0 _ rfl).2] at g0
        rw [(hone_of hone 1 _ rfl).1, (hone_of hone 1 _ rfl).2] at g1
        rw [(hone_of hone 2 _ rfl).1, (hone_of hone 2 _ rfl).2] at g2
        rw [(hone_of hone 3 _ rfl).1, (hone_of hone 3 _ rfl).2] at g3
        rw [(hone_of hone 4 _ rfl).1, (hone_of hone 4 _ rfl).2] at g4
        have k0 : DataW.trod enc Try.prog W 0 (fun _ => true) true k 3 [v0] = some y0 := g0
        have k1 : DataW.trod enc Try.prog W 0 (fun _ => true) true k 24 [v1] = some y1 := g1
        have k2 : DataW.trod enc Try.prog W 0 (fun _ => true) true k 24 [v2] = some y2 := g2
        have k3 : DataW.trod enc Try.prog W 0 (fun _ => true) true k 3 [v3] = some y3 := g3
        have k4 : DataW.trod enc Try.prog W 0 (fun _ => true) true k 25 [v4] = some y4 := g4
        clear g0 g1 g2 g3 g4
        obtain ⟨z0, rfl, _⟩ := open_fld_int Try.underlying3 k0
        obtain ⟨z3, rfl, w3⟩ := open_fld_int Try.underlying3 k3
        obtain ⟨pa, na, ca, _, rfl, _⟩ := open_fld_at k1
        obtain ⟨pb, nb, cb, _, rfl, _⟩ := open_fld_at k2
        obtain ⟨xa, A1, bl1⟩ := open_at (a := pa) (len := na) (cap := ca) (d := y1.1) (ps := y1.2) ⟨k, k1⟩ sf (j := 1) rfl rfl
        obtain ⟨xb, A2, bl2⟩ := open_at (a := pb) (len := nb) (cap := cb) (d := y2.1) (ps := y2.2) ⟨k, k2⟩ sf (j := 2) rfl rfl
        obtain ⟨pl, nl, cl, rfl⟩ : ∃ pl nl cl, v4 = .slice pl nl cl := by
          rcases DataW.trod_slice Try.underlying25 k4 with ⟨h4, _⟩ | ⟨x4, l4, c4, _, _, _, _, h4, _⟩
          · simp at h4; exact ⟨_, _, _, h4⟩
          · simp at h4; exact ⟨_, _, _, h4⟩
        have e0 := hcell 0 (by omega)
        have e1 := hcell 1 (by omega)
        have e2 := hcell 2 (by omega)
        have e3 := hcell 3 (by omega)
        have e4 := hcell 4 (by omega)
        rw [add_add] at e0 e1 e2 e3 e4
        exact ⟨⟨z0, pa, na, ca, xa, pb, nb, cb, xb, z3, pl, nl, cl⟩, ⟨e0, e1, e2, e3, e4⟩, A1, A2, bl1, bl2, bounds_i64 w3⟩
    have inh : Inhabited Op5 := ⟨⟨0, none, 0, 0, [], none, 0, 0, [], 0, none, 0, 0⟩⟩
    obtain ⟨q, hq⟩ := choose_lt each
    refine ⟨(List.range len).map q, by simp, hl, hm, ?_, ?_⟩
    · intro t ht
      obtain ⟨i, hi, rfl⟩ := List.mem_map.1 ht
      exact (hq i (List.mem_range.1 hi)).2
    · by_cases h0 : len = 0
      · exact .inl h0
      · have hs := (hq 0 (by omega)).1.1
        have hspot : spot = none := by simpa [Addr.add] using World.cell?_spot hs
        subst hspot
        have hadd : ∀ q : Nat, (⟨b, off, none⟩ : Addr).add q = ⟨b, off + q, none⟩ := by intro q; unfold Addr.add; split <;> simp_all
        refine .inr ⟨b, off, rfl, fun i hi => ?_⟩
        have hi' : i < len := by simpa using hi
        have h5 := (hq i hi').1
        simp only [hadd] at h5
        simpa [Nat.add_assoc] using h5
end Go.Proofs.Ytilceolgfahhoaa
namespace Go.Proofs.Ytilceolgfahhoaa
open Go.RowKit
set_option maxRecDepth 20000
set_option maxHeartbeats 0
theorem bit_one {g o c : Nat} {x i : Nat} {w : World} (h : At w (some ⟨g, o, none⟩) 1 c [x]) (hi : i < 64) :
    Calls Try.prog 62 #[.slice (some ⟨g, o, none⟩) 1 c, .int .i64 i] w fun e w' => e = .returned (.bool (decide (x / 2 ^ i % 2 = 1))) ∧ w' = w := by
  have hc : w.cell? ⟨g, o, none⟩ = some (U x) := by
    obtain ⟨g', o', he, hcell⟩ := h.cells.resolve_left (by omega)
    simp only [Option.some.injEq, Addr.mk.injEq, and_true] at he
    obtain ⟨rfl, rfl⟩ := he
    exact hcell 0 (by omega)
  have hxb : x < B64 := h.dig.getD B64_pos 0
  have cap := h.cap
  have e1 : (i : Int).tdiv 64 = 0 := by rw [Int.tdiv_eq_ediv_of_nonneg (by omega)]; omega
  have e2 : (i : Int).tmod 64 = i := by rw [Int.tmod_eq_emod_of_nonneg (by omega)]; omega
  go_enter Try.func62, Try.ntmps62
  go_wp2_with fail
  go_ret
  refine ⟨?_, rfl⟩
  have hy : x / 2 ^ i < 18446744073709551616 := by have := Nat.div_le_self x (2 ^ i); rw [B64_eq] at hxb; omega
  have e3 : ((x : Int) / 2 ^ i) = ((x / 2 ^ i : Nat) : Int) := by simp
  have e4 : bits BinOp.and IntKind.u64 ((x : Int) / 2 ^ i) 1 = ((x / 2 ^ i % 2 : Nat) : Int) := by
    rw [e3, ← Nat.and_one_is_mod]
    exact bits_and_u64_nat _ 1 hy (by omega)
  refine ret_bool ?_
  rw [e4]
  rcases Nat.mod_two_eq_zero_or_one (x / 2 ^ i) with h2 | h2 <;> rw [h2] <;> rfl
theorem q_step (x S k : Nat) (h : k < S) : x / 2 ^ (S - (k + 1)) = 2 * (x / 2 ^ (S - k)) + x / 2 ^ (S - 1 - k) % 2 := by
  obtain ⟨j, hj⟩ : ∃ j, j = S - 1 - k := ⟨_, rfl⟩
  rw [show S - (k + 1) = j by omega, show S - k = j + 1 by omega, ← hj, Nat.pow_succ, ← Nat.div_div_eq_div_mul]
  omega
theorem q_le (x S k : Nat) : x / 2 ^ (S - k) ≤ x := Nat.div_le_self _ _
theorem q_zero (x S : Nat) (h1 : x < 2 ^ (S + 1)) (h2 : 2 ^ S ≤ x) : x / 2 ^ (S - 0) = 1 := by
  rw [Nat.sub_zero]
  apply Nat.div_eq_of_lt_le
  · omega
  · rw [Nat.pow_succ] at h1; omega
theorem pow_even (a q r : Nat) (b : Nat) (h : r = 2 * q + b) (hb : b = 0) : a ^ r = a ^ q * a ^ q := by
  rw [h, hb, Nat.add_zero, ← Nat.pow_add]; congr 1; omega
theorem pow_odd (a q r : Nat) (b : Nat) (h : r = 2 * q + b) (hb : b = 1) : a ^ r = a ^ q * a ^ q * a := by
  rw [h, hb, Nat.pow_succ, ← Nat.pow_add]; congr 2; omega

theorem own_le {B B' : Nat} {w : World} {p : Option Addr} {m : Nat} {zs : List Nat} (h : Own B w p m zs) (hB : B' ≤ B) : Own B' w p m zs :=
  ⟨h.len, h.dig, h.mem.imp id (fun ⟨g, h1, h2, h3⟩ => ⟨g, h1, Nat.le_trans hB h2, h3⟩)⟩
structure ClimbRel (w : World) (a x S k : Nat) (pp : Option Addr) (mm : Nat) (wr : World) : Prop where
  own : ∃ zs, Own w.heap.size wr pp mm zs ∧ Nf B64 zs (a ^ (x / 2 ^ (S - k)))
  small : mm ≤ 8192
  bel : Below w.heap.size w wr

theorem climb_any {p : Option Addr} {n c g o d : Nat} {xs : List Nat} {a x : Nat} {w : World} (h : At w p n c xs) (nA : Nf B64 xs a) (hn : n ≤ 8192) (k : At w (some ⟨g, o, none⟩) 1 d [x]) (ha : 0 < a) (hx : 0 < x) :
    Calls Try.prog 50 #[.slice p n c, .slice (some ⟨g, o, none⟩) 1 d] w fun e w' => Ans w.heap.size w' e (a ^ x) ∧ Below w.heap.size w w' := by
  have hlim : a < LIM := nA.lim.1 (by rw [h.len]; exact hn)
  have hxb : x < 2 ^ 64 := by have : x < B64 := k.dig.getD B64_pos 0; exact this
  have hb0 := bitsN_lt x
  have hb1 := bitsN_le x (by omega)
  obtain ⟨S, hS⟩ : ∃ S, bitsN x = S + 1 := by
    refine ⟨bitsN x - 1, ?_⟩
    have : bitsN x ≠ 0 := by intro e; rw [e] at hb0; simp at hb0; omega
    omega
  have hS64 : S < 64 := by
    rw [hS, Nat.add_sub_cancel] at hb1
    have := Nat.lt_of_le_of_lt hb1 hxb
    exact (Nat.pow_lt_pow_iff_right (by omega)).1 this
  have HQ0 : Hid (x / 2 ^ (S - 0) = 1) := q_zero x S (by rw [← hS]; exact hb0) (by rw [hS, Nat.add_sub_cancel] at hb1; exact hb1)
  have hval : valB B64 [x] = x := by simp [valB]
  have HS : Hid (bitsN (valB B64 [x]) = S + 1) := by rw [hval]; exact hS
  have HA : Hid (Nf B64 xs a) := nA
  have HN := Nf.trim h.dig
  have HLIM : Hid (a < LIM) := hlim
  have HV : Hid (valB B64 xs = a) := nA.val
  have HX : Hid (0 < x) := hx
  have HP : Hid (0 < a) := ha
  clear nA hlim hval hS hb0 hb1 hxb HN hx ha
  go_enter Try.func50, Try.ntmps50
  go_wp2_with fail
  refine (norm_any h).mono ?_
  rintro e w1 ⟨ha1, hb1⟩
  rw [HV.out] at ha1
  obtain ⟨p1, m1, s1, rfl, ho1, n1, hm1⟩ := ha1.ok HLIM.out
  have k1 := k.below hb1
  have R1 : ClimbRel w a x S 0 p1 m1 w1 := ⟨⟨s1, ho1, by rw [HQ0.out, Nat.pow_one]; exact n1⟩, hm1, hb1⟩
  clear ha1 ho1 n1
  go_wp2_with fail
  refine (bits_any k1 (by omega)).mono ?_
  rintro e w2 ⟨rfl, hw⟩
  obtain rfl := hw.symm
  rw [HS.out]
  clear hw k1 hb1
  go_wp2_with fail
  go_loopw [6, 7, 19] (fun v ev i wr => ∃ (j : Nat) (pp : Option Addr) (mm : Nat), j ≤ S ∧ i = .int .i64 j ∧ v = .slice pp mm mm ∧ ev = .int .i64 0 ∧ ClimbRel w a x S j pp mm wr) (fun _ _ i _ => S - (intOf i).toNat)
  case atStart => exact ⟨0, p1, m1, Nat.zero_le _, rfl, rfl, rfl, R1⟩
  case round =>
    clear R1 hm1
    obtain ⟨j, pp, mm, hj, rfl, rfl, rfl, hR⟩ := hrel
    by_cases hlt : j < S
    · obtain ⟨⟨zs, hown, hnf⟩, hsm, hbel⟩ := hR
      have P0 := hown.at_ hsm
      have N0 : Hid (Nf B64 zs (a ^ (x / 2 ^ (S - j)))) := hnf
      have h0 := h.below hbel; have k0 := k.below hbel
      clear hown hnf
      go_wp2_with fail
      refine (sqr_any P0 N0.out hsm).mono ?_
      rintro e w3 ⟨ha3, hb3⟩
      have h3 := h0.below hb3; have k3 := k0.below hb3; have hw3 := Below.on hbel hb3
      have HSZ : Hid (w.heap.size ≤ wr.heap.size) := hbel.size
      clear h0 k0 P0 hb3 hbel
      rcases ha3 with ⟨hl3, p3, m3, s3, rfl, ho3, n3, hm3⟩ | ⟨hl3, rfl⟩
      · have S3 := ho3.at_ hm3
        have N3 : Hid (Nf B64 s3 (a ^ (x / 2 ^ (S - j)) * a ^ (x / 2 ^ (S - j)))) := n3
        have O3 : Hid (Own wr.heap.size w3 p3 m3 s3) := ho3
        clear hl3 ho3 n3
        go_wp2_with fail
        rw [show ((S : Int) - 1 - (j : Int)) = ((S - 1 - j : Nat) : Int) by omega]
        refine (bit_one k3 (by omega)).mono ?_
        rintro e w4 ⟨rfl, hw⟩
        obtain rfl := hw.symm
        clear hw
        by_cases hbit : x / 2 ^ (S - 1 - j) % 2 = 1
        · have HE : Hid (a ^ (x / 2 ^ (S - (j + 1))) = a ^ (x / 2 ^ (S - j)) * a ^ (x / 2 ^ (S - j)) * a) := pow_odd _ _ _ _ (q_step x S j hlt) hbit
          rw [decide_eq_true hbit]
          clear hbit
          go_wp2_with fail
          refine (mul_any S3 h3 N3.out HA.out hm3 hn).mono ?_
          rintro e w5 ⟨ha5, hb5⟩
          rw [← HE.out] at ha5
          have hw5 := Below.on hw3 hb5
          rcases ha5 with ⟨hl5, p5, m5, s5, rfl, ho5, n5, hm5⟩ | ⟨hl5, rfl⟩
          · have HR : Hid (ClimbRel w a x S (j + 1) p5 m5 w5) := ⟨⟨s5, own_le ho5 hw3.size, n5⟩, hm5, hw5⟩
            clear hl5 ho5 n5 hb5 hw3 hw5 h3 k3 S3
            go_wp2_with fail
            go_roundw
            case rel => exact ⟨j + 1, p5, m5, by omega, by go_num, rfl, rfl, HR.out⟩
            case measure => simp [intOf]; omega
          · have HL : Hid (LIM ≤ a ^ x) := Nat.le_trans hl5 (Nat.pow_le_pow_right HP.out (q_le x S (j + 1)))
            clear hl5 hb5 hw3 h3 k3 S3
            go_wp2_with fail
            go_ret2
            exact ⟨.inr ⟨HL.out, rfl⟩, hw5⟩
        · have HE : Hid (a ^ (x / 2 ^ (S - (j + 1))) = a ^ (x / 2 ^ (S - j)) * a ^ (x / 2 ^ (S - j))) := pow_even _ _ _ _ (q_step x S j hlt) (by omega)
          rw [decide_eq_false hbit]
          have HR : Hid (ClimbRel w a x S (j + 1) p3 m3 w3) := ⟨⟨s3, own_le O3.out HSZ.out, by rw [HE.out]; exact N3.out⟩, hm3, hw3⟩
          clear hbit h3 k3 S3 hw3
          go_wp2_with fail
          go_roundw
          case rel => exact ⟨j + 1, p3, m3, by omega, by go_num, rfl, rfl, HR.out⟩
          case measure => simp [intOf]; omega
      · have HL : Hid (LIM ≤ a ^ x) := by
          refine Nat.le_trans hl3 ?_
          rw [← Nat.pow_add]
          refine Nat.pow_le_pow_right HP.out ?_
          have := q_step x S j hlt
          have := q_le x S (j + 1)
          omega
        clear hl3 h3 k3
        go_wp2_with fail
        go_ret2
        exact ⟨.inr ⟨HL.out, rfl⟩, hw3⟩
    · obtain rfl : j = S := by omega
      obtain ⟨⟨zs, hown, hnf⟩, hsm, hbel⟩ := hR
      rw [Nat.sub_self, Nat.pow_zero, Nat.div_one] at hnf
      have N0 : Hid (Nf B64 zs (a ^ x)) := hnf
      have O0 : Hid (Own w.heap.size wr pp mm zs) := hown
      clear hown hnf
      go_wp2_with fail
      go_ret2
      exact ⟨.inl ⟨N0.out.lim.1 (by rw [O0.out.len]; exact hsm), pp, mm, zs, rfl, O0.out, N0.out, hsm⟩, hbel⟩
theorem LIM_twoP (k : Nat) (hk : k = 524288) : LIM = 2 ^ k := by
  obtain ⟨K, hK⟩ : ∃ K, K = 8192 := ⟨_, rfl⟩
  rw [LIM_eq K hK, B64_pow, show 64 * K = k by omega]
theorem pow_lim {a T t : Nat} (h : 2 ^ T ≤ a) (hT : 0 < T) (ht : 524287 / T < t) : LIM ≤ a ^ t := by
  have h1 := (Nat.div_lt_iff_lt_mul hT).1 ht
  obtain ⟨k, hk⟩ : ∃ k, k = 524288 := ⟨_, rfl⟩
  rw [LIM_twoP k hk]
  refine Nat.le_trans (Nat.pow_le_pow_right (n := 2) (by omega) (show k ≤ T * t by rw [Nat.mul_comm]; omega)) ?_
  rw [Nat.pow_mul]
  exact Nat.pow_le_pow_left h t
theorem LIM_one : 1 < LIM := (nf_one (x := 1) (by decide) (by decide)).lim.1 (by simp)

theorem pow_neg (v : Value) (t : Int) (w : World) (ht : t < 0) :
    Calls Try.prog 27 #[v, .int .i64 t] w fun e w' => e = .returned (.tuple #[.slice none 0 0, .int .i64 1]) ∧ w' = w := by
  go_enter Try.func27, Try.ntmps27
  go_wp2_with fail
  go_ret2
  exact ⟨rfl, rfl⟩

theorem pow_any {p : Option Addr} {n c : Nat} {xs : List Nat} {a : Nat} {w : World} (h : At w p n c xs) (nA : Nf B64 xs a) (hn : n ≤ 8192) (t : Nat) (ht : t < 9223372036854775808) :
    Calls Try.prog 27 #[.slice p n c, .int .i64 t] w fun e w' => Ans w.heap.size w' e (a ^ t) ∧ Below w.heap.size w w' := by
  have fx := nA.form (by rw [h.len]; exact hn)
  have HA : Hid (Nf B64 xs a) := nA
  have HV : Hid (valB B64 xs = a) := nA.val
  have HLA : Hid (a < LIM) := nA.lim.1 (by rw [h.len]; exact hn)
  clear nA
  by_cases h0 : t = 0
  · subst h0
    go_enter Try.func27, Try.ntmps27
    go_wp2_with fail
    refine (form_true h fx).mono ?_
    rintro e w' ⟨rfl, hw⟩
    obtain rfl := hw.symm
    clear hw fx
    go_wp2_with fail
    refine (word_any 1 w (by decide)).mono ?_
    rintro e w1 ⟨p1, m1, zs, rfl, ho, hN, hm1, hb⟩
    have HN : Hid (Nf B64 zs 1) := hN
    clear hN
    go_wp2_with fail
    go_ret2
    rw [Nat.pow_zero]
    exact ⟨.inl ⟨LIM_one, p1, m1, zs, rfl, ho, HN.out, by omega⟩, hb⟩
  · have h0' : ((t : Int) == 0) = false := by simp; omega
    have hneg : decide ((t : Int) < 0) = false := by simp
    have H0 : Hid (0 < t) := by show 0 < t; omega
    have H63 : Hid (t < 9223372036854775808) := ht
    by_cases ha1 : a ≤ 1
    · have HB : Hid (bitsN (valB B64 xs) = a) := by
        rw [HV.out]
        rcases (show a = 0 ∨ a = 1 by omega) with rfl | rfl <;> rfl
      have HE : Hid (a ^ t = a) := by
        rcases (show a = 0 ∨ a = 1 by omega) with rfl | rfl
        · exact Nat.zero_pow (by omega)
        · exact Nat.one_pow t
      clear ht h0
      go_enter Try.func27, Try.ntmps27
      go_wp2_with fail
      refine (form_true h fx).mono ?_
      rintro e w' ⟨rfl, hw⟩
      obtain rfl := hw.symm
      clear hw fx
      go_wp2_with fail
      refine (bits_any h (by omega)).mono ?_
      rintro e w' ⟨rfl, hw⟩
      obtain rfl := hw.symm
      clear hw
      rw [HB.out]
      have hc : decide ((a : Int) - 1 < 1) = true := by simp; omega
      go_wp2_with fail
      refine (norm_any h).mono ?_
      rintro e w1 ⟨ha, hb⟩
      rw [HV.out] at ha
      obtain ⟨p1, m1, zs, rfl, ho, hN, hm1⟩ := ha.ok HLA.out
      have HN : Hid (Nf B64 zs a) := hN
      clear hN ha
      go_wp2_with fail
      go_ret2
      rw [HE.out]
      exact ⟨.inl ⟨HLA.out, p1, m1, zs, rfl, ho, HN.out, hm1⟩, hb⟩
    · have hb0 := bitsN_lt a
      have hb1 := bitsN_le a (by omega)
      obtain ⟨T, hT⟩ : ∃ T, bitsN a = T + 1 := by
        refine ⟨bitsN a - 1, ?_⟩
        have : bitsN a ≠ 0 := by intro e; rw [e] at hb0; simp at hb0; omega
        omega
      have hT0 : 0 < T := by
        rcases Nat.eq_zero_or_pos T with h | h
        · rw [hT, h] at hb0; simp at hb0; omega
        · exact h
      rw [hT, Nat.add_sub_cancel] at hb1
      have HB1 : Hid (2 ^ T ≤ a) := hb1
      have HT : Hid (bitsN (valB B64 xs) = T + 1) := by rw [HV.out]; exact hT
      have e1 : (524287 : Int).tdiv (T : Int) = ((524287 / T : Nat) : Int) := by
        rw [Int.tdiv_eq_ediv_of_nonneg (by omega)]; simp
      have hT0' : ((T : Int) == 0) = false := by simp; omega
      obtain ⟨Q, hQ⟩ : ∃ Q, Q = 524287 / T := ⟨_, rfl⟩
      have hQb : Q ≤ 524287 := by rw [hQ]; exact Nat.div_le_self _ _
      rw [← hQ] at e1
      have HQ : Hid (Q = 524287 / T) := hQ
      have HP : Hid (0 < a) := by show 0 < a; omega
      have hTb : T ≤ 524288 := by
        obtain ⟨k, hk⟩ : ∃ k, k = 524288 := ⟨_, rfl⟩
        have h2 := HLA.out
        rw [LIM_twoP k hk] at h2
        have := (Nat.pow_lt_pow_iff_right (a := 2) (by omega)).1 (Nat.lt_of_le_of_lt hb1 h2)
        omega
      clear hb0 hb1 hT hQ ha1
      clear ht h0
      go_enter Try.func27, Try.ntmps27
      go_wp2_with fail
      refine (form_true h fx).mono ?_
      rintro e w' ⟨rfl, hw⟩
      obtain rfl := hw.symm
      clear hw fx
      go_wp2_with fail
      refine (bits_any h (by omega)).mono ?_
      rintro e w' ⟨rfl, hw⟩
      obtain rfl := hw.symm
      clear hw
      rw [HT.out]
      have hT1 : decide ((T : Int) < 1) = false := by simp; omega
      by_cases hbig : Q < t
      · have hbig' : decide ((Q : Int) < (t : Int)) = true := by simp; omega
        go_wp2_with fail
        go_ret2
        exact ⟨.inr ⟨pow_lim HB1.out hT0 (by rw [← HQ.out]; exact hbig), rfl⟩, Below.refl _ _⟩
      · have hwr : IntKind.u64.wrap (t : Int) = t := by have := H63.out; rw [IntKind.wrap_u64]; omega
        have hbig' : decide ((Q : Int) < (t : Int)) = false := by simp; omega
        go_wp2_with fail
        refine (word_any t w (by have := H63.out; rw [B64_eq]; omega)).mono ?_
        rintro e w1 ⟨p1, m1, zs, rfl, ho, hN, hm1, hb⟩
        obtain rfl : zs = [t] := hN.inj B64_one (nf_one (by have := H63.out; rw [B64_eq]; omega) (by have := H0.out; omega))
        obtain rfl : 1 = m1 := ho.len
        have K1 := ho.at_ (by omega)
        obtain ⟨g, rfl, _, _⟩ := ho.mem.resolve_left (by omega)
        have h1 := h.below hb
        clear ho hN hm1
        go_wp2_with fail
        refine (climb_any h1 HA.out hn K1 HP.out H0.out).mono ?_
        rintro e w2 ⟨ha2, hb2⟩
        have hw2 := Below.on hb hb2
        have hsz := hb.size
        have HSZ : Hid (w.heap.size ≤ w1.heap.size) := hsz
        clear hb hb2 K1 h1 hsz
        rcases ha2 with ⟨hl, p2, m2, s2, rfl, ho, hN, hm2⟩ | ⟨hl, rfl⟩
        · have HL : Hid (a ^ t < LIM) := hl
          have HN : Hid (Nf B64 s2 (a ^ t)) := hN
          clear hl hN
          go_wp2_with fail
          go_ret2
          exact ⟨.inl ⟨HL.out, p2, m2, s2, rfl, own_le ho HSZ.out, HN.out, hm2⟩, hw2⟩
        · have HL : Hid (LIM ≤ a ^ t) := hl
          clear hl
          go_wp2_with fail
          go_ret2
          exact ⟨.inr ⟨HL.out, rfl⟩, hw2⟩
end Go.Proofs.Ytilceolgfahhoaa
namespace Go.Proofs.Ytilceolgfahhoaa
open Go.RowKit Go.Shelf
set_option maxRecDepth 20000
set_option maxHeartbeats 0
theorem DocIs.inj {v : Nat} {us us' : List Nat} {f f' : Int} (h : DocIs v us f) (k : DocIs v us' f') : us = us' ∧ f = f' := by
  rcases h with ⟨h1, h2, rfl⟩ | ⟨h1, rfl, rfl⟩ <;> rcases k with ⟨k1, k2, rfl⟩ | ⟨k1, rfl, rfl⟩
  · exact ⟨h2.inj B64_one k2, rfl⟩
  · omega
  · omega
  · exact ⟨rfl, rfl⟩
def PowIs (xs : List Nat) (t : Int) (us : List Nat) (f : Int) : Prop :=
  (t < 0 ∧ us = [] ∧ f = 1) ∨ (0 ≤ t ∧ formB xs = false ∧ us = [] ∧ f = 2) ∨ (0 ≤ t ∧ formB xs = true ∧ DocIs (valB B64 xs ^ t.toNat) us f)
theorem PowIs.inj {xs : List Nat} {t : Int} {us us' : List Nat} {f f' : Int} (h : PowIs xs t us f) (k : PowIs xs t us' f') : us = us' ∧ f = f' := by
  rcases h with ⟨h1, rfl, rfl⟩ | ⟨h1, h2, rfl, rfl⟩ | ⟨h1, h2, h3⟩ <;> rcases k with ⟨k1, rfl, rfl⟩ | ⟨k1, k2, rfl, rfl⟩ | ⟨k1, k2, k3⟩
  · exact ⟨rfl, rfl⟩
  · omega
  · omega
  · omega
  · exact ⟨rfl, rfl⟩
  · rw [k2] at h2; simp at h2
  · omega
  · rw [k2] at h2; simp at h2
  · exact h3.inj k3
theorem pow_noform {p : Option Addr} {n c : Nat} {xs : List Nat} {w : World} (h : At w p n c xs) (t : Int) (ht : 0 ≤ t) (hf : formB xs = false) :
    Calls Try.prog 27 #[.slice p n c, .int .i64 t] w fun e w' => e = .returned (.tuple #[.slice none 0 0, .int .i64 2]) ∧ w' = w := by
  have hneg : decide (t < 0) = false := decide_eq_false (by omega)
  go_enter Try.func27, Try.ntmps27
  go_wp2_with fail
  refine (form_any h).mono ?_
  rintro e w1 ⟨rfl, hw⟩
  rw [hf]
  obtain rfl := hw.symm
  clear hw hf
  go_wp2_with fail
  go_ret2
  exact ⟨rfl, rfl⟩
theorem lit_at32 (w : World) (x y : Nat) (hx : x < B32) (hy : y < B32) : At32 (w.alloc (.cells #[V x, V y] 85)) (some ⟨w.heap.size, 0, none⟩) 2 2 [x, y] := by
  refine ⟨rfl, Nat.le_refl _, by decide, ?_, .inr ⟨w.heap.size, 0, rfl, ?_⟩⟩
  · intro z hz
    simp at hz
    rcases hz with rfl | rfl <;> assumption
  · intro j hj
    match j, hj with
    | 0, _ => exact World.cell?_alloc_new ..
    | 1, _ => exact World.cell?_alloc_new ..
theorem nf32_one : Nf B32 [1] 1 := ⟨by intro x hx; simp at hx; subst hx; decide, by intro x hx; simp at hx; omega, by simp [valB]⟩

theorem rword1 (w : World) : Calls Try.prog 37 #[.int .u64 1] w fun e w' => ∃ g, e = .returned (.slice (some ⟨g, 0, none⟩) 1 1) ∧ At32 w' (some ⟨g, 0, none⟩) 1 1 [1] ∧ Below w.heap.size w w' := by
  go_enter Try.func37, Try.ntmps37
  go_wp2_with fail
  refine (rnorm_any (lit_at32 w 1 0 (by decide) (by decide)) (by omega)).mono ?_
  rw [show trimL [1, 0] = [1] from by decide]
  rintro e w1 ⟨g, rfl, hg, hb, hbl⟩
  have HB : Hid (Blk32 w1 g [1]) := hb
  have hbw := Below.on (below1 w _) hbl
  clear hb hbl
  go_wp2_with fail
  go_ret
  exact ⟨g, rfl, HB.out.at_ nf32_one.dig rfl (by decide), hbw⟩

theorem pow_mono_lim {a m n : Nat} (ha : 1 ≤ a) (h : LIM ≤ a ^ m) (hm : m ≤ n) : LIM ≤ a ^ n := Nat.le_trans h (Nat.pow_le_pow_right ha hm)

theorem and_one_i64 (i : Nat) (hi : i < 9223372036854775808) : bits BinOp.and IntKind.i64 (i : Int) 1 = ((i % 2 : Nat) : Int) := by
  have h1 : (BitVec.ofInt 64 1).toNat = 2 ^ 1 - 1 := by decide
  have key : (BitVec.ofInt 64 (i : Int) &&& BitVec.ofInt 64 1).toNat = ((i : Int) % ((2 ^ 64 : Nat) : Int)).toNat % 2 ^ 1 := by
    rw [BitVec.toNat_and, BitVec.toNat_ofInt, h1, Nat.and_two_pow_sub_one_eq_mod]
  show IntKind.i64.wrap ((BitVec.ofInt 64 (i : Int) &&& BitVec.ofInt 64 1).toNat : Nat) = _
  rw [key, IntKind.wrap_i64]
  omega
theorem two_pow_lim {v t b : Nat} (hv : 2 ≤ v) (hb : b = bitsN v) (h : 524288 < (b - 1) * t + 1 ∨ 524288 < t) : LIM ≤ v ^ t := by
  obtain ⟨E, hE⟩ : ∃ E, E = 524288 := ⟨_, rfl⟩
  rw [LIM_twoM hE]
  have h1 := bitsN_le v (by omega)
  rw [← hb] at h1
  rcases h with h | h
  · refine Nat.le_trans ?_ (Nat.pow_le_pow_left h1 t)
    rw [← Nat.pow_mul]
    exact Nat.pow_le_pow_right (by decide) (by omega)
  · refine Nat.le_trans ?_ (Nat.pow_le_pow_left hv t)
    exact Nat.pow_le_pow_right (by decide) (by omega)
theorem cmpN_one (v : Nat) : (((cmpN v 1 : Int)) == 0) = decide (v = 1) := by
  unfold cmpN
  by_cases h : v < 1
  · simp [h]; omega
  · by_cases h2 : v = 1
    · subst h2; simp
    · simp [h, h2]
theorem doc_one : DocIs 1 [1] 0 := .inl ⟨LIM_one, nf_one (by decide) (by decide), rfl⟩
theorem divsmall_abs {L x d B V W q r : Nat} (h : V * d + L = W) (hq : L * B + x = q * d + r) : (q + B * V) * d + r = x + B * W := by
  rw [← h, Nat.add_mul, Nat.mul_add]
  have e : B * V * d = B * (V * d) := by rw [Nat.mul_assoc]
  rw [e]
  have e2 : B * L = L * B := Nat.mul_comm _ _
  omega
theorem drop_set_self (qs : List Nat) (j y : Nat) (h : j < qs.length) : (qs.set j y).drop j = y :: qs.drop (j + 1) := by
  rw [List.drop_eq_getElem_cons (by simpa using h), List.getElem_set_self, List.drop_set_of_lt (by omega)]

theorem bSet0 {B : Nat} {a w : World} (h : Below B a w) (g o : Nat) (v : Value) (hB : B ≤ g) : Below B a (w.setCell ⟨g, o, none⟩ v) :=
  h.trans ((Wr.refl g o 1 w).setCell o ⟨by omega, by omega⟩ v |>.below hB)
structure DSm (w : World) (g n d : Nat) (xs : List Nat) (k L : Nat) (qs : List Nat) (wr : World) : Prop where
  bel : Below w.heap.size w wr
  row : Row32 wr g 0 n qs
  lt : L < d
  val : valB B32 (qs.drop k) * d + L = valB B32 (xs.drop k)

theorem rdivsmall {p : Option Addr} {n c : Nat} {xs : List Nat} {w : World} (h : At32 w p n c xs) (hn : n ≤ 1099511627776) (d : Nat) (hd : 1 ≤ d) (hdb : d < B32) :
    Calls Try.prog 59 #[.slice p n c, .int .u32 d] w fun e w' => ∃ p' m' zs r, e = .returned (.tuple #[.slice p' m' m', .int .u32 r]) ∧ At32 w' p' m' m' zs ∧ Nf B32 zs (valB B32 xs / d) ∧ m' ≤ n ∧ Below w.heap.size w w' := by
  obtain ⟨i0, hi, hz0, hz1, hz2⟩ := info_parts Try.infoU32
  have HLX : Hid (xs.length = n) := h.len
  have hcap := h.cap; have hbig := h.big
  unfold maxLen at hbig
  have hd0 : ((d : Int) == 0) = false := by simp; omega
  have HDB : Hid (1 ≤ d ∧ d < B32) := ⟨hd, hdb⟩
  have hdw : IntKind.u64.wrap (d : Int) = (d : Int) := wrap_mod _ _ (by rw [B32_eq] at hdb; omega)
  clear hdb
  go_enter Try.func59, Try.ntmps59
  go_wp2_with (at_make; refine wpList_make_full _ rfl _ _ 65 rfl w.heap.size 85 i0 (.int .u32 0) 1 Try.underlying65 hi hz0 hz1 _ _ _ _ n rfl rfl (by omega) (by omega) (by rw [hz2]; omega) (by unfold maxLen; omega) (Nat.le_refl _) ?_; intro w1 hown hgrow; have hb := made_blk32 hown hgrow; clear hown hgrow)
  have HO : Hid (DSm w w.heap.size n d xs n 0 (List.replicate n 0) w1) := by
    have hr := hb.1.row (Dig.replicate B32 n B32_pos)
    rw [List.length_replicate] at hr
    refine ⟨hb.2, hr, by omega, ?_⟩
    rw [List.drop_of_length_le (by rw [List.length_replicate]; exact Nat.le_refl _), List.drop_of_length_le (by rw [HLX.out]; exact Nat.le_refl _)]
    simp [valB]
  clear hb
  go_loopg [7, 8] n (fun gk lv iv wr => ∃ (L : Nat) (z : Int) (qs : List Nat), lv = U L ∧ iv = .int .i64 z ∧ z = (gk : Int) - 1 ∧ gk ≤ n ∧ Hid (DSm w w.heap.size n d xs gk L qs wr))
  case atStart => exact ⟨0, (n : Int) - 1, _, rfl, rfl, rfl, Nat.le_refl _, HO⟩
  case round =>
    obtain ⟨L, z, qs, rfl, rfl, hz, hgn, HR⟩ := hrel
    cases gk with
    | zero =>
      obtain rfl : z = -1 := by omega
      have hR := HR.out
      have A32 : At32 wr (some ⟨w.heap.size, 0, none⟩) n n qs := hR.row.at_ (Nat.le_refl _) (by unfold maxLen; omega)
      have hv := hR.val
      rw [List.drop_zero, List.drop_zero] at hv
      have HV : Hid (valB B32 qs = valB B32 xs / d) := by
        show _ = _
        have h1 := hR.lt
        rw [← hv, Nat.mul_comm, Nat.mul_add_div (by omega), Nat.div_eq_of_lt h1, Nat.add_zero]
      have HNF : Hid (Nf B32 (trimL qs) (valB B32 xs / d)) := by
        have := Nf.trim hR.row.dig
        rw [HV.out] at this; exact this
      have hle := trimL_length_le qs
      have HLE : Hid ((trimL qs).length ≤ n) := by have := hR.row.len; show _ ≤ _; omega
      have hLw : IntKind.u32.wrap (L : Int) = (L : Int) := wrap32 L (by have := hR.lt; have := HDB.out.2; omega)
      have hbx := hR.bel
      clear hR hv hle hz HR
      go_wp2_with fail
      refine (rnorm_any A32 (by omega)).mono ?_
      rintro e w5 ⟨g5, rfl, hg5, hblk5, hb5⟩
      have hd5 := HNF.out.dig
      generalize trimL qs = us at *
      go_wp2_with fail
      go_ret2
      exact ⟨_, _, us, _, rfl, hblk5.at_ hd5 rfl (by have := HLE.out; unfold maxLen; omega), HNF.out, HLE.out, Below.on hbx hb5⟩
    | succ j =>
      obtain rfl : z = (j : Int) := by omega
      obtain ⟨g, off, rfl, hc⟩ := h.cells.resolve_left (by omega)
      obtain ⟨x, hx⟩ : ∃ x, x = xs.getD j 0 := ⟨_, rfl⟩
      have hcx0 : w.cell? ⟨g, off + j, none⟩ = some (V x) := by rw [hx]; exact hc j (by omega)
      have hcx : wr.cell? ⟨g, off + j, none⟩ = some (V x) := (HR.out.bel.cell (p := ⟨g, off + j, none⟩) (World.block_lt_of_cell? w _ hcx0)).trans hcx0
      have hxb : x < B32 := by rw [hx]; exact h.dig.getD B32_pos j
      have hjn : j < n := by omega
      have hct : wr.cell? ⟨w.heap.size, j, none⟩ = some (V (qs.getD j 0)) := by
        have := HR.out.row.cell j hjn
        rw [Nat.zero_add] at this; exact this
      have hft : wr.frozen? ⟨w.heap.size, j, none⟩ = false := by
        have := HR.out.row.frozen j hjn
        rw [Nat.zero_add] at this; exact this
      have hL := HR.out.lt
      have hdB := HDB.out.2
      rw [B32_eq] at hdB hxb
      obtain ⟨T, hT⟩ : ∃ T, T = L * 4294967296 + x := ⟨_, rfl⟩
      obtain ⟨lh, hlh⟩ : ∃ lh, lh = L * 4294967296 := ⟨_, rfl⟩
      have f1 : IntKind.u64.wrap ((L : Int) * 4294967296) = (lh : Int) := wrap_mod _ _ (by omega)
      have f2 : IntKind.u64.wrap ((lh : Int) + (x : Int)) = (T : Int) := wrap_mod _ _ (by omega)
      have fx : IntKind.u64.wrap (x : Int) = (x : Int) := wrap_mod _ _ (by omega)
      obtain ⟨Q, hQ⟩ : ∃ Q, Q = T / d := ⟨_, rfl⟩
      obtain ⟨R, hRr⟩ : ∃ R, R = T % d := ⟨_, rfl⟩
      have q1 : (T : Int).tdiv (d : Int) = (Q : Int) := by rw [hQ, Int.tdiv_eq_ediv_of_nonneg (Int.natCast_nonneg T)]; norm_cast
      have q2 : (T : Int) / (d : Int) = (Q : Int) := by rw [hQ]; norm_cast
      have r1 : (T : Int).tmod (d : Int) = (R : Int) := by rw [hRr, Int.tmod_eq_emod_of_nonneg (Int.natCast_nonneg T)]; norm_cast
      have r2 : (T : Int) % (d : Int) = (R : Int) := by rw [hRr]; norm_cast
      have hRd : R < d := by rw [hRr]; exact Nat.mod_lt _ hd
      have hQB : Q < B32 := by
        rw [hQ, B32_eq]
        refine Nat.div_lt_of_lt_mul ?_
        have : L * 4294967296 + 4294967296 ≤ d * 4294967296 := by
          have := Nat.mul_le_mul_right 4294967296 (show L + 1 ≤ d by omega)
          rw [Nat.add_mul] at this; omega
        omega
      have fq : IntKind.u32.wrap (Q : Int) = (Q : Int) := wrap32 Q hQB
      have fq2 : IntKind.u64.wrap (Q : Int) = (Q : Int) := wrap_mod _ _ (by rw [B32_eq] at hQB; omega)
      have fq3 : (Q : Int) % 4294967296 = (Q : Int) := by rw [B32_eq] at hQB; omega
      have hQR : L * B32 + x = Q * d + R := by rw [B32_eq, ← hT, hQ, hRr, Nat.mul_comm]; exact (Nat.div_add_mod T d).symm
      have HS : Hid (DSm w w.heap.size n d xs j R (qs.set j Q) (wr.setCell ⟨w.heap.size, j, none⟩ (V Q))) := by
        have hR := HR.out
        have hs := hR.row.set j Q hjn hQB
        rw [Nat.zero_add] at hs
        refine ⟨bSet0 hR.bel _ _ _ (Nat.le_refl _), hs, hRd, ?_⟩
        rw [drop_set_self qs j Q (by rw [hR.row.len]; exact hjn), valB_cons, valB_drop B32 xs j (by rw [HLX.out]; exact hjn), ← hx]
        exact divsmall_abs hR.val hQR
      clear hz HR hc hx hcx0 hQ hRr hT hlh hQR hL hdB hxb hRd hQB
      go_wp2_with fail
      go_roundg j
      case measure => omega
      case rel => exact ⟨R, (j : Int) - 1, qs.set j Q, rfl, rfl, rfl, by omega, HS⟩
theorem At32.drop {w : World} {g off n c : Nat} {xs : List Nat} (h : At32 w (some ⟨g, off, none⟩) n c xs) (k : Nat) (hk : k < n) : At32 w (some ⟨g, off + k, none⟩) (n - k) (c - k) (xs.drop k) := by
  refine ⟨by rw [List.length_drop, h.len], by have := h.cap; omega, by have := h.big; unfold maxLen at *; omega, h.dig.drop k, .inr ⟨g, off + k, rfl, fun j hj => ?_⟩⟩
  rcases h.cells with h0 | ⟨g', off', he, hc⟩
  · omega
  · simp only [Option.some.injEq, Addr.mk.injEq, and_true] at he
    obtain ⟨rfl, rfl⟩ := he
    have := hc (k + j) (by omega)
    rw [Nat.add_assoc, this]
    congr 2
    simp [List.getD_eq_getElem?_getD, List.getElem?_drop]
theorem drop_div32 {xs : List Nat} {v k : Nat} (hx : Nf B32 xs v) (hk : k ≤ xs.length) : valB B32 (xs.drop k) = v / B32 ^ k := by
  have h1 := valB_split B32 xs k hk
  have h2 := valB_lt B32_pos (hx.dig.take k)
  rw [List.length_take, Nat.min_eq_left hk] at h2
  rw [← hx.val, h1, Nat.add_mul_div_left _ _ (Nat.pow_pos B32_pos), Nat.div_eq_of_lt h2, Nat.zero_add]
theorem take_mod32 {xs : List Nat} {v k : Nat} (hx : Nf B32 xs v) (hk : k ≤ xs.length) : valB B32 (xs.take k) = v % B32 ^ k := by
  have h1 := valB_split B32 xs k hk
  have h2 := valB_lt B32_pos (hx.dig.take k)
  rw [List.length_take, Nat.min_eq_left hk] at h2
  rw [← hx.val, h1, Nat.add_mul_mod_self_left, Nat.mod_eq_of_lt h2]

theorem rword0 (w : World) : Calls Try.prog 37 #[.int .u64 0] w fun e w' => ∃ g, e = .returned (.slice (some ⟨g, 0, none⟩) 0 0) ∧ Below w.heap.size w w' := by
  go_enter Try.func37, Try.ntmps37
  go_wp2_with fail
  refine (rnorm_any (lit_at32 w 0 0 (by decide) (by decide)) (by omega)).mono ?_
  rw [show trimL [0, 0] = [] from by decide]
  rintro e w1 ⟨g, rfl, hg, hb, hbl⟩
  have hbw := Below.on (below1 w _) hbl
  clear hb hbl
  go_wp2_with fail
  go_ret
  exact ⟨g, rfl, hbw⟩
theorem nf32_nil : Nf B32 [] 0 := ⟨Dig.nil _, by intro x hx; simp at hx, rfl⟩

theorem rshr64 {p : Option Addr} {n c : Nat} {xs : List Nat} {v : Nat} {w : World} (h : At32 w p n c xs) (hx : Nf B32 xs v) (hn : n ≤ 16384) (k : Nat) (hk : 1 ≤ k) (hk2 : k ≤ 8192) (N : Nat) (hN : N = 64 * k) :
    Calls Try.prog 43 #[.slice p n c, .int .i64 N] w fun e w' => ∃ p' m' zs, e = .returned (.slice p' m' m') ∧ At32 w' p' m' m' zs ∧ Nf B32 zs (v / B64 ^ k) ∧ m' ≤ n ∧ Below w.heap.size w w' := by
  have HX : Hid (Nf B32 xs v) := hx
  have hl := h.len
  have cap := h.cap
  have big := h.big
  unfold maxLen at big
  obtain ⟨D, hD⟩ : ∃ D, D = 2 * k := ⟨_, rfl⟩
  have d1 : (N : Int).tdiv 32 = (D : Int) := by rw [Int.tdiv_eq_ediv_of_nonneg (by omega)]; omega
  have d2 : (N : Int).tmod 32 = 0 := by rw [Int.tmod_eq_emod_of_nonneg (by omega)]; omega
  have hNp : ¬ (N : Int) ≤ 0 := by omega
  have hN0 : ¬ N = 0 := by omega
  have hDb : D ≤ 16384 := by omega
  have hD0 : ¬ D = 0 := by omega
  have hD1 : 0 < D := by omega
  have hwD : IntKind.i64.wrap (D : Int) = (D : Int) := by simp [IntKind.wrap, IntKind.signed, IntKind.bits]; omega
  have hNb : decide (N = 0) = false := decide_eq_false hN0
  have HD : Hid (B64 ^ k = B32 ^ D) := by rw [hD]; exact B64_sq k
  have HLX : Hid (xs.length = n) := hl
  clear hx hD hN hl
  by_cases hc : n ≤ D
  · have hci : (n : Int) ≤ (D : Int) := by omega
    have hcb : decide (n ≤ D) = true := decide_eq_true hc
    have HZ : Hid (v / B64 ^ k = 0) := by
      show _ = _
      rw [HD.out]
      refine Nat.div_eq_of_lt ?_
      exact nf32_lt HX.out (by rw [HLX.out]; exact hc)
    clear h
    go_enter Try.func43, Try.ntmps43
    go_wp2_with fail
    refine (rword0 w).mono ?_
    rintro e w1 ⟨g, rfl, hb⟩
    go_wp2_with fail
    go_ret
    exact ⟨_, 0, [], rfl, At32.empty _ _ 0 (by decide), by rw [HZ.out]; exact nf32_nil, by omega, hb⟩
  · have hci : ¬ (n : Int) ≤ (D : Int) := by omega
    have hcb : decide (n ≤ D) = false := decide_eq_false hc
    have hDn : D < n := by omega
    have hDc : D < c := by omega
    have hDc2 : D ≤ c := by omega
    have hcD : ¬ c = D := by omega
    have hcD2 : ¬ c - D = 0 := by omega
    have hnD2 : ¬ n - D = 0 := by omega
    have hDn2 : D ≤ n := by omega
    obtain ⟨g, off, rfl, hcs⟩ := h.cells.resolve_left (by omega)
    have A1 : Hid (At32 w (some ⟨g, off + D, none⟩) (n - D) (c - D) (xs.drop D)) := h.drop D hDn
    have HV : Hid (valB B32 (xs.drop D) = v / B64 ^ k) := by rw [HD.out]; exact drop_div32 HX.out (by rw [HLX.out]; omega)
    clear h hcs
    go_enter Try.func43, Try.ntmps43
    go_wp2_with fail
    have A1d : Hid (At32 w.drew (some ⟨g, off + D, none⟩) (n - D) (c - D) (xs.drop D)) := A1.out.drewN 1
    have hbd : Below w.heap.size w w.drew := bDrew (Below.refl _ _)
    clear A1
    (go_region_with (go_at_call 59; rw [show Value.int IntKind.u32 (IntKind.u32.wrap 1) = .int .u32 ((1 : Nat) : Int) from rfl]; refine (rdivsmall A1d.out (by omega) 1 (by omega) (by decide)).mono ?_; rintro e w1 ⟨p1, m1, z1, r1, rfl, hA1, hN1, hm1, hb1⟩; have A2 : Hid (At32 w1 p1 m1 m1 z1) := hA1; have N2 : Hid (Nf B32 z1 (v / B64 ^ k)) := (by rw [Nat.div_one, HV.out] at hN1; exact hN1); have hbw : Below w.heap.size w w1 := Below.on hbd hb1; have hm1' : m1 ≤ n := (by omega); clear hA1 hN1 hb1))
    all_goals
      (go_wp2_with fail
       go_ret
       exact ⟨p1, m1, z1, rfl, A2.out, N2.out, hm1', hbw⟩)
structure RAddR (w : World) (g N M : Nat) (xs ys : List Nat) (i cy : Nat) (ss : List Nat) (wr : World) : Prop where
  bel : Below g w wr
  own : wr.ownsRow g 85 1 (.slice (some ⟨g, 0, none⟩) i N) i (cellsV ss)
  len : ss.length = i
  dig : Dig B32 ss
  car : cy ≤ 1
  fin : i ≤ M + 1
  last : i = M + 1 → cy = 0
  sum : valB B32 ss + B32 ^ i * cy = valB B32 (xs.take i) + valB B32 (ys.take i)
theorem radd_step {xs ys ss : List Nat} {i cy x y lo hh : Nat} (h : valB B32 ss + B32 ^ i * cy = valB B32 (xs.take i) + valB B32 (ys.take i)) (hl : ss.length = i) (ex : x = xs.getD i 0) (ey : y = ys.getD i 0) (hs : cy + x + y = lo + B32 * hh) :
    valB B32 (ss ++ [lo]) + B32 ^ (i + 1) * hh = valB B32 (xs.take (i + 1)) + valB B32 (ys.take (i + 1)) := by
  rw [valB_snoc, hl, valB_take_any _ xs i, valB_take_any _ ys i, ← ex, ← ey, Nat.pow_succ]
  have e1 : B32 ^ i * (cy + x + y) = B32 ^ i * (lo + B32 * hh) := by rw [hs]
  rw [Nat.mul_add, Nat.mul_add, Nat.mul_add, ← Nat.mul_assoc] at e1
  omega
theorem RAddR.at_ {w : World} {g N M : Nat} {xs ys : List Nat} {i cy : Nat} {ss : List Nat} {wr : World} (h : RAddR w g N M xs ys i cy ss wr) : At32 wr (some ⟨g, 0, none⟩) i N ss := by
  rcases h.own.2 with ⟨h', _⟩ | ⟨g', cap', cur, h', hbase, hgc, hcap', hmx, hsz, htake⟩
  · simp at h'
  · simp only [Value.slice.injEq, Option.some.injEq, Addr.mk.injEq, and_true, true_and] at h'
    obtain ⟨rfl, rfl⟩ := h'
    refine ⟨h.len, hcap', hmx, h.dig, .inr ⟨g, 0, rfl, fun jj hj => ?_⟩⟩
    rw [Nat.zero_add, cell_of_row wr g jj _ _ _ hgc]
    have e1 := cellsV_get ss jj (by rw [h.len]; exact hj)
    rw [← htake, Nat.mul_one, List.getElem?_take, if_pos hj] at e1
    rw [← Array.getElem?_toList]; exact e1
theorem one_cell (w : World) (x : Nat) : ∀ (j : Nat) (u : Value), [V x][j]? = some u → (w.alloc (.cells #[V x] 85)).cell? ((⟨w.heap.size, 0, none⟩ : Addr).add j) = some u := by
  intro j u h
  have hb : Blk32 (w.alloc (.cells #[V x] 85)) w.heap.size [x] := heap_alloc_new w _
  have hj : j < 1 := by
    have := (List.getElem?_eq_some_iff.1 h).1
    simpa using this
  have hadd : (⟨w.heap.size, 0, none⟩ : Addr).add j = ⟨w.heap.size, j, none⟩ := by unfold Addr.add; split <;> simp_all
  rw [hadd, hb.cell j (by simpa using hj)]
  obtain rfl : j = 0 := by omega
  simpa using h

theorem radd_any {p q : Option Addr} {n m c d : Nat} {xs ys : List Nat} {a b : Nat} {w : World} (h : At32 w p n c xs) (k : At32 w q m d ys) (hx : Nf B32 xs a) (hy : Nf B32 ys b) (hn : n ≤ 4398046511104) (hm : m ≤ 4398046511104) :
    Calls Try.prog 45 #[.slice p n c, .slice q m d] w fun e w' => ∃ p' m' zs, e = .returned (.slice p' m' m') ∧ At32 w' p' m' m' zs ∧ Nf B32 zs (a + b) ∧ Below w.heap.size w w' := by
  obtain ⟨i0, hi, hz0, hz1, hz2⟩ := info_parts Try.infoU32
  have HX : Hid (Nf B32 xs a) := hx
  have HY : Hid (Nf B32 ys b) := hy
  have HLX : Hid (xs.length = n) := h.len
  have HLY : Hid (ys.length = m) := k.len
  have hcap := h.cap; have hbig := h.big; have kcap := k.cap; have kbig := k.big
  unfold maxLen at hbig kbig
  obtain ⟨M, hM⟩ : ∃ M, M = max n m := ⟨_, rfl⟩
  have hM1 : n ≤ M := by omega
  have hM2 : m ≤ M := by omega
  have HM : Hid (M = n ∨ M = m) := by show _ ∨ _; omega
  have hMi : max (n : Int) (m : Int) = (M : Int) := by omega
  have hMb : M ≤ 4398046511104 := by omega
  clear hx hy hM
  go_enter Try.func45, Try.ntmps45
  go_wp2_with (at_make; refine wpList_make_own _ rfl _ _ 65 rfl w.heap.size 85 i0 (.int .u32 0) 1 Try.underlying65 hi hz0 hz1 _ _ _ (M + 1) rfl rfl (by omega) (by rw [hz2]; omega) (by unfold maxLen; omega) (Nat.le_refl _) ?_; intro w1 hown hgrow)
  have hb1 : Below w.heap.size w w1 := (Below.refl _ _).grown hgrow (Nat.le_refl _) (fun k hk => by simp at hk)
  have HO : Hid (RAddR w w.heap.size (M + 1) M xs ys 0 0 [] w1) := ⟨hb1, hown, rfl, Dig.nil _, by omega, by omega, fun _ => rfl, by simp [valB]⟩
  clear hown hgrow hb1 hMi
  obtain ⟨N, hN⟩ : ∃ N, N = M + 1 := ⟨_, rfl⟩
  rw [← hN] at HO ⊢
  have HN : Hid (N = M + 1) := hN
  clear hN
  -- the loop
  go_loopg [5, 6, 7] (M + 1) (fun gk sv cv iv wr => ∃ (i cy : Nat) (ss : List Nat), i + gk = M + 1 ∧ iv = .int .i64 i ∧ cv = U cy ∧ sv = .slice (some ⟨w.heap.size, 0, none⟩) i N ∧ Hid (RAddR w w.heap.size N M xs ys i cy ss wr))
  case atStart => exact ⟨0, 0, [], by omega, rfl, rfl, rfl, HO⟩
  case round =>
    obtain ⟨i, cy, ss, hig, rfl, rfl, rfl, HR⟩ := hrel
    have hcy := HR.out.car
    by_cases hall : ¬ i < n ∧ ¬ i < m ∧ cy = 0
    · obtain ⟨ha, hb, rfl⟩ := hall
      have A32 := HR.out.at_
      have hv := HR.out.sum
      rw [Nat.mul_zero, Nat.add_zero, List.take_of_length_le (by rw [HLX.out]; omega), List.take_of_length_le (by rw [HLY.out]; omega), HX.out.val, HY.out.val] at hv
      have HNF : Hid (Nf B32 (trimL ss) (a + b)) := by
        have := Nf.trim HR.out.dig
        rw [hv] at this; exact this
      have hle := trimL_length_le ss
      have HLE : Hid ((trimL ss).length ≤ M + 1) := by have := HR.out.len; have := HR.out.fin; show _ ≤ _; omega
      have hib := HR.out.fin
      have hbx := HR.out.bel
      have hc0 : ¬ (0 : Int) < ((0 : Nat) : Int) := by omega
      clear hv hle
      go_wp2_with fail
      refine (rnorm_any A32 (by omega)).mono ?_
      rintro e w5 ⟨g5, rfl, hg5, hblk5, hb5⟩
      have hd5 := HNF.out.dig
      generalize trimL ss = zs at *
      go_wp2_with fail
      go_ret
      exact ⟨_, _, zs, rfl, hblk5.at_ hd5 rfl (by have := HLE.out; unfold maxLen; omega), HNF.out, Below.on hbx hb5⟩
    · obtain ⟨x, hx⟩ : ∃ x, x = xs.getD i 0 := ⟨_, rfl⟩
      obtain ⟨y, hy⟩ : ∃ y, y = ys.getD i 0 := ⟨_, rfl⟩
      have hxb : x < B32 := by rw [hx]; exact HX.out.dig.getD B32_pos i
      have hyb : y < B32 := by rw [hy]; exact HY.out.dig.getD B32_pos i
      have HXE : Hid (x = xs.getD i 0) := hx
      have HYE : Hid (y = ys.getD i 0) := hy
      clear hx hy
      cases gk with
      | zero =>
        exfalso
        have h1 := HR.out.last (by omega)
        exact hall ⟨by omega, by omega, h1⟩
      | succ gg =>
        by_cases ha : i < n
        · by_cases hb : i < m
          · have hin : i < n := ha
            obtain ⟨g, off, rfl, hc⟩ := h.cells.resolve_left (by omega)
            have hcx0 : w.cell? ⟨g, off + i, none⟩ = some (V x) := by rw [HXE.out]; exact hc i hin
            have hcx : wr.cell? ⟨g, off + i, none⟩ = some (V x) := (HR.out.bel.cell (p := ⟨g, off + i, none⟩) (World.block_lt_of_cell? w _ hcx0)).trans hcx0
            have hxw : IntKind.u64.wrap (x : Int) = (x : Int) := wrap_mod _ _ (by rw [B32_eq] at hxb; omega)
            clear hc hcx0
            have him : i < m := hb
            obtain ⟨g2, off2, rfl, hc2⟩ := k.cells.resolve_left (by omega)
            have hcy0 : w.cell? ⟨g2, off2 + i, none⟩ = some (V y) := by rw [HYE.out]; exact hc2 i him
            have hcy1 : wr.cell? ⟨g2, off2 + i, none⟩ = some (V y) := (HR.out.bel.cell (p := ⟨g2, off2 + i, none⟩) (World.block_lt_of_cell? w _ hcy0)).trans hcy0
            have hyw : IntKind.u64.wrap (y : Int) = (y : Int) := wrap_mod _ _ (by rw [B32_eq] at hyb; omega)
            clear hc2 hcy0
            obtain ⟨t1, et1⟩ : ∃ t1, t1 = cy + x := ⟨_, rfl⟩
            obtain ⟨t2, et2⟩ : ∃ t2, t2 = t1 + y := ⟨_, rfl⟩
            rw [B32_eq] at hxb hyb
            have f1 : IntKind.u64.wrap ((cy : Int) + (x : Int)) = (t1 : Int) := wrap_mod _ _ (by omega)
            have f2 : IntKind.u64.wrap ((t1 : Int) + (y : Int)) = (t2 : Int) := wrap_mod _ _ (by omega)
            have ht2 : t2 < 18446744073709551616 := by omega
            obtain ⟨lo, elo⟩ : ∃ lo, lo = t2 % B32 := ⟨_, rfl⟩
            obtain ⟨hh, ehh⟩ : ∃ hh, hh = t2 / B32 := ⟨_, rfl⟩
            have hlob : lo < B32 := by rw [elo]; exact Nat.mod_lt _ B32_pos
            have hhb : hh ≤ 1 := by rw [ehh, B32_eq]; omega
            have f4 : bits .and .u64 (t2 : Int) 4294967295 = (lo : Int) := by rw [elo, B32_eq]; exact and32 t2 ht2
            have f5 : (t2 : Int) / 4294967296 = (hh : Int) := by rw [ehh, B32_eq]; exact div32 t2
            have f6 : IntKind.u32.wrap (lo : Int) = (lo : Int) := wrap32 lo hlob
            have HSUM : Hid (cy + x + y = lo + B32 * hh) := by
              have := Nat.mod_add_div t2 B32
              rw [← elo, ← ehh] at this
              show _ = _; omega
            have HLAST : Hid (i + 1 = M + 1 → hh = 0) := by
              intro hl
              exfalso; omega
            have HI1 : Hid (i + 1 ≤ M + 1) := by
              have h1 := HR.out.fin; have h2 := HR.out.last
              show _ ≤ _; omega
            have HOA : Hid ((wr.alloc (.cells #[V lo] 85)).ownsRow w.heap.size 85 1 (.slice (some ⟨w.heap.size, 0, none⟩) i N) i (cellsV ss)) := HR.out.own.alloc _
            have hsp : i + 1 ≤ N := by have := HI1.out; have := HN.out; omega
            clear et1 et2 elo ehh hxb hyb
            go_wp2_with (at_builtin; refine wpList_append_fits _ rfl (.tmp 53) (.tmp 57) 65 rfl w.heap.size 85 i0 1 Try.underlying65 hi hz1 w.heap.size i N (cellsV ss) rfl HOA.out ⟨wr.heap.size, 0, none⟩ 1 1 [V lo] rfl rfl (one_cell wr lo) (by intro u hu; simp at hu; subst hu; rfl) hsp ?_; intro w3 hw3 hgr3)
            have HR3 : Hid (RAddR w w.heap.size N M xs ys (i + 1) hh (ss ++ [lo]) w3) := by
              have hR := HR.out
              refine ⟨(hR.bel.alloc hR.bel.size _).grown hgr3 (by have := hR.bel.size; simp; omega) (fun q hq => by simp at hq; omega), ?_, by simp [hR.len], hR.dig.append (Dig.cons hlob (Dig.nil _)), hhb, HI1.out, HLAST.out, radd_step hR.sum hR.len HXE.out HYE.out HSUM.out⟩
              have e0 : cellsV (ss ++ [lo]) = cellsV ss ++ [V lo] := by unfold cellsV; rw [List.map_append]; rfl
              rw [e0]; exact hw3
            clear hw3 hgr3
            go_roundg gg
            case measure => omega
            case rel => exact ⟨i + 1, hh, ss ++ [lo], by omega, by go_num, rfl, rfl, HR3⟩
          · have hin : i < n := ha
            obtain ⟨g, off, rfl, hc⟩ := h.cells.resolve_left (by omega)
            have hcx0 : w.cell? ⟨g, off + i, none⟩ = some (V x) := by rw [HXE.out]; exact hc i hin
            have hcx : wr.cell? ⟨g, off + i, none⟩ = some (V x) := (HR.out.bel.cell (p := ⟨g, off + i, none⟩) (World.block_lt_of_cell? w _ hcx0)).trans hcx0
            have hxw : IntKind.u64.wrap (x : Int) = (x : Int) := wrap_mod _ _ (by rw [B32_eq] at hxb; omega)
            clear hc hcx0
            have hy0 : y = 0 := by rw [HYE.out, List.getD_eq_getElem?_getD, List.getElem?_eq_none (by rw [HLY.out]; omega)]; rfl
            obtain ⟨t1, et1⟩ : ∃ t1, t1 = cy + x := ⟨_, rfl⟩
            obtain ⟨t2, et2⟩ : ∃ t2, t2 = t1 + y := ⟨_, rfl⟩
            rw [B32_eq] at hxb hyb
            have f1 : IntKind.u64.wrap ((cy : Int) + (x : Int)) = (t1 : Int) := wrap_mod _ _ (by omega)
            obtain rfl : t2 = t1 := by omega
            have ht2 : t2 < 18446744073709551616 := by omega
            obtain ⟨lo, elo⟩ : ∃ lo, lo = t2 % B32 := ⟨_, rfl⟩
            obtain ⟨hh, ehh⟩ : ∃ hh, hh = t2 / B32 := ⟨_, rfl⟩
            have hlob : lo < B32 := by rw [elo]; exact Nat.mod_lt _ B32_pos
            have hhb : hh ≤ 1 := by rw [ehh, B32_eq]; omega
            have f4 : bits .and .u64 (t2 : Int) 4294967295 = (lo : Int) := by rw [elo, B32_eq]; exact and32 t2 ht2
            have f5 : (t2 : Int) / 4294967296 = (hh : Int) := by rw [ehh, B32_eq]; exact div32 t2
            have f6 : IntKind.u32.wrap (lo : Int) = (lo : Int) := wrap32 lo hlob
            have HSUM : Hid (cy + x + y = lo + B32 * hh) := by
              have := Nat.mod_add_div t2 B32
              rw [← elo, ← ehh] at this
              show _ = _; omega
            have HLAST : Hid (i + 1 = M + 1 → hh = 0) := by
              intro hl
              exfalso; omega
            have HI1 : Hid (i + 1 ≤ M + 1) := by
              have h1 := HR.out.fin; have h2 := HR.out.last
              show _ ≤ _; omega
            have HOA : Hid ((wr.alloc (.cells #[V lo] 85)).ownsRow w.heap.size 85 1 (.slice (some ⟨w.heap.size, 0, none⟩) i N) i (cellsV ss)) := HR.out.own.alloc _
            have hsp : i + 1 ≤ N := by have := HI1.out; have := HN.out; omega
            clear et1 et2 elo ehh hxb hyb
            go_wp2_with (at_builtin; refine wpList_append_fits _ rfl (.tmp 53) (.tmp 57) 65 rfl w.heap.size 85 i0 1 Try.underlying65 hi hz1 w.heap.size i N (cellsV ss) rfl HOA.out ⟨wr.heap.size, 0, none⟩ 1 1 [V lo] rfl rfl (one_cell wr lo) (by intro u hu; simp at hu; subst hu; rfl) hsp ?_; intro w3 hw3 hgr3)
            have HR3 : Hid (RAddR w w.heap.size N M xs ys (i + 1) hh (ss ++ [lo]) w3) := by
              have hR := HR.out
              refine ⟨(hR.bel.alloc hR.bel.size _).grown hgr3 (by have := hR.bel.size; simp; omega) (fun q hq => by simp at hq; omega), ?_, by simp [hR.len], hR.dig.append (Dig.cons hlob (Dig.nil _)), hhb, HI1.out, HLAST.out, radd_step hR.sum hR.len HXE.out HYE.out HSUM.out⟩
              have e0 : cellsV (ss ++ [lo]) = cellsV ss ++ [V lo] := by unfold cellsV; rw [List.map_append]; rfl
              rw [e0]; exact hw3
            clear hw3 hgr3
            go_roundg gg
            case measure => omega
            case rel => exact ⟨i + 1, hh, ss ++ [lo], by omega, by go_num, rfl, rfl, HR3⟩
        · by_cases hb : i < m
          · have him : i < m := hb
            obtain ⟨g2, off2, rfl, hc2⟩ := k.cells.resolve_left (by omega)
            have hcy0 : w.cell? ⟨g2, off2 + i, none⟩ = some (V y) := by rw [HYE.out]; exact hc2 i him
            have hcy1 : wr.cell? ⟨g2, off2 + i, none⟩ = some (V y) := (HR.out.bel.cell (p := ⟨g2, off2 + i, none⟩) (World.block_lt_of_cell? w _ hcy0)).trans hcy0
            have hyw : IntKind.u64.wrap (y : Int) = (y : Int) := wrap_mod _ _ (by rw [B32_eq] at hyb; omega)
            clear hc2 hcy0
            have hx0 : x = 0 := by rw [HXE.out, List.getD_eq_getElem?_getD, List.getElem?_eq_none (by rw [HLX.out]; omega)]; rfl
            obtain ⟨t1, et1⟩ : ∃ t1, t1 = cy + x := ⟨_, rfl⟩
            obtain ⟨t2, et2⟩ : ∃ t2, t2 = t1 + y := ⟨_, rfl⟩
            rw [B32_eq] at hxb hyb
            obtain rfl : t1 = cy := by omega
            have f2 : IntKind.u64.wrap ((t1 : Int) + (y : Int)) = (t2 : Int) := wrap_mod _ _ (by omega)
            have ht2 : t2 < 18446744073709551616 := by omega
            obtain ⟨lo, elo⟩ : ∃ lo, lo = t2 % B32 := ⟨_, rfl⟩
            obtain ⟨hh, ehh⟩ : ∃ hh, hh = t2 / B32 := ⟨_, rfl⟩
            have hlob : lo < B32 := by rw [elo]; exact Nat.mod_lt _ B32_pos
            have hhb : hh ≤ 1 := by rw [ehh, B32_eq]; omega
            have f4 : bits .and .u64 (t2 : Int) 4294967295 = (lo : Int) := by rw [elo, B32_eq]; exact and32 t2 ht2
            have f5 : (t2 : Int) / 4294967296 = (hh : Int) := by rw [ehh, B32_eq]; exact div32 t2
            have f6 : IntKind.u32.wrap (lo : Int) = (lo : Int) := wrap32 lo hlob
            have HSUM : Hid (t1 + x + y = lo + B32 * hh) := by
              have := Nat.mod_add_div t2 B32
              rw [← elo, ← ehh] at this
              show _ = _; omega
            have HLAST : Hid (i + 1 = M + 1 → hh = 0) := by
              intro hl
              exfalso; omega
            have HI1 : Hid (i + 1 ≤ M + 1) := by
              have h1 := HR.out.fin; have h2 := HR.out.last
              show _ ≤ _; omega
            have HOA : Hid ((wr.alloc (.cells #[V lo] 85)).ownsRow w.heap.size 85 1 (.slice (some ⟨w.heap.size, 0, none⟩) i N) i (cellsV ss)) := HR.out.own.alloc _
            have hsp : i + 1 ≤ N := by have := HI1.out; have := HN.out; omega
            clear et1 et2 elo ehh hxb hyb
            go_wp2_with (at_builtin; refine wpList_append_fits _ rfl (.tmp 53) (.tmp 57) 65 rfl w.heap.size 85 i0 1 Try.underlying65 hi hz1 w.heap.size i N (cellsV ss) rfl HOA.out ⟨wr.heap.size, 0, none⟩ 1 1 [V lo] rfl rfl (one_cell wr lo) (by intro u hu; simp at hu; subst hu; rfl) hsp ?_; intro w3 hw3 hgr3)
            have HR3 : Hid (RAddR w w.heap.size N M xs ys (i + 1) hh (ss ++ [lo]) w3) := by
              have hR := HR.out
              refine ⟨(hR.bel.alloc hR.bel.size _).grown hgr3 (by have := hR.bel.size; simp; omega) (fun q hq => by simp at hq; omega), ?_, by simp [hR.len], hR.dig.append (Dig.cons hlob (Dig.nil _)), hhb, HI1.out, HLAST.out, radd_step hR.sum hR.len HXE.out HYE.out HSUM.out⟩
              have e0 : cellsV (ss ++ [lo]) = cellsV ss ++ [V lo] := by unfold cellsV; rw [List.map_append]; rfl
              rw [e0]; exact hw3
            clear hw3 hgr3
            go_roundg gg
            case measure => omega
            case rel => exact ⟨i + 1, hh, ss ++ [lo], by omega, by go_num, rfl, rfl, HR3⟩
          · have hcp : 0 < cy := by
              rcases Nat.eq_zero_or_pos cy with e | e
              · exact absurd ⟨ha, hb, e⟩ hall
              · exact e
            have hcp' : (0 : Int) < (cy : Int) := by omega
            have hx0 : x = 0 := by rw [HXE.out, List.getD_eq_getElem?_getD, List.getElem?_eq_none (by rw [HLX.out]; omega)]; rfl
            have hy0 : y = 0 := by rw [HYE.out, List.getD_eq_getElem?_getD, List.getElem?_eq_none (by rw [HLY.out]; omega)]; rfl
            obtain ⟨t1, et1⟩ : ∃ t1, t1 = cy + x := ⟨_, rfl⟩
            obtain ⟨t2, et2⟩ : ∃ t2, t2 = t1 + y := ⟨_, rfl⟩
            rw [B32_eq] at hxb hyb
            obtain rfl : t1 = cy := by omega
            obtain rfl : t2 = t1 := by omega
            have ht2 : t2 < 18446744073709551616 := by omega
            obtain ⟨lo, elo⟩ : ∃ lo, lo = t2 % B32 := ⟨_, rfl⟩
            obtain ⟨hh, ehh⟩ : ∃ hh, hh = t2 / B32 := ⟨_, rfl⟩
            have hlob : lo < B32 := by rw [elo]; exact Nat.mod_lt _ B32_pos
            have hhb : hh ≤ 1 := by rw [ehh, B32_eq]; omega
            have f4 : bits .and .u64 (t2 : Int) 4294967295 = (lo : Int) := by rw [elo, B32_eq]; exact and32 t2 ht2
            have f5 : (t2 : Int) / 4294967296 = (hh : Int) := by rw [ehh, B32_eq]; exact div32 t2
            have f6 : IntKind.u32.wrap (lo : Int) = (lo : Int) := wrap32 lo hlob
            have HSUM : Hid (t2 + x + y = lo + B32 * hh) := by
              have := Nat.mod_add_div t2 B32
              rw [← elo, ← ehh] at this
              show _ = _; omega
            have HLAST : Hid (i + 1 = M + 1 → hh = 0) := by
              intro hl
              rw [ehh, B32_eq]; omega
            have HI1 : Hid (i + 1 ≤ M + 1) := by
              have h1 := HR.out.fin; have h2 := HR.out.last
              show _ ≤ _; omega
            have HOA : Hid ((wr.alloc (.cells #[V lo] 85)).ownsRow w.heap.size 85 1 (.slice (some ⟨w.heap.size, 0, none⟩) i N) i (cellsV ss)) := HR.out.own.alloc _
            have hsp : i + 1 ≤ N := by have := HI1.out; have := HN.out; omega
            clear et1 et2 elo ehh hxb hyb
            go_wp2_with (at_builtin; refine wpList_append_fits _ rfl (.tmp 53) (.tmp 57) 65 rfl w.heap.size 85 i0 1 Try.underlying65 hi hz1 w.heap.size i N (cellsV ss) rfl HOA.out ⟨wr.heap.size, 0, none⟩ 1 1 [V lo] rfl rfl (one_cell wr lo) (by intro u hu; simp at hu; subst hu; rfl) hsp ?_; intro w3 hw3 hgr3)
            have HR3 : Hid (RAddR w w.heap.size N M xs ys (i + 1) hh (ss ++ [lo]) w3) := by
              have hR := HR.out
              refine ⟨(hR.bel.alloc hR.bel.size _).grown hgr3 (by have := hR.bel.size; simp; omega) (fun q hq => by simp at hq; omega), ?_, by simp [hR.len], hR.dig.append (Dig.cons hlob (Dig.nil _)), hhb, HI1.out, HLAST.out, radd_step hR.sum hR.len HXE.out HYE.out HSUM.out⟩
              have e0 : cellsV (ss ++ [lo]) = cellsV ss ++ [V lo] := by unfold cellsV; rw [List.map_append]; rfl
              rw [e0]; exact hw3
            clear hw3 hgr3
            go_roundg gg
            case measure => omega
            case rel => exact ⟨i + 1, hh, ss ++ [lo], by omega, by go_num, rfl, rfl, HR3⟩
theorem Blk32.own {w : World} {g base : Nat} {xs : List Nat} (h : Blk32 w g xs) (hb : base ≤ g) (hm : xs.length ≤ maxLen) : w.ownsRow base 85 1 (.slice (some ⟨g, 0, none⟩) xs.length xs.length) xs.length (cellsV xs) :=
  ⟨by simp [cellsV], .inr ⟨g, xs.length, (cellsV xs).toArray, rfl, hb, h, Nat.le_refl _, hm, by simp [cellsV], by rw [Nat.mul_one]; exact List.take_of_length_le (by simp [cellsV])⟩⟩
theorem own_at32q {wr : World} {base i N : Nat} {p : Option Addr} {ss : List Nat} (ho : wr.ownsRow base 85 1 (.slice p i N) i (cellsV ss)) (hl : ss.length = i) (hd : Dig B32 ss) : At32 wr p i N ss := by
  rcases ho.2 with ⟨h', h0⟩ | ⟨g', cap', cur, h', hbase, hgc, hcap', hmx, hsz, htake⟩
  · simp only [Value.slice.injEq] at h'
    obtain ⟨rfl, rfl, rfl⟩ := h'
    obtain rfl : ss = [] := List.eq_nil_of_length_eq_zero hl
    exact At32.empty _ _ 0 (by decide)
  · simp only [Value.slice.injEq, true_and] at h'
    obtain ⟨rfl, rfl⟩ := h'
    refine ⟨hl, hcap', hmx, hd, .inr ⟨g', 0, rfl, fun jj hj => ?_⟩⟩
    rw [Nat.zero_add, cell_of_row wr g' jj _ _ _ hgc]
    have e1 := cellsV_get ss jj (by rw [hl]; exact hj)
    rw [← htake, Nat.mul_one, List.getElem?_take, if_pos hj] at e1
    rw [← Array.getElem?_toList]; exact e1
theorem own_form {wr : World} {base i : Nat} {v : Value} {e : TypeId} {xs : List Value} (ho : wr.ownsRow base e 1 v i xs) : ∃ p N, v = .slice p i N := by
  rcases ho.2 with ⟨h', h0⟩ | ⟨g', cap', cur, h', _⟩
  · subst h0; exact ⟨none, 0, h'⟩
  · exact ⟨_, _, h'⟩

theorem own_base {wr : World} {base i : Nat} {v : Value} {e : TypeId} {xs : List Value} (ho : wr.ownsRow base e 1 v i xs) : ∀ q, v.ownBlock = some q → base ≤ q := by
  intro q hq
  rcases ho.2 with ⟨h', h0⟩ | ⟨g', cap', cur, h', hb, _⟩
  · rw [h'] at hq; simp [Value.ownBlock] at hq
  · rw [h'] at hq; simp [Value.ownBlock] at hq; omega
theorem step_append_ownq {P : Program} {ops : Array Oper} {o : Oper} {a : Act} {w : World} {K : Act → World → Prop} {Q : Exit → Act → World → Prop} {E : Prop}
    (hg : o.guard = none) (s x : Operand) (t : TypeId) (hop : o.op = Op.call { callee := Callee.builtin Builtin.append, args := #[s, x], argTypes := #[t, t] })
    (base : Nat) (e : TypeId) (i : TypeInfo) (z : Value) (size bytes : Nat) (ht : P.underlying t = some (.slice e)) (hi : P.info? e = some i) (hz : i.zero = some z)
    (hsize : i.size = size) (hby : i.bytes = bytes) (hzs : z.cells.size = size) (hsz : 0 < size)
    (v : Value) (n : Nat) (xs : List Value) (hs : a.eval s = v) (hown : w.ownsRow base e size v n xs)
    (ad : Addr) (m c : Nat) (news : List Value) (hx : a.eval x = .slice (some ad) m c) (hl : news.length = m * size) (hnews : ∀ j u, news[j]? = some u → w.cell? (ad.add j) = some u) (h1 : ∀ u ∈ news, u.oneCell' = true)
    (h63 : n + m ≤ maxLen) (hbytes : (n + m) * bytes ≤ 140737488355328) (hbase : base ≤ w.heap.size)
    (hK : ∀ v' w', w'.ownsRow base e size v' (n + m) (xs ++ news) → w.grownBy w' v.ownBlock → K (a.put o.dst v') w') :
    if Region.wanted o (yielded ops a.tmps) = true then Oper.wp P o a w K Q else E := by
  have hw : Region.wanted o (yielded ops a.tmps) = true := by simp [Region.wanted, hg]
  rw [if_pos hw]
  obtain ⟨v', w', hr, h2, h3, h4⟩ := run_append_own (P := P) w base t o.type e i z size bytes ht hi hz hsize hby hzs hsz v n xs hown ad m c news hl hnews h1 h63 hbytes hbase
  unfold Oper.wp
  simp [execOp, hop, resolve, invoke, builtin, hs, hx, hr, Result.andThen]
  exact hK _ _ h2 h3

theorem rlow64 {p : Option Addr} {n c : Nat} {xs : List Nat} {v : Nat} {w : World} (h : At32 w p n c xs) (hx : Nf B32 xs v) (hn : n ≤ 16384) (k : Nat) (hk : 1 ≤ k) (hk2 : k ≤ 8192) (N : Nat) (hN : N = 64 * k) :
    Calls Try.prog 42 #[.slice p n c, .int .i64 N] w fun e w' => ∃ p' m' zs, e = .returned (.slice p' m' m') ∧ At32 w' p' m' m' zs ∧ Nf B32 zs (v % B64 ^ k) ∧ m' ≤ n ∧ Below w.heap.size w w' := by
  obtain ⟨i0, hi, hz0, hz1, hz2⟩ := info_parts Try.infoU32
  have HX : Hid (Nf B32 xs v) := hx
  have hl := h.len
  have cap := h.cap
  have big := h.big
  unfold maxLen at big
  obtain ⟨D, hD⟩ : ∃ D, D = 2 * k := ⟨_, rfl⟩
  have d1 : (N : Int).tdiv 32 = (D : Int) := by rw [Int.tdiv_eq_ediv_of_nonneg (by omega)]; omega
  have d2 : (N : Int).tmod 32 = 0 := by rw [Int.tmod_eq_emod_of_nonneg (by omega)]; omega
  have hNp : ¬ (N : Int) ≤ 0 := by omega
  have hN0 : ¬ N = 0 := by omega
  have hDb : D ≤ 16384 := by omega
  have hD0 : ¬ D = 0 := by omega
  have hD1 : 0 < D := by omega
  have hwD : IntKind.i64.wrap (D : Int) = (D : Int) := by simp [IntKind.wrap, IntKind.signed, IntKind.bits]; omega
  have HD : Hid (B64 ^ k = B32 ^ D) := by rw [hD]; exact B64_sq k
  have HLX : Hid (xs.length = n) := hl
  clear hx hD hN hl
  by_cases hc : n ≤ D
  · have hci : (n : Int) ≤ (D : Int) := by omega
    have hcb : decide (n ≤ D) = true := decide_eq_true hc
    have HZ : Hid (v % B64 ^ k = v) := by
      show _ = _
      rw [HD.out]
      exact Nat.mod_eq_of_lt (nf32_lt HX.out (by rw [HLX.out]; exact hc))
    have HA : Hid (At32 w p n c xs) := h
    clear h
    go_enter Try.func42, Try.ntmps42
    go_wp2_with fail
    refine (rnorm_any HA.out (by omega)).mono ?_
    rw [trimL_of_Top HX.out.top]
    rintro e w1 ⟨g, rfl, hg, hb, hbl⟩
    have HB : Hid (Blk32 w1 g xs) := hb
    rw [HLX.out]
    clear hb
    go_wp2_with fail
    go_ret
    exact ⟨_, n, xs, rfl, HB.out.at_ HX.out.dig HLX.out (by unfold maxLen; omega), by rw [HZ.out]; exact HX.out, by omega, hbl⟩
  · have hci : ¬ (n : Int) ≤ (D : Int) := by omega
    have hcb : decide (n ≤ D) = false := decide_eq_false hc
    have hDn : D < n := by omega
    have hDc : D < c := by omega
    have hDc2 : D ≤ c := by omega
    have hDn2 : D ≤ n := by omega
    obtain ⟨g, off, rfl, hcs⟩ := h.cells.resolve_left (by omega)
    have A1 : Hid (At32 w (some ⟨g, off, none⟩) D c (xs.take D)) := h.take D hDn2 c hDc2 (by unfold maxLen; omega)
    obtain ⟨y, hy⟩ : ∃ y, y = xs.getD D 0 := ⟨_, rfl⟩
    have hcy : w.cell? ⟨g, off + D, none⟩ = some (V y) := by rw [hy]; exact hcs D hDn
    have HV : Hid (valB B32 (trimL (xs.take D)) = v % B64 ^ k) := by rw [valB_trimL, HD.out]; exact take_mod32 HX.out (by rw [HLX.out]; omega)
    have hgl : g < w.heap.size := World.block_lt_of_cell? w _ hcy
    clear h hcs hy
    go_enter Try.func42, Try.ntmps42
    go_wp2_with fail
    refine (rnorm_any A1.out (by omega)).mono ?_
    rintro e w1 ⟨g1, rfl, hg1, hb1, hbl⟩
    have hd1 : Dig B32 (trimL (xs.take D)) := Dig.trimL A1.out.dig
    have hle1 := trimL_length_le (xs.take D)
    rw [A1.out.len] at hle1
    generalize trimL (xs.take D) = zs at *
    have hcy1 : w1.cell? ⟨g, off + D, none⟩ = some (V y) := (hbl.cell (p := ⟨g, off + D, none⟩) hgl).trans hcy
    have HO : Hid (w1.ownsRow w.heap.size 85 1 (.slice (some ⟨g1, 0, none⟩) zs.length zs.length) zs.length (cellsV zs)) := hb1.own hg1 (by unfold maxLen; omega)
    have HDZ : Hid (Dig B32 zs) := hd1
    obtain ⟨L, hL⟩ : ∃ L, L = zs.length := ⟨_, rfl⟩
    rw [← hL] at HO hle1 ⊢
    have HL : Hid (zs.length = L) := hL.symm
    clear hb1 hd1 hL A1
    go_wp2_with fail
    go_loopg [5] (D - L) (fun gk dv wr => ∃ (i Nc : Nat) (pp : Option Addr) (ss : List Nat), i + gk = D ∧ dv = .slice pp i Nc ∧ Hid (wr.ownsRow w.heap.size 85 1 (.slice pp i Nc) i (cellsV ss) ∧ ss.length = i ∧ Dig B32 ss ∧ valB B32 ss = v % B64 ^ k ∧ Below w.heap.size w wr))
    case atStart => exact ⟨L, L, _, zs, by omega, rfl, HO.out, HL.out, HDZ.out, HV.out, hbl⟩
    case round =>
      obtain ⟨i, Nc, pp, ss, hig, rfl, HR⟩ := hrel
      have hbr := HR.out.2.2.2.2
      have hcr : wr.cell? ⟨g, off + D, none⟩ = some (V y) := (hbr.cell (p := ⟨g, off + D, none⟩) hgl).trans hcy
      cases gk with
      | zero =>
        obtain rfl : i = D := by omega
        have hni : ¬ (i : Int) < (i : Int) := by omega
        have hy1 : (y : Int).tmod 1 = 0 := by simp
        have hy2 : (y : Int).tmod (IntKind.u32.wrap 1) = 0 := by rw [show IntKind.u32.wrap 1 = 1 from rfl]; simp
        have hw1 : ¬ IntKind.u32.wrap 1 = 0 := by decide
        have hy3 : (y : Int) % 1 = 0 := by omega
        have HOA : Hid ((wr.drew.alloc (.cells #[V 0] 85)).ownsRow w.heap.size 85 1 (.slice pp i Nc) i (cellsV ss)) := by
          have h0 : wr.drew.ownsRow w.heap.size 85 1 (.slice pp i Nc) i (cellsV ss) := HR.out.1
          exact h0.alloc _
        have hsz1 : w.heap.size ≤ (wr.drew.alloc (.cells #[V 0] 85)).heap.size := by have := hbr.size; simp; omega
        go_wp2_with fail
        go_region_law (first
          | (refine step_append_ownq rfl (.tmp 29) (.tmp 39) 65 rfl w.heap.size 85 i0 (.int .u32 0) 1 4 Try.underlying65 hi hz0 hz1 hz2 rfl (by decide) (.slice pp i Nc) i (cellsV ss) (by simp [Act.eval]) HOA.out ⟨wr.heap.size, 0, none⟩ 1 1 [V 0] (by simp [Act.eval]) rfl (one_cell wr.drew 0) (by intro u hu; simp at hu; subst hu; rfl) (by unfold maxLen; omega) (by omega) hsz1 ?_; intro v3 w3 hw3 hgr3; obtain ⟨p3, N3, rfl⟩ := own_form hw3; have hl3 : (ss ++ [0]).length = i + 1 := (by simp [HR.out.2.1]); have hd3 : Dig B32 (ss ++ [0]) := HR.out.2.2.1.append (Dig.cons B32_pos (Dig.nil _)); have A3 : Hid (At32 w3 p3 (i + 1) N3 (ss ++ [0])) := own_at32q (by rw [show cellsV (ss ++ [0]) = cellsV ss ++ [V 0] from by unfold cellsV; rw [List.map_append]; rfl]; exact hw3) hl3 hd3; have HB3 : Hid (Below w.heap.size w w3) := ((bDrew hbr).alloc hbr.size _).grown hgr3 (by have := hbr.size; simp; omega) (own_base HOA.out); have NF3 : Hid (Nf B32 (trimL (ss ++ [0])) (v % B64 ^ k)) := (by have h1 := Nf.trim hd3; rw [valB_snoc, Nat.mul_zero, Nat.add_zero, HR.out.2.2.2.1] at h1; exact h1); have hle3 : (trimL (ss ++ [0])).length ≤ i + 1 := (by have h1 := trimL_length_le (ss ++ [0]); omega); clear hw3 hgr3 hl3 hd3)
          | (go_simp; refine (rnorm_any A3.out (by omega)).mono ?_; rintro e w4 ⟨g4, rfl, hg4, hb4, hbl4⟩; have A4 : Hid (At32 w4 (some ⟨g4, 0, none⟩) (trimL (ss ++ [0])).length (trimL (ss ++ [0])).length (trimL (ss ++ [0]))) := hb4.at_ NF3.out.dig rfl (by unfold maxLen; omega); have hbw4 := Below.on HB3.out hbl4; generalize trimL (ss ++ [0]) = z4 at *; clear hb4 hbl4 hg4))
        all_goals
          (go_wp2_with fail
           go_ret
           exact ⟨_, _, z4, rfl, A4.out, NF3.out, by omega, hbw4⟩)
      | succ gg =>
        have hlt : (i : Int) < (D : Int) := by omega
        have hlt2 : i < D := by omega
        have HOA : Hid ((wr.alloc (.cells #[V 0] 85)).ownsRow w.heap.size 85 1 (.slice pp i Nc) i (cellsV ss)) := HR.out.1.alloc _
        have hsz1 : w.heap.size ≤ (wr.alloc (.cells #[V 0] 85)).heap.size := by have := hbr.size; simp; omega
        go_wp2_with (at_builtin; refine wpList_append_own _ rfl (.tmp 26) (.tmp 27) 65 rfl w.heap.size 85 i0 (.int .u32 0) 1 4 Try.underlying65 hi hz0 hz1 hz2 rfl (by decide) (.slice pp i Nc) i (cellsV ss) rfl HOA.out ⟨wr.heap.size, 0, none⟩ 1 1 [V 0] rfl rfl (one_cell wr 0) (by intro u hu; simp at hu; subst hu; rfl) (by unfold maxLen; omega) (by omega) hsz1 ?_; intro v3 w3 hw3 hgr3 hnil3)
        obtain ⟨p3, N3, rfl⟩ := own_form hw3
        have HR3 : Hid (w3.ownsRow w.heap.size 85 1 (.slice p3 (i + 1) N3) (i + 1) (cellsV (ss ++ [0])) ∧ (ss ++ [0]).length = i + 1 ∧ Dig B32 (ss ++ [0]) ∧ valB B32 (ss ++ [0]) = v % B64 ^ k ∧ Below w.heap.size w w3) := by
          have hR := HR.out
          refine ⟨?_, by simp [hR.2.1], hR.2.2.1.append (Dig.cons B32_pos (Dig.nil _)), by rw [valB_snoc, Nat.mul_zero, Nat.add_zero]; exact hR.2.2.2.1, ?_⟩
          · have e0 : cellsV (ss ++ [0]) = cellsV ss ++ [V 0] := by unfold cellsV; rw [List.map_append]; rfl
            rw [e0]; exact hw3
          · exact (hR.2.2.2.2.alloc hR.2.2.2.2.size _).grown hgr3 (by have := hR.2.2.2.2.size; simp; omega) (own_base HOA.out)
        clear hw3 hgr3 hnil3
        go_roundg gg
        case measure => omega
        case rel => exact ⟨i + 1, N3, p3, ss ++ [0], by omega, rfl, HR3⟩
end Go.Proofs.Ytilceolgfahhoaa
namespace Go.Proofs.Ytilceolgfahhoaa
open Go.RowKit
set_option maxRecDepth 20000
set_option maxHeartbeats 0
structure DnRel (w : World) (g n : Nat) (zs : List Nat) (s k : Nat) (dk : List Nat) (wr : World) : Prop where
  wrs : Wr g 0 n w wr
  row : Row wr g 0 n dk
  hi : dk.drop k = zs.drop k
  sum : 2 ^ s * valB B64 (dk.take k) + cout zs s 0 = valB B64 (zs.take k) + B64 ^ k * cout zs s k

theorem DnRel.step {w : World} {g n : Nat} {zs : List Nat} {s k : Nat} {dk : List Nat} {wr wr' : World} (h : DnRel w g n zs s k dk wr) (hk : k < n) (hz : zs.length = n) (hs : s ≤ 64) {d : Nat}
    (hd : d = dk.getD k 0 / 2 ^ s + 2 ^ (64 - s) * cout zs s (k + 1)) (hw : Wr g 0 n w wr') (hr : Row wr' g 0 n (dk.set k d)) : DnRel w g n zs s (k + 1) (dk.set k d) wr' := by
  have hl := h.row.len
  refine ⟨hw, hr, ?_, ?_⟩
  · rw [drop_set_lt]; exact drop_succ_of_drop h.hi
  · rw [take_set_succ dk k d (by omega), valB_snoc, List.length_take, hl, Nat.min_eq_left (by omega)]
    exact down_step hs (by rw [hd, getD_of_drop h.hi]) h.sum (by omega)
theorem drop_div {xs : List Nat} {a k : Nat} (hx : Nf B64 xs a) (hk : k ≤ xs.length) : valB B64 (xs.drop k) = a / B64 ^ k := by
  have h1 := valB_split B64 xs k hk
  have h2 := valB_lt B64_pos (hx.dig.take k)
  rw [List.length_take, Nat.min_eq_left hk] at h2
  rw [hx.val] at h1
  rw [h1, Nat.add_mul_div_left _ _ (Nat.pow_pos B64_pos), Nat.div_eq_of_lt h2, Nat.zero_add]
theorem take_mod {xs : List Nat} {a k : Nat} (hx : Nf B64 xs a) (hk : k ≤ xs.length) : valB B64 (xs.take k) = a % B64 ^ k := by
  have h1 := valB_split B64 xs k hk
  have h2 := valB_lt B64_pos (hx.dig.take k)
  rw [List.length_take, Nat.min_eq_left hk] at h2
  rw [hx.val] at h1
  rw [h1, Nat.add_mul_mod_self_left, Nat.mod_eq_of_lt h2]
theorem Own.empty (B : Nat) (w : World) (p : Option Addr) : Own B w p 0 [] := ⟨rfl, Dig.nil _, .inl rfl⟩
theorem At.drop {w : World} {g off n c : Nat} {xs : List Nat} (h : At w (some ⟨g, off, none⟩) n c xs) (k : Nat) (hk : k < n) : At w (some ⟨g, off + k, none⟩) (n - k) (n - k) (xs.drop k) := by
  have h1 := h.len; have h2 := h.cap; have h3 := h.big
  refine ⟨by rw [List.length_drop, h1], Nat.le_refl _, by omega, h.dig.drop k, .inr ⟨g, off + k, rfl, fun j hj => ?_⟩⟩
  obtain ⟨g', off', hp, hc⟩ := h.cells.resolve_left (by omega)
  simp only [Option.some.injEq, Addr.mk.injEq, and_true] at hp
  obtain ⟨rfl, rfl⟩ := hp
  have e : (xs.drop k).getD j 0 = xs.getD (k + j) 0 := by rw [List.getD_eq_getElem?_getD, List.getD_eq_getElem?_getD, List.getElem?_drop]
  rw [e, Nat.add_assoc]; exact hc (k + j) (by omega)
theorem div_of_len {xs : List Nat} {a k n : Nat} (hx : Nf B64 xs a) (hl : xs.length = n) (hk : n ≤ k) : a / B64 ^ k = 0 ∧ a % B64 ^ k = a := by
  have h := (hx.len_le (k := k) B64_one).1 (by omega)
  exact ⟨Nat.div_eq_of_lt h, Nat.mod_eq_of_lt h⟩
theorem Nf.drop {xs : List Nat} {a k : Nat} (hx : Nf B64 xs a) (hk : k ≤ xs.length) : Nf B64 (xs.drop k) (a / B64 ^ k) := by
  refine ⟨hx.dig.drop k, ?_, drop_div hx hk⟩
  intro x h
  refine hx.top x ?_
  by_cases hkl : k < xs.length
  · rw [List.getLast?_drop, if_neg (by omega)] at h; exact h
  · rw [List.drop_of_length_le (by omega)] at h; simp at h
theorem Nf.low {xs : List Nat} {a k : Nat} (hx : Nf B64 xs a) (hk : k ≤ xs.length) : Nf B64 (trimL (xs.take k)) (a % B64 ^ k) := by
  have h := Nf.trim (hx.dig.take k)
  rw [take_mod hx hk] at h; exact h

structure HalvesTo (w : World) (k a : Nat) (e : Ending) (w' : World) : Prop where
  ends : ∃ p1 m1 us p2 m2 vs, e = .returned (.tuple #[.slice p1 m1 m1, .slice p2 m2 m2]) ∧ At w' p1 m1 m1 us ∧ At w' p2 m2 m2 vs ∧ Nf B64 us (a % B64 ^ k) ∧ Nf B64 vs (a / B64 ^ k) ∧ m1 ≤ 8192 ∧ m2 ≤ 8192
  bel : Below w.heap.size w w'

theorem halves_any {p : Option Addr} {n c : Nat} {xs : List Nat} {a : Nat} {w : World} (h : At w p n c xs) (hx : Nf B64 xs a) (hn : n ≤ 8192) (k : Nat) (hk : 1 ≤ k) (hk2 : k ≤ 8192) :
    Calls Try.prog 51 #[.slice p n c, .int .i64 k] w fun e w' => HalvesTo w k a e w' := by
  have cap := h.cap; have big := h.big
  have HX : Hid (Nf B64 xs a) := hx
  have HLX : Hid (xs.length = n) := h.len
  have HD := div_of_len (k := k) hx h.len
  have HDV : Hid (n ≤ k → a / B64 ^ k = 0 ∧ a % B64 ^ k = a) := HD
  clear hx HD
  rcases h.cells with h0 | ⟨g, off, rfl, hc⟩
  · subst h0
    have hmin : min (k : Int) 0 = 0 := by omega
    go_enter Try.func51, Try.ntmps51
    go_wp2_with fail
    rw [show Value.int IntKind.i64 0 = .int .i64 ((0 : Nat) : Int) from rfl]
    refine (cut_empty p c w).mono ?_
    rintro e w1 ⟨rfl, r1, hw1⟩
    have A1 : At w1 p 0 0 (xs.take 0) := by rw [hw1]; exact (h.take 0 (by omega) 0 (by omega) (by omega)).drewN r1
    have B1 : At w1 p 0 0 [] := At.empty _ _ _ (by omega)
    have hb1 : Below w.heap.size w w1 := by rw [hw1]; exact bDrewN (Below.refl _ _) r1
    clear hw1
    go_wp2_with fail
    refine (trim_any A1).mono ?_
    rintro e w' ⟨p1, m1, rfl, hm1, hp1, hw⟩
    obtain rfl := hw.symm
    have A2 := A1.trim hm1 hp1
    have HM1 : Hid (m1 = (trimL (xs.take 0)).length) := hm1
    clear hw hm1 hp1 A1
    go_wp2_with fail
    go_ret2
    have e1 := HM1.out
    have e2 := trimL_length_le (xs.take 0)
    have e3 := HLX.out
    rw [List.length_take] at e2
    refine ⟨⟨_, _, _, _, _, _, rfl, A2, B1, ?_, ?_, by omega, by omega⟩, hb1⟩
    · rw [(HDV.out (by omega)).2]
      have hz : xs = [] := List.eq_nil_of_length_eq_zero e3
      subst hz
      exact HX.out
    · rw [(HDV.out (by omega)).1]; exact Nf.nil _
  · by_cases hlt : k < n
    · have hmin : min (k : Int) (n : Int) = (k : Int) := by omega
      go_enter Try.func51, Try.ntmps51
      go_wp2_with fail
      refine (cut_row g off n c k w cap (by omega)).mono ?_
      rintro e w1 ⟨rfl, r1, hw1⟩
      have A1 : At w1 (some ⟨g, off, none⟩) k k (xs.take k) := by rw [hw1]; exact (h.take k (by omega) k (by omega) (by unfold maxLen; omega)).drewN r1
      have B1 : At w1 (some ⟨g, cutOff off n k, none⟩) (n - k) (n - k) (xs.drop k) := by rw [hw1, cutOff_lt hlt]; exact (h.drop k hlt).drewN r1
      have hb1 : Below w.heap.size w w1 := by rw [hw1]; exact bDrewN (Below.refl _ _) r1
      clear hw1
      go_wp2_with fail
      refine (trim_any A1).mono ?_
      rintro e w' ⟨p1, m1, rfl, hm1, hp1, hw⟩
      obtain rfl := hw.symm
      have A2 := A1.trim hm1 hp1
      have HM1 : Hid (m1 = (trimL (xs.take k)).length) := hm1
      clear hw hm1 hp1 A1
      go_wp2_with fail
      go_ret2
      have e1 := HM1.out
      have e2 := trimL_length_le (xs.take k)
      have e3 := HLX.out
      rw [List.length_take] at e2
      refine ⟨⟨_, _, _, _, _, _, rfl, A2, B1, ?_, ?_, by omega, by omega⟩, hb1⟩
      · exact HX.out.low (by omega)
      · exact HX.out.drop (by omega)
    · have hmin : min (k : Int) (n : Int) = (n : Int) := by omega
      go_enter Try.func51, Try.ntmps51
      go_wp2_with fail
      refine (cut_row g off n c n w cap (by omega)).mono ?_
      rintro e w1 ⟨rfl, r1, hw1⟩
      have A1 : At w1 (some ⟨g, off, none⟩) n n (xs.take n) := by rw [hw1]; exact (h.take n (by omega) n (by omega) (by omega)).drewN r1
      have B1 : At w1 (some ⟨g, cutOff off n n, none⟩) 0 0 [] := At.empty _ _ _ (by omega)
      have hb1 : Below w.heap.size w w1 := by rw [hw1]; exact bDrewN (Below.refl _ _) r1
      clear hw1
      go_wp2_with fail
      refine (trim_any A1).mono ?_
      rintro e w' ⟨p1, m1, rfl, hm1, hp1, hw⟩
      obtain rfl := hw.symm
      have A2 := A1.trim hm1 hp1
      have HM1 : Hid (m1 = (trimL (xs.take n)).length) := hm1
      clear hw hm1 hp1 A1
      go_wp2_with fail
      go_ret2
      have e1 := HM1.out
      have e2 := trimL_length_le (xs.take n)
      have e3 := HLX.out
      rw [List.length_take] at e2
      refine ⟨⟨_, _, _, _, _, _, rfl, A2, B1, ?_, ?_, by omega, by omega⟩, hb1⟩
      · rw [(HDV.out (by omega)).2, List.take_of_length_le (by omega), trimL_of_Top HX.out.top]
        exact HX.out
      · rw [(HDV.out (by omega)).1]; exact Nf.nil _
structure Num (w : World) (p : Option Addr) (m c : Nat) (xs : List Nat) (a : Nat) : Prop where
  at_ : At w p m c xs
  nf : Nf B64 xs a
  le : m ≤ 8192
theorem Num.below {w w' : World} {p : Option Addr} {m c : Nat} {xs : List Nat} {a : Nat} (h : Num w p m c xs a) (hb : Below w.heap.size w w') : Num w' p m c xs a := ⟨h.at_.below hb, h.nf, h.le⟩
theorem Num.lim {w : World} {p : Option Addr} {m c : Nat} {xs : List Nat} {a : Nat} (h : Num w p m c xs a) : a < LIM := h.nf.lim.1 (by rw [h.at_.len]; exact h.le)
theorem Num.of {B : Nat} {w : World} {p : Option Addr} {m : Nat} {xs : List Nat} {a : Nat} (ho : Own B w p m xs) (hn : Nf B64 xs a) (hm : m ≤ 8192) : Num w p m m xs a := ⟨ho.at_ hm, hn, hm⟩
theorem mod_mul_div_lt {P a b : Nat} (hP : 0 < P) (hb : b < LIM) : (a % P) * (b / P) < LIM := by
  have h1 := Nat.mod_lt a hP
  have h2 : (a % P) * (b / P) ≤ P * (b / P) := Nat.mul_le_mul_right _ (by omega)
  have h3 := Nat.div_add_mod b P
  omega
theorem cross_any {p0 p1 q0 q1 : Option Addr} {m0 m1 n0 n1 : Nat} {x0 x1 y0 y1 : List Nat} {a0 a1 b0 b1 : Nat} {w : World} (hx0 : Num w p0 m0 m0 x0 a0) (hx1 : Num w p1 m1 m1 x1 a1) (hy0 : Num w q0 n0 n0 y0 b0) (hy1 : Num w q1 n1 n1 y1 b1) (l1 : a0 * b1 < LIM) (l2 : a1 * b0 < LIM) :
    Calls Try.prog 52 #[.slice p0 m0 m0, .slice p1 m1 m1, .slice q0 n0 n0, .slice q1 n1 n1] w fun e w' => Ans w.heap.size w' e (a0 * b1 + a1 * b0) ∧ Below w.heap.size w w' := by
  have HX0 : Hid (Num w p0 m0 m0 x0 a0) := hx0
  have HX1 : Hid (Num w p1 m1 m1 x1 a1) := hx1
  have HY0 : Hid (Num w q0 n0 n0 y0 b0) := hy0
  have HY1 : Hid (Num w q1 n1 n1 y1 b1) := hy1
  have L1 : Hid (a0 * b1 < LIM) := l1
  have L2 : Hid (a1 * b0 < LIM) := l2
  clear hx0 hx1 hy0 hy1 l1 l2
  go_enter Try.func52, Try.ntmps52
  go_wp2_with fail
  refine (mul_any HX0.out.at_ HY1.out.at_ HX0.out.nf HY1.out.nf HX0.out.le HY1.out.le).mono ?_
  rintro e w1 ⟨ha1, hb1⟩
  obtain ⟨p2, m2, z2, rfl, ho2, hn2, hm2⟩ := ha1.ok L1.out
  have HA : Hid (Num w1 p2 m2 m2 z2 (a0 * b1)) := Num.of ho2 hn2 hm2
  have HX : Hid (Num w1 p1 m1 m1 x1 a1) := HX1.out.below hb1
  have HY : Hid (Num w1 q0 n0 n0 y0 b0) := HY0.out.below hb1
  clear ha1 ho2 hn2
  go_wp2_with fail
  refine (mul_any HX.out.at_ HY.out.at_ HX.out.nf HY.out.nf HX.out.le HY.out.le).mono ?_
  rintro e w2 ⟨ha2, hb2⟩
  obtain ⟨p3, m3, z3, rfl, ho3, hn3, hm3⟩ := ha2.ok L2.out
  have HB : Hid (Num w2 p3 m3 m3 z3 (a1 * b0)) := Num.of ho3 hn3 hm3
  have HA2 : Hid (Num w2 p2 m2 m2 z2 (a0 * b1)) := HA.out.below hb2
  have hw2 := Below.on hb1 hb2
  clear ha2 ho3 hn3 hb1 hb2
  go_wp2_with fail
  refine (add_ord HA2.out.at_ HB.out.at_ HA2.out.nf HB.out.nf HA2.out.le HB.out.le).mono ?_
  rintro e w3 ⟨ha3, hb3⟩
  have hw3 := Below.on hw2 hb3
  have hsz := hw2.size
  rcases ha3 with ⟨hl, p4, m4, z4, rfl, ho4, hn4, hm4⟩ | ⟨hl, rfl⟩
  · have HL : Hid (a0 * b1 + a1 * b0 < LIM) := hl
    clear hl
    go_wp2_with fail
    go_ret2
    exact ⟨.inl ⟨HL.out, p4, m4, z4, rfl, ho4.mono hsz, hn4, hm4⟩, hw3⟩
  · have HL : Hid (LIM ≤ a0 * b1 + a1 * b0) := hl
    clear hl
    go_wp2_with fail
    go_ret2
    exact ⟨.inr ⟨HL.out, rfl⟩, hw3⟩

theorem results_tmp4 {fn : Func} {t u v x : Tmp} (h : fn.results = #[.tmp t, .tmp u, .tmp v, .tmp x]) (tmps : Array Value) (P : Program) (w : World) :
    (results fn tmps).run P w = .ok (.tuple #[tmps.getD t undef, tmps.getD u undef, tmps.getD v undef, tmps.getD x undef]) w := by
  simp [results, h]
theorem max3 (a b c : Int) (r : Int) (h : r = if (if a < b then b else a) < c then c else (if a < b then b else a)) (ts : Array TypeId) (t : TypeId) (W : World) : (Builtin.max_ ts t #[.int .i64 a, .int .i64 b, .int .i64 c]).run Try.prog W = .ok (.int .i64 r) W := by
  subst h
  simp [Builtin.max_, Builtin.max2]
end Go.Proofs.Ytilceolgfahhoaa
namespace Go.Proofs.Ytilceolgfahhoaa
open Go.RowKit Go.Shelf
set_option maxRecDepth 20000
set_option maxHeartbeats 0
def PartsIs (xs ys : List Nat) (t : Int) (u1 u2 u3 : List Nat) (f : Int) : Prop :=
  ((t < 1 ∨ 8192 < t) ∧ u1 = [] ∧ u2 = [] ∧ u3 = [] ∧ f = 1) ∨
  (¬ (t < 1 ∨ 8192 < t) ∧ (formB xs && formB ys) = false ∧ u1 = [] ∧ u2 = [] ∧ u3 = [] ∧ f = 2) ∨
  (¬ (t < 1 ∨ 8192 < t) ∧ (formB xs && formB ys) = true ∧ ∃ lo mid hi, lo = (valB B64 xs % B64 ^ t.toNat) * (valB B64 ys % B64 ^ t.toNat) ∧ mid = (valB B64 xs % B64 ^ t.toNat) * (valB B64 ys / B64 ^ t.toNat) + (valB B64 xs / B64 ^ t.toNat) * (valB B64 ys % B64 ^ t.toNat) ∧ hi = (valB B64 xs / B64 ^ t.toNat) * (valB B64 ys / B64 ^ t.toNat) ∧
    ((lo < LIM ∧ mid < LIM ∧ hi < LIM ∧ Nf B64 u1 lo ∧ Nf B64 u2 mid ∧ Nf B64 u3 hi ∧ f = 0) ∨ ((LIM ≤ lo ∨ LIM ≤ mid ∨ LIM ≤ hi) ∧ u1 = [] ∧ u2 = [] ∧ u3 = [] ∧ f = 5)))
theorem PartsIs.inj {xs ys : List Nat} {t : Int} {u1 u2 u3 v1 v2 v3 : List Nat} {f f' : Int} (h : PartsIs xs ys t u1 u2 u3 f) (k : PartsIs xs ys t v1 v2 v3 f') : u1 = v1 ∧ u2 = v2 ∧ u3 = v3 ∧ f = f' := by
  rcases h with ⟨h1, rfl, rfl, rfl, rfl⟩ | ⟨h1, h2, rfl, rfl, rfl, rfl⟩ | ⟨h1, h2, lo, mid, hi, e1, e2, e3, h3⟩ <;> rcases k with ⟨k1, rfl, rfl, rfl, rfl⟩ | ⟨k1, k2, rfl, rfl, rfl, rfl⟩ | ⟨k1, k2, lo', mid', hi', d1, d2, d3, k3⟩
  · exact ⟨rfl, rfl, rfl, rfl⟩
  · exact absurd h1 k1
  · exact absurd h1 k1
  · exact absurd k1 h1
  · exact ⟨rfl, rfl, rfl, rfl⟩
  · rw [k2] at h2; simp at h2
  · exact absurd k1 h1
  · rw [k2] at h2; simp at h2
  · obtain rfl : lo = lo' := by rw [e1, d1]
    obtain rfl : mid = mid' := by rw [e2, d2]
    obtain rfl : hi = hi' := by rw [e3, d3]
    clear e1 e2 e3 d1 d2 d3
    rcases h3 with ⟨a1, a2, a3, n1, n2, n3, rfl⟩ | ⟨a, rfl, rfl, rfl, rfl⟩ <;> rcases k3 with ⟨b1, b2, b3, m1, m2, m3, rfl⟩ | ⟨b, rfl, rfl, rfl, rfl⟩
    · exact ⟨n1.inj B64_one m1, n2.inj B64_one m2, n3.inj B64_one m3, rfl⟩
    · omega
    · omega
    · exact ⟨rfl, rfl, rfl, rfl⟩
theorem Below.cut {a w w' : World} (h : Below a.heap.size a w) (k : Below w.heap.size w w') : Below a.heap.size a w' := Below.on h k
theorem Num.zero0 {w : World} {p : Option Addr} {m c : Nat} {xs : List Nat} {a : Nat} (h : Num w p m c xs a) : m = 0 ↔ a = 0 := by
  rw [← h.nf.zero_iff B64_one, ← h.at_.len]
  exact ⟨List.eq_nil_of_length_eq_zero, fun e => by rw [e]; rfl⟩
structure It where
  p : Option Addr
  n : Nat
  c : Nat
  xs : List Nat
  a : Nat
structure Lists (w : World) (P : Option Addr) (N C : Nat) (its : List It) : Prop where
  len : its.length = N
  cap : N ≤ C
  big : C ≤ maxLen
  cells : N = 0 ∨ ∃ g off, P = some ⟨g, off, none⟩ ∧ ∀ j (h : j < its.length), w.cell? ⟨g, off + j, none⟩ = some (.slice its[j].p its[j].n its[j].c)
  nums : ∀ t ∈ its, Num w t.p t.n t.c t.xs t.a
theorem Lists.below {w w' : World} {P : Option Addr} {N C : Nat} {its : List It} (h : Lists w P N C its) (hb : Below w.heap.size w w') : Lists w' P N C its := by
  refine ⟨h.len, h.cap, h.big, ?_, fun t ht => (h.nums t ht).below hb⟩
  rcases h.cells with h0 | ⟨g, off, rfl, hc⟩
  · exact .inl h0
  · exact .inr ⟨g, off, rfl, fun j hj => (hb.cell (p := ⟨g, off + j, none⟩) (World.block_lt_of_cell? w _ (hc j hj))).trans (hc j hj)⟩
def prodI : List It → Nat
  | [] => 1
  | t :: ts => t.a * prodI ts
theorem prodI_append (xs ys : List It) : prodI (xs ++ ys) = prodI xs * prodI ys := by
  induction xs with
  | nil => simp [prodI]
  | cons x xs ih => simp only [List.cons_append, prodI, ih, Nat.mul_assoc]
theorem prodI_split (its : List It) (k : Nat) : prodI (its.take k) * prodI (its.drop k) = prodI its := by
  rw [← prodI_append, List.take_append_drop]
theorem Lists.take {w : World} {g off N C : Nat} {its : List It} (h : Lists w (some ⟨g, off, none⟩) N C its) (k : Nat) (hk : k ≤ N) : Lists w (some ⟨g, off, none⟩) k k (its.take k) := by
  have hl := h.len; have hc := h.cap; have hb := h.big
  refine ⟨by rw [List.length_take]; omega, Nat.le_refl _, by omega, ?_, fun t ht => h.nums t (List.mem_of_mem_take ht)⟩
  rcases h.cells with h0 | ⟨g', off', he, hcl⟩
  · exact .inl (by omega)
  · refine .inr ⟨g', off', he, fun j hj => ?_⟩
    have hj2 : j < its.length := by rw [List.length_take] at hj; omega
    rw [hcl j hj2]; simp
theorem Lists.drop {w : World} {g off N C : Nat} {its : List It} (h : Lists w (some ⟨g, off, none⟩) N C its) (k : Nat) (hk : k < N) : Lists w (some ⟨g, off + k, none⟩) (N - k) (C - k) (its.drop k) := by
  have hl := h.len; have hc := h.cap; have hb := h.big
  refine ⟨by rw [List.length_drop]; omega, by omega, by omega, ?_, fun t ht => h.nums t (List.mem_of_mem_drop ht)⟩
  rcases h.cells with h0 | ⟨g', off', he, hcl⟩
  · omega
  · simp only [Option.some.injEq, Addr.mk.injEq, and_true] at he
    obtain ⟨rfl, rfl⟩ := he
    refine .inr ⟨g, off + k, rfl, fun j hj => ?_⟩
    have hj2 : k + j < its.length := by rw [List.length_drop] at hj; omega
    have := hcl (k + j) hj2
    rw [← Nat.add_assoc] at this
    rw [this]; simp
theorem Lists.pos {w : World} {P : Option Addr} {N C : Nat} {its : List It} (_h : Lists w P N C its) (hp : ∀ t ∈ its, 0 < t.a) : 0 < prodI its := by
  clear _h
  induction its with
  | nil => simp [prodI]
  | cons t ts ih => exact Nat.mul_pos (hp t (by simp)) (ih (fun u hu => hp u (by simp [hu])))

theorem one_lim : 1 < LIM := (nf_one (x := 1) (by decide) (by decide)).lim.1 (by simp)
theorem mul_lim_of {a b : Nat} (hb : 0 < b) (h : LIM ≤ a) : LIM ≤ a * b := Nat.le_trans h (Nat.le_mul_of_pos_right _ hb)

theorem productof_any : ∀ (M N : Nat), N ≤ M → ∀ {P : Option Addr} {C : Nat} {its : List It} {w : World}, Lists w P N C its → (∀ t ∈ its, 0 < t.a) →
    Calls Try.prog 53 #[.slice P N C] w fun e w' => Ans w.heap.size w' e (prodI its) ∧ Below w.heap.size w w' := by
  intro M
  induction M with
  | zero =>
    intro N hN P C its w h hp
    obtain rfl : N = 0 := by omega
    have HP : Hid (prodI its = 1) := by have := List.eq_nil_of_length_eq_zero h.len; show _ = _; rw [this]; rfl
    clear h hp
    go_enter Try.func53, Try.ntmps53
    go_wp2_with fail
    rw [show Value.int IntKind.u64 1 = U 1 from rfl]
    refine (word_any 1 w (by decide)).mono ?_
    rintro e w1 ⟨p1, m1, z1, rfl, o1, n1, l1, hb1⟩
    go_wp2_with fail
    go_ret2
    rw [HP.out]
    exact ⟨.inl ⟨one_lim, p1, m1, z1, rfl, o1, n1, by omega⟩, hb1⟩
  | succ M ih =>
    intro N hN P C its w h hp
    by_cases h0 : N = 0
    · exact (ih 0 (by omega) (h0 ▸ h) hp) |> fun x => by subst h0; exact x
    · obtain ⟨g, off, rfl, hc⟩ := h.cells.resolve_left h0
      have HC : Hid (∀ j (hj : j < its.length), w.cell? ⟨g, off + j, none⟩ = some (.slice its[j].p its[j].n its[j].c)) := hc
      by_cases h1 : N = 1
      · subst h1
        have hl := h.len
        obtain ⟨t, rfl⟩ : ∃ t, its = [t] := by
          match its, hl with
          | [t], _ => exact ⟨t, rfl⟩
        have hc0 : w.cell? ⟨g, off, none⟩ = some (.slice t.p t.n t.c) := hc 0 (by simp)
        have HNM : Hid (Num w t.p t.n t.c t.xs t.a) := h.nums t (by simp)
        have cap := h.cap
        obtain ⟨tp, tn, tc, txs, ta⟩ := t
        have HP : Hid (prodI [(⟨tp, tn, tc, txs, ta⟩ : It)] = ta) := by show _ = _; simp [prodI]
        simp only at hc0 HNM
        clear h hp ih hc HC hl
        go_enter Try.func53, Try.ntmps53
        go_wp2_with fail
        refine (norm_any HNM.out.at_).mono ?_
        rintro e w1 ⟨ha, hb1⟩
        rw [HNM.out.nf.val] at ha
        rcases ha with ⟨hl2, p2, m2, us, rfl, ho, hn2, hm2⟩ | ⟨hl2, _⟩
        · have HN2 : Hid (Nf B64 us ta) := hn2
          clear hl2 hn2
          go_wp2_with fail
          go_ret2
          rw [HP.out]
          exact ⟨.inl ⟨HNM.out.lim, p2, m2, us, rfl, ho, HN2.out, hm2⟩, hb1⟩
        · exact absurd HNM.out.lim (by omega)
      · have hk1 : N / 2 < N := by omega
        have hk0 : 0 < N / 2 := by omega
        obtain ⟨k, hk⟩ : ∃ k, k = N / 2 := ⟨_, rfl⟩
        rw [← hk] at hk1 hk0
        have hT := h.take k (by omega)
        have hD := h.drop k hk1
        have HT : Hid (Lists w (some ⟨g, off, none⟩) k k (its.take k)) := hT
        have HD : Hid (Lists w (some ⟨g, off + k, none⟩) (N - k) (C - k) (its.drop k)) := hD
        have HPT : Hid (∀ t ∈ its.take k, 0 < t.a) := fun t ht => hp t (List.mem_of_mem_take ht)
        have HPD : Hid (∀ t ∈ its.drop k, 0 < t.a) := fun t ht => hp t (List.mem_of_mem_drop ht)
        have HSP : Hid (prodI (its.take k) * prodI (its.drop k) = prodI its) := prodI_split its k
        have HIH : Hid (∀ N, N ≤ M → ∀ {P : Option Addr} {C : Nat} {its : List It} {w : World}, Lists w P N C its → (∀ t ∈ its, 0 < t.a) → Calls Try.prog 53 #[.slice P N C] w fun e w' => Ans w.heap.size w' e (prodI its) ∧ Below w.heap.size w w') := ih
        have hkt : (N : Int).tdiv 2 = (k : Int) := by rw [Int.tdiv_eq_ediv_of_nonneg (by omega)]; omega
        have hkM : k ≤ M := by omega
        have hNM : N - k ≤ M := by omega
        have h0' : ((N : Int) == 0) = false := by simp; omega
        have h1' : ((N : Int) == 1) = false := by simp; omega
        have cap := h.cap; have big := h.big
        unfold maxLen at big
        clear h hp ih hc HC hT hD hk
        go_enter Try.func53, Try.ntmps53
        go_wp2_with fail
        refine (HIH.out k hkM HT.out HPT.out).mono ?_
        rintro e w1 ⟨ha1, hb1⟩
        have HD1 : Hid (Lists w1 (some ⟨g, off + k, none⟩) (N - k) (C - k) (its.drop k)) := HD.out.below hb1
        have hT0 : 0 < prodI (its.take k) := HT.out.pos HPT.out
        have hD0 : 0 < prodI (its.drop k) := HD.out.pos HPD.out
        have HT0 : Hid (0 < prodI (its.take k)) := hT0
        have HD0 : Hid (0 < prodI (its.drop k)) := hD0
        clear HD HT hT0 hD0
        obtain ⟨pt, ept⟩ : ∃ pt, pt = prodI (its.take k) := ⟨_, rfl⟩
        obtain ⟨pd, epd⟩ : ∃ pd, pd = prodI (its.drop k) := ⟨_, rfl⟩
        rw [← ept] at ha1 HT0 HSP
        rw [← epd] at HD0 HSP
        have EPD : Hid (pd = prodI (its.drop k)) := epd
        clear ept epd
        rcases ha1 with ⟨hl1, p1, m1, z1, rfl, o1, n1, l1⟩ | ⟨hl1, rfl⟩
        · have N1 : Hid (Num w1 p1 m1 m1 z1 pt) := Num.of o1 n1 l1
          clear hl1 o1 n1
          go_wp2_with fail
          refine (HIH.out (N - k) hNM HD1.out HPD.out).mono ?_
          rintro e w2 ⟨ha2, hb2⟩
          rw [← EPD.out] at ha2
          have N1' : Hid (Num w2 p1 m1 m1 z1 pt) := N1.out.below hb2
          have hw2 := Below.on hb1 hb2
          have hsz := hw2.size
          rcases ha2 with ⟨hl2, p2, m2, z2, rfl, o2, n2, l2⟩ | ⟨hl2, rfl⟩
          · have N2 : Hid (Num w2 p2 m2 m2 z2 pd) := Num.of o2 n2 l2
            clear hl2 o2 n2 N1 HD1 hb1 hb2
            go_wp2_with fail
            refine (mul_any N1'.out.at_ N2.out.at_ N1'.out.nf N2.out.nf N1'.out.le N2.out.le).mono ?_
            rintro e w3 ⟨ha3, hb3⟩
            have hw3 := Below.on hw2 hb3
            rw [HSP.out] at ha3
            rcases ha3 with ⟨hl3, p3, m3, z3, rfl, o3, n3, l3⟩ | ⟨hl3, rfl⟩
            · have HL3 : Hid (prodI its < LIM) := hl3
              have HN3 : Hid (Nf B64 z3 (prodI its)) := n3
              clear hl3 n3
              go_wp2_with fail
              go_ret2
              exact ⟨.inl ⟨HL3.out, p3, m3, z3, rfl, o3.mono hsz, HN3.out, l3⟩, hw3⟩
            · have HL3 : Hid (LIM ≤ prodI its) := hl3
              clear hl3
              go_wp2_with fail
              go_ret2
              exact ⟨.inr ⟨HL3.out, rfl⟩, hw3⟩
          · have HL3 : Hid (LIM ≤ prodI its) := by rw [← HSP.out, Nat.mul_comm]; exact mul_lim_of HT0.out hl2
            clear hl2 N1 HD1 hb1 hb2
            go_wp2_with fail
            go_ret2
            exact ⟨.inr ⟨HL3.out, rfl⟩, hw2⟩
        · have HL3 : Hid (LIM ≤ prodI its) := by rw [← HSP.out]; exact mul_lim_of HD0.out hl1
          clear hl1
          go_wp2_with fail
          refine (HIH.out (N - k) hNM HD1.out HPD.out).mono ?_
          rintro e w2 ⟨ha2, hb2⟩
          have hw2 := Below.on hb1 hb2
          rcases ha2 with ⟨hl2, p2, m2, z2, rfl, o2, n2, l2⟩ | ⟨hl2, rfl⟩
          · clear hl2 o2 n2 HD1 hb1 hb2
            go_wp2_with fail
            go_ret2
            exact ⟨.inr ⟨HL3.out, rfl⟩, hw2⟩
          · clear hl2 HD1 hb1 hb2
            go_wp2_with fail
            go_ret2
            exact ⟨.inr ⟨HL3.out, rfl⟩, hw2⟩

theorem LIM_tw (k : Nat) (hk : k = 524288) : LIM = 2 ^ k := by
  obtain ⟨j, hj⟩ : ∃ j, j = 8192 := ⟨_, rfl⟩
  rw [LIM_eq j hj, show B64 = 2 ^ 64 from rfl, ← Nat.pow_mul]
  congr 1
  omega
theorem take_succ_it (its : List It) (k : Nat) (h : k < its.length) : its.take (k + 1) = its.take k ++ [its[k]] := List.take_succ_eq_append_getElem h
theorem prodI_zero {its : List It} {t : It} (h : t ∈ its) (h0 : t.a = 0) : prodI its = 0 := by
  induction its with
  | nil => simp at h
  | cons u us ih =>
    simp only [List.mem_cons] at h
    rcases h with rfl | h
    · simp [prodI, h0]
    · simp [prodI, ih h]
theorem prodI_le_take {its : List It} (k : Nat) (hp : ∀ t ∈ its, 0 < t.a) : prodI (its.take k) ≤ prodI its := by
  rw [← prodI_split its k]
  have : 0 < prodI (its.drop k) := by
    have hd : ∀ t ∈ its.drop k, 0 < t.a := fun t ht => hp t (List.mem_of_mem_drop ht)
    generalize its.drop k = ds at *
    induction ds with
    | nil => simp [prodI]
    | cons t ts ih => exact Nat.mul_pos (hd t (by simp)) (ih (fun u hu => hd u (by simp [hu])))
  exact Nat.le_mul_of_pos_right _ this
theorem two_step {its : List It} {k tw bb : Nat} (hk : k < its.length) (h : 2 ^ tw ≤ prodI (its.take k)) (hb : bb = bitsN its[k].a) (h0 : 0 < its[k].a) : 1 ≤ bb ∧ 2 ^ (tw + (bb - 1)) ≤ prodI (its.take (k + 1)) := by
  have h1 := bitsN_le its[k].a (by omega)
  rw [← hb] at h1
  have hb1 : 1 ≤ bb := by
    rcases Nat.eq_zero_or_pos bb with e | e
    · have := bitsN_lt its[k].a
      rw [← hb, e] at this; simp at this; omega
    · exact e
  refine ⟨hb1, ?_⟩
  rw [take_succ_it its k hk, prodI_append, Nat.pow_add]
  exact Nat.mul_le_mul h (by simpa [prodI] using h1)

theorem product_any {P : Option Addr} {N C : Nat} {its : List It} {w : World} (h : Lists w P N C its) :
    Calls Try.prog 29 #[.slice P N C] w fun e w' => Ans w.heap.size w' e (prodI its) ∧ Below w.heap.size w w' := by
  have H : Hid (Lists w P N C its) := h
  have HLN : Hid (its.length = N) := h.len
  have cap := h.cap; have big := h.big
  unfold maxLen at big
  clear h
  go_enter Try.func29, Try.ntmps29
  go_wp2_with fail
  go_loopg [4, 12] N (fun gk nv iv wr => ∃ (k : Nat) (b : Bool), k + gk = N ∧ iv = .int .i64 k ∧ nv = .bool b ∧ Hid (b = true ↔ ∃ t ∈ its.take k, t.a = 0) ∧ wr = w)
  case atStart => exact ⟨0, false, by omega, rfl, rfl, by show _ ↔ _; simp, rfl⟩
  case round =>
    obtain ⟨k, b, hkg, rfl, rfl, HB, hwr⟩ := hrel
    obtain rfl := hwr.symm
    clear hwr
    cases gk with
    | zero =>
      obtain rfl : k = N := by omega
      have hnk : ¬ (k : Int) < (k : Int) := by omega
      have etk : its.take k = its := List.take_of_length_le (by rw [HLN.out]; omega)
      cases b
      · have HPOS : Hid (∀ t ∈ its, 0 < t.a) := by
          intro t ht
          rcases Nat.eq_zero_or_pos t.a with e | e
          · have := HB.out.2 ⟨t, by rw [etk]; exact ht, e⟩
            simp at this
          · exact e
        clear HB etk
        go_wp2_with fail
        go_loopg [7, 29] k (fun gk2 tv iv wr => ∃ (k2 tw : Nat), k2 + gk2 = k ∧ iv = .int .i64 k2 ∧ tv = .int .i64 tw ∧ tw < 524288 ∧ Hid (2 ^ tw ≤ prodI (its.take k2)) ∧ wr = w)
        case atStart => exact ⟨0, 0, by omega, rfl, rfl, by omega, by show _ ≤ _; simp [prodI], rfl⟩
        case round =>
          obtain ⟨k2, tw, hkg2, rfl, rfl, htw, HT, hwr⟩ := hrel
          obtain rfl := hwr.symm
          clear hwr
          cases gk with
          | zero =>
            obtain rfl : k2 = k := by omega
            clear HT
            go_wp2_with fail
            refine (productof_any k2 k2 (Nat.le_refl _) H.out HPOS.out).mono ?_
            rintro e w1 ⟨ha, hb⟩
            rcases ha with ⟨hl, p1, m1, z1, rfl, o1, n1, l1⟩ | ⟨hl, rfl⟩
            · have HL : Hid (prodI its < LIM) := hl
              have HN : Hid (Nf B64 z1 (prodI its)) := n1
              clear hl n1
              go_wp2_with fail
              go_ret2
              exact ⟨.inl ⟨HL.out, p1, m1, z1, rfl, o1, HN.out, l1⟩, hb⟩
            · have HL : Hid (LIM ≤ prodI its) := hl
              clear hl
              go_wp2_with fail
              go_ret2
              exact ⟨.inr ⟨HL.out, rfl⟩, hb⟩
          | succ gg =>
            have hk2 : k2 < its.length := by rw [HLN.out]; omega
            obtain ⟨g, off, rfl, hc⟩ := H.out.cells.resolve_left (by omega)
            have hcx := hc k2 hk2
            have hnm := H.out.nums its[k2] (List.getElem_mem hk2)
            obtain ⟨bb, ebb⟩ : ∃ bb, bb = bitsN its[k2].a := ⟨_, rfl⟩
            have hst := two_step hk2 HT.out ebb (HPOS.out _ (List.getElem_mem hk2))
            have hb1 := hst.1
            have HST : Hid (2 ^ (tw + (bb - 1)) ≤ prodI (its.take (k2 + 1))) := hst.2
            have hbb : bb ≤ 524288 := by
              rcases Nat.lt_or_ge 524288 bb with e | e
              · exfalso
                have h1 := bitsN_le its[k2].a (by have := HPOS.out _ (List.getElem_mem hk2); omega)
                rw [← ebb] at h1
                have h2 := hnm.lim
                obtain ⟨E, hE⟩ : ∃ E, E = 524288 := ⟨_, rfl⟩
                rw [LIM_tw E hE] at h2
                have h3 : (2:Nat) ^ E ≤ 2 ^ (bb - 1) := Nat.pow_le_pow_right (by decide) (by omega)
                omega
              · exact e
            have EBB : Hid (bb = bitsN its[k2].a) := ebb
            have HNM : Hid (Num w its[k2].p its[k2].n its[k2].c its[k2].xs its[k2].a) := hnm
            have hkk : (k2 : Int) < (k : Int) := by omega
            have hnn := hnm.le
            clear hc hst ebb hnm HT
            generalize its[k2].p = tp at *
            generalize its[k2].n = tn at *
            generalize its[k2].c = tc at *
            generalize its[k2].xs = txs at *
            generalize its[k2].a = ta at *
            go_wp2_with fail
            refine (bits_any HNM.out.at_ (by omega)).mono ?_
            rintro e w' ⟨rfl, hw⟩
            obtain rfl := hw.symm
            clear hw
            rw [HNM.out.nf.val, ← EBB.out]
            by_cases hge : 524288 ≤ tw + (bb - 1)
            · have HL : Hid (LIM ≤ prodI its) := by
                show _ ≤ _
                obtain ⟨E, hE⟩ : ∃ E, E = 524288 := ⟨_, rfl⟩
                rw [LIM_tw E hE]
                exact Nat.le_trans (Nat.le_trans (Nat.pow_le_pow_right (by decide) (by omega)) HST.out) (prodI_le_take _ HPOS.out)
              go_wp2_with fail
              go_ret2
              exact ⟨.inr ⟨HL.out, rfl⟩, Below.refl _ _⟩
            · go_wp2_with fail
              go_roundg gg
              case measure => omega
              case rel => exact ⟨k2 + 1, tw + (bb - 1), by omega, by go_num, by go_num, by omega, HST, rfl⟩
      · have HZ : Hid (prodI its = 0) := by
          obtain ⟨t, ht, h0⟩ := HB.out.1 rfl
          rw [etk] at ht
          exact prodI_zero ht h0
        clear HB etk
        go_wp2_with fail
        go_ret2
        rw [HZ.out]
        exact ⟨ans_zero _ _, Below.refl _ _⟩
    | succ gg =>
      have hk2 : k < its.length := by rw [HLN.out]; omega
      obtain ⟨g, off, rfl, hc⟩ := H.out.cells.resolve_left (by omega)
      have hcx := hc k hk2
      have hnm := H.out.nums its[k] (List.getElem_mem hk2)
      have HB2 : Hid ((b || decide (its[k].n = 0)) = true ↔ ∃ t ∈ its.take (k + 1), t.a = 0) := by
        show _ ↔ _
        rw [take_succ_it its k hk2, Bool.or_eq_true, HB.out, decide_eq_true_iff, hnm.zero0]
        constructor
        · rintro (⟨t, ht, h0⟩ | h0)
          · exact ⟨t, List.mem_append_left _ ht, h0⟩
          · exact ⟨its[k], List.mem_append_right _ (List.mem_singleton.2 rfl), h0⟩
        · rintro ⟨t, ht, h0⟩
          rcases List.mem_append.1 ht with ht | ht
          · exact .inl ⟨t, ht, h0⟩
          · rw [List.mem_singleton.1 ht] at h0; exact .inr h0
      have fx := hnm.nf.form (by rw [hnm.at_.len]; exact hnm.le)
      have HNM : Hid (Num w its[k].p its[k].n its[k].c its[k].xs its[k].a) := hnm
      have hkk : (k : Int) < (N : Int) := by omega
      have hnn := hnm.le
      clear hc hnm HB
      generalize its[k].p = tp at *
      generalize its[k].n = tn at *
      generalize its[k].c = tc at *
      generalize its[k].xs = txs at *
      generalize its[k].a = ta at *
      go_wp2_with fail
      refine (form_true HNM.out.at_ fx).mono ?_
      rintro e w' ⟨rfl, hw⟩
      obtain rfl := hw.symm
      clear hw fx
      cases b
      · by_cases ht0 : tn = 0
        · have HT0 : Hid ((false || decide (tn = 0)) = true) := by show _ = _; simp [ht0]
          subst ht0
          go_wp2_with fail
          go_roundg gg
          case measure => omega
          case rel => exact ⟨k + 1, true, by omega, by go_num, rfl, by have := HB2.out; simp at this; show _ ↔ _; simpa using this, rfl⟩
        · have ht0' : ((tn : Int) == 0) = false := by simp; omega
          go_wp2_with fail
          go_roundg gg
          case measure => omega
          case rel => exact ⟨k + 1, false, by omega, by go_num, rfl, by have := HB2.out; simp [ht0] at this; show _ ↔ _; simpa using this, rfl⟩
      · go_wp2_with fail
        go_roundg gg
        case measure => omega
        case rel => exact ⟨k + 1, true, by omega, by go_num, rfl, by have := HB2.out; simp at this; show _ ↔ _; simpa using this, rfl⟩
def itv (t : It) : Value := .slice t.p t.n t.c
structure LsA (w : World) (P : Option Addr) (N C : Nat) (its : List It) : Prop where
  len : its.length = N
  cap : N ≤ C
  big : C ≤ maxLen
  cells : N = 0 ∨ ∃ g off, P = some ⟨g, off, none⟩ ∧ ∀ j (h : j < its.length), w.cell? ⟨g, off + j, none⟩ = some (.slice its[j].p its[j].n its[j].c)
  ats : ∀ t ∈ its, At w t.p t.n t.c t.xs ∧ t.n ≤ 17592186044416 ∧ t.a = valB B64 t.xs
theorem LsA.below {w w' : World} {P : Option Addr} {N C : Nat} {its : List It} (h : LsA w P N C its) (hb : Below w.heap.size w w') : LsA w' P N C its := by
  refine ⟨h.len, h.cap, h.big, ?_, fun t ht => ⟨(h.ats t ht).1.below hb, (h.ats t ht).2⟩⟩
  rcases h.cells with h0 | ⟨g, off, rfl, hc⟩
  · exact .inl h0
  · exact .inr ⟨g, off, rfl, fun j hj => (hb.cell (p := ⟨g, off + j, none⟩) (World.block_lt_of_cell? w _ (hc j hj))).trans (hc j hj)⟩
theorem LsA.nums {w : World} {P : Option Addr} {N C : Nat} {its : List It} (h : LsA w P N C its) (hf : ∀ t ∈ its, formB t.xs = true) : Lists w P N C its :=
  ⟨h.len, h.cap, h.big, h.cells, fun t ht => ⟨(h.ats t ht).1, by rw [(h.ats t ht).2.2]; exact nf_of_form (h.ats t ht).1.dig (hf t ht), by rw [← (h.ats t ht).1.len]; exact ((formB_iff _).1 (hf t ht)).1⟩⟩
theorem At.grow {w w' : World} {g n c : Nat} {xs : List Nat} {row : Option Nat} (h : At w (some ⟨g, 0, none⟩) n c xs) (hg : w.grownBy w' row) (hne : some g ≠ row) : At w' (some ⟨g, 0, none⟩) n c xs := by
  refine ⟨h.len, h.cap, h.big, h.dig, ?_⟩
  rcases h.cells with h1 | ⟨g', off, h1, h2⟩
  · exact .inl h1
  · refine .inr ⟨g', off, h1, fun j hj => hg.cell (h2 j hj) ?_⟩
    simp only [Option.some.injEq, Addr.mk.injEq] at h1
    obtain ⟨rfl, _⟩ := h1
    exact hne
theorem Try.infoSl : (Try.prog.info? 24).map (fun i => (i.zero, i.size, i.bytes)) = some (some (.slice none 0 0), 1, 24) := by kernel_rfl
theorem cell_new1 (w : World) (v : Value) (ty : TypeId) : ∀ j u, [v][j]? = some u → (w.alloc (.cells #[v] ty)).cell? ((⟨w.heap.size, 0, none⟩ : Addr).add j) = some u := by
  intro j u h
  match j with
  | 0 => simp at h; subst h; simp [Addr.add]
def Cps (w : World) (g : Nat) (js its : List It) : Prop := js.map It.xs = its.map It.xs ∧ js.map It.a = its.map It.a ∧ ∀ t ∈ js, (∃ b, t.p = some ⟨b, 0, none⟩ ∧ b ≠ g) ∧ At w t.p t.n t.c t.xs ∧ t.n ≤ 17592186044416 ∧ t.a = valB B64 t.xs
theorem Cps.below {w w' : World} {g : Nat} {js its : List It} (h : Cps w g js its) (hb : Below w.heap.size w w') : Cps w' g js its := ⟨h.1, h.2.1, fun t ht => ⟨(h.2.2 t ht).1, (h.2.2 t ht).2.1.below hb, (h.2.2 t ht).2.2⟩⟩
theorem Cps.grow {w w' : World} {g : Nat} {js its : List It} (h : Cps w g js its) (hg : w.grownBy w' (some g)) : Cps w' g js its := ⟨h.1, h.2.1, fun t ht => by
  obtain ⟨⟨b, h1, h2⟩, h3, h4⟩ := h.2.2 t ht
  refine ⟨⟨b, h1, h2⟩, ?_, h4⟩
  rw [h1] at h3 ⊢
  exact h3.grow hg (fun e => h2 (Option.some.inj e))⟩
theorem Cps.snoc {w : World} {g : Nat} {js its : List It} {t u : It} (h : Cps w g js its) (hx : t.xs = u.xs) (ha : t.a = u.a) (hp : ∃ b, t.p = some ⟨b, 0, none⟩ ∧ b ≠ g) (hA : At w t.p t.n t.c t.xs ∧ t.n ≤ 17592186044416 ∧ t.a = valB B64 t.xs) : Cps w g (js ++ [t]) (its ++ [u]) := by
  refine ⟨by rw [List.map_append, List.map_append, h.1, List.map_singleton, List.map_singleton, hx], by rw [List.map_append, List.map_append, h.2.1, List.map_singleton, List.map_singleton, ha], fun s hs => ?_⟩
  rcases List.mem_append.1 hs with h1 | h1
  · exact h.2.2 s h1
  · rw [List.mem_singleton.1 h1]; exact ⟨hp, hA⟩
theorem lit_at32w (w : World) (x y : Nat) (hx : x < B32) (hy : y < B32) : At32 (w.alloc (.cells #[V x, V y] 85)) (some ⟨w.heap.size, 0, none⟩) 2 2 [x, y] := by
  refine ⟨rfl, Nat.le_refl _, by decide, ?_, .inr ⟨w.heap.size, 0, rfl, ?_⟩⟩
  · intro z hz
    simp at hz
    rcases hz with rfl | rfl <;> assumption
  · intro j hj
    match j, hj with
    | 0, _ => exact World.cell?_alloc_new ..
    | 1, _ => exact World.cell?_alloc_new ..
theorem rword (x : Nat) (hx : x < B64) (w : World) : Calls Try.prog 37 #[U x] w fun e w' => ∃ g zs, e = .returned (.slice (some ⟨g, 0, none⟩) zs.length zs.length) ∧ zs.length ≤ 2 ∧ At32 w' (some ⟨g, 0, none⟩) zs.length zs.length zs ∧ Nf B32 zs x ∧ Below w.heap.size w w' := by
  obtain ⟨lo, hlo⟩ : ∃ lo, lo = x % B32 := ⟨_, rfl⟩
  obtain ⟨hi, hhi⟩ : ∃ hi, hi = x / B32 := ⟨_, rfl⟩
  have hlb : lo < B32 := by rw [hlo]; exact Nat.mod_lt _ B32_pos
  have hhb : hi < B32 := by rw [hhi]; refine Nat.div_lt_of_lt_mul ?_; rw [B32_two]; exact hx
  have e1 : bits .and .u64 (x : Int) 4294967295 = (lo : Int) := by rw [hlo, B32_eq]; exact and32 x (by rw [← B64_eq]; exact hx)
  have e2 : (x : Int) / 4294967296 = (hi : Int) := by rw [hhi, B32_eq]; exact div32 x
  have e3 : IntKind.u32.wrap (lo : Int) = (lo : Int) := wrap32 lo hlb
  have e4 : IntKind.u32.wrap (hi : Int) = (hi : Int) := wrap32 hi hhb
  have HV : Hid (valB B32 [lo, hi] = x) := by show _ = _; simp only [valB, hlo, hhi]; have := Nat.mod_add_div x B32; omega
  have HLB : Hid (lo < B32 ∧ hi < B32) := ⟨hlb, hhb⟩
  clear hlo hhi hlb hhb
  go_enter Try.func37, Try.ntmps37
  go_wp2_with fail
  refine (rnorm_any (lit_at32w w lo hi HLB.out.1 HLB.out.2) (by omega)).mono ?_
  rintro e w1 ⟨g, rfl, hg, hb, hbl⟩
  have hl := trimL_length_le [lo, hi]
  have hA : At32 w1 (some ⟨g, 0, none⟩) (trimL [lo, hi]).length (trimL [lo, hi]).length (trimL [lo, hi]) := hb.at_ (Dig.trimL (lit_at32w w lo hi HLB.out.1 HLB.out.2).dig) rfl (by unfold maxLen; simp at hl; omega)
  have hN : Nf B32 (trimL [lo, hi]) x := ⟨Dig.trimL (lit_at32w w lo hi HLB.out.1 HLB.out.2).dig, Top_trimL _, by rw [valB_trimL]; exact HV.out⟩
  have HH : Hid (At32 w1 (some ⟨g, 0, none⟩) (trimL [lo, hi]).length (trimL [lo, hi]).length (trimL [lo, hi]) ∧ Nf B32 (trimL [lo, hi]) x ∧ (trimL [lo, hi]).length ≤ 2) := ⟨hA, hN, by simpa using hl⟩
  have hbw := Below.on (below1 w _) hbl
  generalize trimL [lo, hi] = zs at *
  clear hA hN hl hb hbl hg
  go_wp2_with fail
  go_ret
  exact ⟨g, zs, rfl, HH.out.2.2, HH.out.1, HH.out.2.1, hbw⟩
end Go.Proofs.Ytilceolgfahhoaa
