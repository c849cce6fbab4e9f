import Derived.Test.YtpebgjpfgfimgaaGreatDoorJ8
import Derived.Test.YtpebgjpfgfimgaaGreatDoorJ9
import Derived.Laws.ResultCell
import Derived.Deep.RegionWith
import Derived.Deep.DeepCutAuto
import Derived.Deep.LoopGhost
import Derived.Test.YtpebgjpfgfimgaaGreatDoorMem
import Derived.Lib.SliceRun
import Derived.Sort.Row
namespace Go.Proofs.YtpebgjpfgfimgaaGreatDoor
open Go.RowKit Go.Shelf
set_option maxRecDepth 20000
set_option maxHeartbeats 0
theorem lit_at32w (w : World) (x y : Nat) (hx : x < B32) (hy : y < B32) : At32 (w.alloc (.cells #[V x, V y] 50)) (some ⟨w.heap.size, 0, none⟩) 2 2 [x, y] := by
  refine ⟨rfl, Nat.le_refl _, by decide, ?_, .inr ⟨w.heap.size, 0, rfl, ?_⟩⟩
  · intro z hz
    simp at hz
    rcases hz with rfl | rfl <;> assumption
  · intro j hj
    match j, hj with
    | 0, _ => exact World.cell?_alloc_new ..
    | 1, _ => exact World.cell?_alloc_new ..
theorem rword (x : Nat) (hx : x < B64) (w : World) : Calls Tryz.prog 10 #[U x] w fun e w' => ∃ g zs, e = .returned (.slice (some ⟨g, 0, none⟩) zs.length zs.length) ∧ zs.length ≤ 2 ∧ At32 w' (some ⟨g, 0, none⟩) zs.length zs.length zs ∧ Nf B32 zs x ∧ Below w.heap.size w w' := by
  obtain ⟨lo, hlo⟩ : ∃ lo, lo = x % B32 := ⟨_, rfl⟩
  obtain ⟨hi, hhi⟩ : ∃ hi, hi = x / B32 := ⟨_, rfl⟩
  have hlb : lo < B32 := by rw [hlo]; exact Nat.mod_lt _ B32_pos
  have hhb : hi < B32 := by rw [hhi]; refine Nat.div_lt_of_lt_mul ?_; rw [B32_two]; exact hx
  have e1 : bits .and .u64 (x : Int) 4294967295 = (lo : Int) := by rw [hlo, B32_eq]; exact and32 x (by rw [← B64_eq]; exact hx)
  have e2 : (x : Int) / 4294967296 = (hi : Int) := by rw [hhi, B32_eq]; exact div32 x
  have e3 : IntKind.u32.wrap (lo : Int) = (lo : Int) := wrap32 lo hlb
  have e4 : IntKind.u32.wrap (hi : Int) = (hi : Int) := wrap32 hi hhb
  have HV : Hid (valB B32 [lo, hi] = x) := by show _ = _; simp only [valB, hlo, hhi]; have := Nat.mod_add_div x B32; omega
  have HLB : Hid (lo < B32 ∧ hi < B32) := ⟨hlb, hhb⟩
  clear hlo hhi hlb hhb
  go_enter Tryz.func10, Tryz.ntmps10
  go_wp2_with fail
  refine (rnorm_any (lit_at32w w lo hi HLB.out.1 HLB.out.2) (by omega)).mono ?_
  rintro e w1 ⟨g, rfl, hg, hb, hbl⟩
  have hl := trimL_length_le [lo, hi]
  have hA : At32 w1 (some ⟨g, 0, none⟩) (trimL [lo, hi]).length (trimL [lo, hi]).length (trimL [lo, hi]) := hb.at_ (Dig.trimL (lit_at32w w lo hi HLB.out.1 HLB.out.2).dig) rfl (by unfold maxLen; simp at hl; omega)
  have hN : Nf B32 (trimL [lo, hi]) x := ⟨Dig.trimL (lit_at32w w lo hi HLB.out.1 HLB.out.2).dig, Top_trimL _, by rw [valB_trimL]; exact HV.out⟩
  have HH : Hid (At32 w1 (some ⟨g, 0, none⟩) (trimL [lo, hi]).length (trimL [lo, hi]).length (trimL [lo, hi]) ∧ Nf B32 (trimL [lo, hi]) x ∧ (trimL [lo, hi]).length ≤ 2) := ⟨hA, hN, by simpa using hl⟩
  have hbw := Below.on (below1 w _) hbl
  generalize trimL [lo, hi] = zs at *
  clear hA hN hl hb hbl hg
  go_wp2_with fail
  go_ret
  exact ⟨g, zs, rfl, HH.out.2.2, HH.out.1, HH.out.2.1, hbw⟩
end Go.Proofs.YtpebgjpfgfimgaaGreatDoor
namespace Go.Proofs.YtpebgjpfgfimgaaGreatDoor
open Go.RowKit
set_option maxRecDepth 20000
set_option maxHeartbeats 0
structure DnRel (w : World) (g n : Nat) (zs : List Nat) (s k : Nat) (dk : List Nat) (wr : World) : Prop where
  wrs : Wr g 0 n w wr
  row : Row wr g 0 n dk
  hi : dk.drop k = zs.drop k
  sum : 2 ^ s * valB B64 (dk.take k) + cout zs s 0 = valB B64 (zs.take k) + B64 ^ k * cout zs s k

theorem DnRel.step {w : World} {g n : Nat} {zs : List Nat} {s k : Nat} {dk : List Nat} {wr wr' : World} (h : DnRel w g n zs s k dk wr) (hk : k < n) (hz : zs.length = n) (hs : s ≤ 64) {d : Nat}
    (hd : d = dk.getD k 0 / 2 ^ s + 2 ^ (64 - s) * cout zs s (k + 1)) (hw : Wr g 0 n w wr') (hr : Row wr' g 0 n (dk.set k d)) : DnRel w g n zs s (k + 1) (dk.set k d) wr' := by
  have hl := h.row.len
  refine ⟨hw, hr, ?_, ?_⟩
  · rw [drop_set_lt]; exact drop_succ_of_drop h.hi
  · rw [take_set_succ dk k d (by omega), valB_snoc, List.length_take, hl, Nat.min_eq_left (by omega)]
    exact down_step hs (by rw [hd, getD_of_drop h.hi]) h.sum (by omega)

theorem sdn_any (g n c s : Nat) (zs : List Nat) (w : World) (hz : Row w g 0 n zs) (hnc : n ≤ c) (hbig : c ≤ 9223372036854775807) (hs : s < 64) :
    Calls Tryz.prog 48 #[.slice (some ⟨g, 0, none⟩) n c, .int .i64 s] w fun e w' =>
      ∃ zs', e = .returned (.tuple #[]) ∧ Wr g 0 n w w' ∧ Row w' g 0 n zs' ∧ valB B64 zs' = valB B64 zs / 2 ^ s := by
  have hl := hz.len
  go_enter Tryz.func48, Tryz.ntmps48
  go_wp2
  go_loopw [4, 7] (fun _ i wr => ∃ (k : Nat) (dk : List Nat), k ≤ n ∧ i = .int .i64 k ∧ DnRel w g n zs s k dk wr) (fun _ i _ => n - (intOf i).toNat)
  case atStart => exact ⟨0, zs, Nat.zero_le _, rfl, Wr.refl _ _ _ _, hz, rfl, by simp [valB]⟩
  case round =>
    obtain ⟨k, dk, hk, rfl, hR⟩ := hrel
    by_cases hlt : k < n
    · obtain ⟨x, hx⟩ : ∃ x, x = dk.getD k 0 := ⟨_, rfl⟩
      have HR : Hid (DnRel w g n zs s k dk wr) := hR
      have HX : Hid (x = dk.getD k 0) := hx
      have hxb : x < B64 := by rw [hx]; exact hR.row.dig.getD B64_pos _
      have hcx : wr.cell? ⟨g, k, none⟩ = some (U x) := by
        have := hR.row.cell k hlt
        rw [← hx, Nat.zero_add] at this; exact this
      have hfx : wr.frozen? ⟨g, k, none⟩ = false := by
        have := hR.row.frozen k hlt
        rw [Nat.zero_add] at this; exact this
      by_cases hlast : n ≤ k + 1
      · clear hR hx
        go_wp2
        go_roundw
        case rel =>
          have hh := HR.out
          have hxx := HX.out
          rw [walk_shr]
          refine ⟨k + 1, dk.set k (x / 2 ^ s), by omega, by go_num, ?_⟩
          refine hh.step hlt hl (by omega) ?_ (hh.wrs.setCell k ⟨by omega, by omega⟩ _) ?_
          · rw [← hxx]; unfold cout
            rw [List.getD_eq_getElem?_getD, List.getElem?_eq_none (by omega)]; simp
          · have h1 := hh.row.set k (x / 2 ^ s) hlt (Nat.lt_of_le_of_lt (Nat.div_le_self _ _) hxb)
            rw [Nat.zero_add] at h1; exact h1
        case measure => simp [intOf]; omega
      · obtain ⟨z, hy⟩ : ∃ z, z = dk.getD (k + 1) 0 := ⟨_, rfl⟩
        have hcz : wr.cell? ⟨g, k + 1, none⟩ = some (U z) := by
          have := hR.row.cell (k + 1) (by omega)
          rw [← hy, Nat.zero_add] at this; exact this
        have HY : Hid (z = dk.getD (k + 1) 0) := hy
        clear hR hx hy
        go_wp2
        go_region
        go_wp2
        go_roundw
        case rel =>
          have hh := HR.out
          have hxx := HX.out
          have hyy := HY.out
          have hxd : x / 2 ^ s < B64 := Nat.lt_of_le_of_lt (Nat.div_le_self _ _) hxb
          rw [walk_down x z s (by omega) hxb, walk_shr]
          refine ⟨k + 1, dk.set k (x / 2 ^ s + 2 ^ (64 - s) * (z % 2 ^ s)), by omega, by go_num, ?_⟩
          refine hh.step hlt hl (by omega) ?_ (((hh.wrs.setCell k ⟨by omega, by omega⟩ _).setCell k ⟨by omega, by omega⟩ _).drew) ?_
          · rw [← hxx]; unfold cout
            rw [hyy, getD_of_drop (drop_succ_of_drop hh.hi)]
          · have h1 := (hh.row.set k (x / 2 ^ s) hlt hxd).set k _ hlt (down_lt x z s (by omega) hxb)
            rw [Nat.zero_add, List.set_set] at h1
            exact h1.drew
        case measure => simp [intOf]; omega
    · obtain rfl : k = n := by omega
      have HR : Hid (DnRel w g k zs s k dk wr) := hR
      clear hR
      go_wp2
      go_end0
      have hh := HR.out
      refine ⟨dk, rfl, hh.wrs, hh.row, ?_⟩
      have h1 := hh.sum
      have hlk := hh.row.len
      rw [List.take_of_length_le (by omega), List.take_of_length_le (by omega)] at h1
      have h2 : cout zs s k = 0 := by unfold cout; rw [List.getD_eq_getElem?_getD, List.getElem?_eq_none (by omega)]; simp
      have h3 : cout zs s 0 < 2 ^ s := Nat.mod_lt _ (Nat.two_pow_pos _)
      rw [h2, Nat.mul_zero, Nat.add_zero] at h1
      rw [← h1, Nat.mul_add_div (Nat.two_pow_pos _), Nat.div_eq_of_lt h3, Nat.add_zero]
theorem bitsN_pos {a : Nat} (h : a ≠ 0) : 0 < bitsN a := by unfold bitsN; rw [if_neg h]; omega
theorem lt_pow_bits (x K : Nat) : x < 2 ^ K ↔ bitsN x ≤ K := by
  constructor
  · intro h
    by_cases h0 : x = 0
    · subst h0; simp [bitsN]
    · have h1 := bitsN_le x h0
      have h2 : bitsN x - 1 < K := (Nat.pow_lt_pow_iff_right (by decide : 1 < 2)).1 (Nat.lt_of_le_of_lt h1 h)
      omega
  · intro h
    exact Nat.lt_of_lt_of_le (bitsN_lt x) (Nat.pow_le_pow_right (by decide) h)
theorem bitsN_shl (a n : Nat) (h : a ≠ 0) : bitsN (2 ^ n * a) = n + bitsN a := by
  have := bitsN_top (lo := 0) (k := n) (Nat.two_pow_pos n) (bitsN_lt a) (bitsN_le a h) (by have := bitsN_pos h; omega)
  rw [Nat.zero_add] at this; exact this
theorem LIM_two (k : Nat) (hk : k = 524288) : LIM = 2 ^ k := by
  obtain ⟨K, hK⟩ : ∃ K, K = 8192 := ⟨_, rfl⟩
  rw [LIM_eq K hK, B64_pow, show 64 * K = k by omega]
theorem lim_bits (x : Nat) : x < LIM ↔ bitsN x ≤ 524288 := by
  obtain ⟨K, hK⟩ : ∃ K, K = 524288 := ⟨_, rfl⟩
  rw [LIM_two K hK, lt_pow_bits, hK]
theorem lim_shl (a n : Nat) (h : a ≠ 0) : 2 ^ n * a < LIM ↔ n + bitsN a ≤ 524288 := by rw [lim_bits, bitsN_shl a n h]
theorem splice_mid (L o : Nat) (xs : List Nat) (h : o + xs.length ≤ L) : splice (cellsU (List.replicate L 0)) o (cellsU xs) = cellsU (List.replicate o 0 ++ xs ++ List.replicate (L - (o + xs.length)) 0) := by
  unfold splice cellsU
  simp only [List.map_append, List.map_replicate, List.take_replicate, List.drop_replicate, List.length_map, List.append_assoc]
  rw [Nat.min_eq_left (by omega)]
theorem valB_shifted (o r : Nat) (xs : List Nat) : valB B64 (List.replicate o 0 ++ xs ++ List.replicate r 0) = B64 ^ o * valB B64 xs := by
  rw [valB_append_zeros, valB_append, valB_replicate, List.length_replicate, Nat.zero_add]
theorem shl_split (n a : Nat) : 2 ^ (n % 64) * (B64 ^ (n / 64) * a) = 2 ^ n * a := by
  rw [B64_pow, ← Nat.mul_assoc, ← Nat.pow_add, Nat.mod_add_div]

theorem shl_nf {p : Option Addr} {m c : Nat} {xs : List Nat} {a : Nat} {w : World} (h : At w p m c xs) (hx : Nf B64 xs a) (hm : m ≤ 8192) (n : Nat) (hn : n ≤ 9223372036854775807) :
    Calls Tryz.prog 52 #[.slice p m c, .int .i64 n] w fun e w' => Ans w.heap.size w' e (2 ^ n * a) ∧ Below w.heap.size w w' := by
  have fx := hx.form (by rw [h.len]; exact hm)
  have hl := h.len
  have HX : Hid (Nf B64 xs a) := hx
  clear hx
  by_cases h0 : m = 0
  · subst h0
    have hxe : xs = [] := List.eq_nil_of_length_eq_zero hl
    have ha : a = 0 := (HX.out.zero_iff B64_one).1 hxe
    have HA : Hid (2 ^ n * a = 0) := by rw [ha]; exact Nat.mul_zero _
    clear ha hxe hl
    go_enter Tryz.func52, Tryz.ntmps52
    go_wp2_with fail
    refine (form_true h fx).mono ?_
    rintro e w' ⟨rfl, hw⟩
    obtain rfl := hw.symm
    clear hw fx
    go_wp2_with fail
    go_ret2
    refine ⟨.inl ⟨?_, none, 0, [], rfl, ⟨rfl, Dig.nil _, .inl rfl⟩, ?_, by omega⟩, Below.refl _ _⟩
    · rw [HA.out]; exact (Nf.nil B64).lim.1 (by simp)
    · rw [HA.out]; exact Nf.nil _
  · have ha : a ≠ 0 := by
      intro e
      have := (HX.out.zero_iff B64_one).2 e
      rw [this] at hl; simp at hl; omega
    have h0' : ((m : Int) == 0) = false := by simp; omega
    have hls := lim_shl a n ha
    have hbl : bitsN a ≤ 524288 := by rw [← lim_bits]; exact HX.out.lim.1 (by omega)
    have HL : Hid (2 ^ n * a < LIM ↔ n + bitsN a ≤ 524288) := hls
    clear hls ha
    go_enter Tryz.func52, Tryz.ntmps52
    go_wp2_with fail
    refine (form_true h fx).mono ?_
    rintro e w' ⟨rfl, hw⟩
    obtain rfl := hw.symm
    clear hw fx
    go_wp2_with fail
    refine (bits_any h (by omega)).mono ?_
    rintro e w' ⟨rfl, hw⟩
    obtain rfl := hw.symm
    clear hw
    rw [HX.out.val]
    by_cases hbig : n + bitsN a ≤ 524288
    · obtain ⟨i0, hi, hz0, hz1, hz2⟩ := info_parts Tryz.infoU64
      go_wp2_with (first
        | (at_make; refine wpList_make_full _ rfl _ _ 23 rfl w.heap.size 34 i0 (.int .u64 0) 1 Tryz.underlying23 hi hz0 hz1 _ _ _ _ (m + n / 64 + 1) rfl rfl (by omega) (by omega) (by rw [hz2]; omega) (by unfold maxLen; omega) (Nat.le_refl _) ?_; intro w1 hown hgrow; have hb := made_blk hown hgrow; clear hown hgrow)
        | (refine wpList_copy_splice rfl (.tmp 30) (.tmp 31) 23 23 rfl 34 Tryz.underlying23 Tryz.sizeU64 (some ⟨w.heap.size, n / 64, none⟩) p (m + n / 64 + 1 - n / 64) (m + n / 64 + 1 - n / 64) m c rfl rfl w.heap.size (n / 64) (cellsU (List.replicate (m + n / 64 + 1) 0)) 34 hb.1 (cellsU xs) (by rw [cellsU_length, hl]; exact (Nat.min_eq_left (by omega)).symm) (fun h0 => ⟨rfl, (h.below hb.2).src (by rw [cellsU_length] at h0; omega)⟩) (by simp [cellsU_length]; omega) (cellsU_one xs) w.heap.size w hb.2 (Nat.le_refl _) ?_; intro w2 hg2 hb2))
      have hg3 : Blk w2 w.heap.size (List.replicate (n / 64) 0 ++ xs ++ List.replicate (m + n / 64 + 1 - (n / 64 + xs.length)) 0) := by
        have := hg2.out
        rw [splice_mid _ _ _ (by omega)] at this; exact this
      clear hg2 hb
      have hdz : Dig B64 (List.replicate (n / 64) 0 ++ xs ++ List.replicate (m + n / 64 + 1 - (n / 64 + xs.length)) 0) := dig_pad ((Dig.replicate _ _ B64_pos).append HX.out.dig) _
      have hr := hg3.row hdz
      have hlz : (List.replicate (n / 64) 0 ++ xs ++ List.replicate (m + n / 64 + 1 - (n / 64 + xs.length)) 0).length = m + n / 64 + 1 := by simp; omega
      rw [hlz] at hr
      refine (sup_any w.heap.size (m + n / 64 + 1) (m + n / 64 + 1) (n % 64) _ _ hr (Nat.le_refl _) (by omega) (by omega) (.inr ?_)).mono ?_
      · rw [Nat.add_sub_cancel, List.getD_eq_getElem?_getD, List.getElem?_append_right (by simp; omega), List.getElem?_replicate]
        split <;> rfl
      rintro e w3 ⟨zs, rfl, hwr, hrow, hval⟩
      rw [valB_shifted, HX.out.val, shl_split] at hval
      have A3 := hrow.at_ (Nat.le_refl _) (by unfold maxLen; omega)
      have hN := Nf.trim hrow.dig
      rw [hval] at hN
      have HV : Hid (Nf B64 (trimL zs) (2 ^ n * a)) := hN
      have hb3 : Below w.heap.size w w3 := hb2.trans (hwr.below (Nat.le_refl _))
      clear hval hN hg3 hdz hr hlz hb2
      go_wp2_with fail
      refine (trim_any A3).mono ?_
      rintro e w4 ⟨p', m', rfl, hm', hp', hw⟩
      obtain rfl := hw.symm
      have HM : Hid (m' = (trimL zs).length) := hm'
      clear hw hm'
      go_wp2_with fail
      go_ret2
      have e1 := HM.out
      have e2 := HL.out.2 hbig
      exact ⟨.inl ⟨e2, p', m', trimL zs, rfl, hrow.own (Nat.le_refl _) e1 hp', HV.out, by have := HV.out.lim.2 e2; omega⟩, hb3⟩
    · go_wp2_with fail
      go_ret2
      refine ⟨.inr ⟨?_, rfl⟩, Below.refl _ _⟩
      have := mt HL.out.1 hbig
      omega
end Go.Proofs.YtpebgjpfgfimgaaGreatDoor
namespace Go.Proofs.YtpebgjpfgfimgaaGreatDoor
open Go.RowKit Go.Shelf
set_option maxRecDepth 20000
set_option maxHeartbeats 0
structure B5 (W : World) (g : Nat) (v0 v1 v2 v3 v4 : Value) : Prop where
  c0 : W.cell? ⟨g, 0, none⟩ = some v0
  c1 : W.cell? ⟨g, 1, none⟩ = some v1
  c2 : W.cell? ⟨g, 2, none⟩ = some v2
  c3 : W.cell? ⟨g, 3, none⟩ = some v3
  c4 : W.cell? ⟨g, 4, none⟩ = some v4
  f0 : W.frozen? ⟨g, 0, none⟩ = false
  f1 : W.frozen? ⟨g, 1, none⟩ = false
  f2 : W.frozen? ⟨g, 2, none⟩ = false
  f3 : W.frozen? ⟨g, 3, none⟩ = false
  f4 : W.frozen? ⟨g, 4, none⟩ = false
theorem B5.below {W W' : World} {g : Nat} {v0 v1 v2 v3 v4 : Value} (h : B5 W g v0 v1 v2 v3 v4) (hb : Below W.heap.size W W') : B5 W' g v0 v1 v2 v3 v4 := by
  have hl : g < W.heap.size := World.block_lt_of_cell? W _ h.c0
  exact ⟨(hb.cell (p := ⟨g, 0, none⟩) hl).trans h.c0, (hb.cell (p := ⟨g, 1, none⟩) hl).trans h.c1, (hb.cell (p := ⟨g, 2, none⟩) hl).trans h.c2, (hb.cell (p := ⟨g, 3, none⟩) hl).trans h.c3, (hb.cell (p := ⟨g, 4, none⟩) hl).trans h.c4,
    (hb.frozen (p := ⟨g, 0, none⟩) hl).trans h.f0, (hb.frozen (p := ⟨g, 1, none⟩) hl).trans h.f1, (hb.frozen (p := ⟨g, 2, none⟩) hl).trans h.f2, (hb.frozen (p := ⟨g, 3, none⟩) hl).trans h.f3, (hb.frozen (p := ⟨g, 4, none⟩) hl).trans h.f4⟩
theorem B5.new (w : World) (ty : TypeId) (v0 v1 v2 v3 v4 : Value) : B5 (w.alloc (.cells #[v0, v1, v2, v3, v4] ty)) w.heap.size v0 v1 v2 v3 v4 :=
  ⟨by go_simp, by go_simp, by go_simp, by go_simp, by go_simp, by go_simp, by go_simp, by go_simp, by go_simp, by go_simp⟩
theorem DocIs.inj {v : Nat} {us us' : List Nat} {f f' : Int} (h : DocIs v us f) (k : DocIs v us' f') : us = us' ∧ f = f' := by
  rcases h with ⟨h1, h2, rfl⟩ | ⟨h1, rfl, rfl⟩ <;> rcases k with ⟨k1, k2, rfl⟩ | ⟨k1, rfl, rfl⟩
  · exact ⟨h2.inj B64_one k2, rfl⟩
  · omega
  · omega
  · exact ⟨rfl, rfl⟩
theorem DocIs.er {v : Nat} {us : List Nat} {f : Int} (h : DocIs v us f) : f = 0 ∨ f = 5 := by
  rcases h with ⟨_, _, rfl⟩ | ⟨_, _, rfl⟩ <;> simp
structure Op5 where
  k : Int
  pa : Option Addr
  na : Nat
  ca : Nat
  xa : List Nat
  pb : Option Addr
  nb : Nat
  cb : Nat
  xb : List Nat
  nn : Int
  wd : Nat
structure Scr (w : World) (P : Option Addr) (N C : Nat) (its : List Op5) : Prop where
  len : its.length = N
  cap : N ≤ C
  big : C ≤ maxLen
  ats : ∀ t ∈ its, At w t.pa t.na t.ca t.xa ∧ At w t.pb t.nb t.cb t.xb ∧ t.na ≤ 17592186044416 ∧ t.nb ≤ 17592186044416 ∧ t.wd < B64 ∧ -9223372036854775808 ≤ t.nn ∧ t.nn ≤ 9223372036854775807
  cells : N = 0 ∨ ∃ g off, P = some ⟨g, off, none⟩ ∧ ∀ i (h : i < its.length), w.cell? ⟨g, off + i * 5, none⟩ = some (.int .i64 its[i].k) ∧ w.cell? ⟨g, off + i * 5 + 1, none⟩ = some (.slice its[i].pa its[i].na its[i].ca) ∧
    w.cell? ⟨g, off + i * 5 + 2, none⟩ = some (.slice its[i].pb its[i].nb its[i].cb) ∧ w.cell? ⟨g, off + i * 5 + 3, none⟩ = some (.int .i64 its[i].nn) ∧ w.cell? ⟨g, off + i * 5 + 4, none⟩ = some (U its[i].wd)
theorem Scr.below {w w' : World} {P : Option Addr} {N C : Nat} {its : List Op5} (h : Scr w P N C its) (hb : Below w.heap.size w w') : Scr w' P N C its := by
  refine ⟨h.len, h.cap, h.big, fun t ht => ?_, ?_⟩
  · obtain ⟨h1, h2, h3⟩ := h.ats t ht
    exact ⟨h1.below hb, h2.below hb, h3⟩
  · rcases h.cells with h0 | ⟨g, off, hP, hc⟩
    · exact .inl h0
    · refine .inr ⟨g, off, hP, fun i hi => ?_⟩
      obtain ⟨h0, h1, h2, h3, h4⟩ := hc i hi
      have hl : g < w.heap.size := World.block_lt_of_cell? w _ h0
      exact ⟨(hb.cell (p := ⟨g, off + i * 5, none⟩) hl).trans h0, (hb.cell (p := ⟨g, off + i * 5 + 1, none⟩) hl).trans h1, (hb.cell (p := ⟨g, off + i * 5 + 2, none⟩) hl).trans h2,
        (hb.cell (p := ⟨g, off + i * 5 + 3, none⟩) hl).trans h3, (hb.cell (p := ⟨g, off + i * 5 + 4, none⟩) hl).trans h4⟩
end Go.Proofs.YtpebgjpfgfimgaaGreatDoor
namespace Go.Proofs.YtpebgjpfgfimgaaGreatDoor
open Go.RowKit
set_option maxRecDepth 20000
set_option maxHeartbeats 0
theorem div_pow_zero {a n : Nat} (h : bitsN a ≤ n) : a / 2 ^ n = 0 := Nat.div_eq_of_lt ((lt_pow_bits a n).2 h)
theorem mod_pow_self {a n : Nat} (h : bitsN a ≤ n) : a % 2 ^ n = a := Nat.mod_eq_of_lt ((lt_pow_bits a n).2 h)
theorem len_bits {xs : List Nat} {a m : Nat} (hx : Nf B64 xs a) (hl : xs.length = m) : bitsN a ≤ 64 * m := by
  rw [← lt_pow_bits, ← B64_pow]; exact (hx.len_le B64_one).1 (by omega)
theorem drop_div {xs : List Nat} {a k : Nat} (hx : Nf B64 xs a) (hk : k ≤ xs.length) : valB B64 (xs.drop k) = a / B64 ^ k := by
  have h1 := valB_split B64 xs k hk
  have h2 := valB_lt B64_pos (hx.dig.take k)
  rw [List.length_take, Nat.min_eq_left hk] at h2
  rw [hx.val] at h1
  rw [h1, Nat.add_mul_div_left _ _ (Nat.pow_pos B64_pos), Nat.div_eq_of_lt h2, Nat.zero_add]
theorem shr_split (n a : Nat) : a / B64 ^ (n / 64) / 2 ^ (n % 64) = a / 2 ^ n := by
  rw [B64_pow, Nat.div_div_eq_div_mul, ← Nat.pow_add, Nat.div_add_mod]
theorem take_mod {xs : List Nat} {a k : Nat} (hx : Nf B64 xs a) (hk : k ≤ xs.length) : valB B64 (xs.take k) = a % B64 ^ k := by
  have h1 := valB_split B64 xs k hk
  have h2 := valB_lt B64_pos (hx.dig.take k)
  rw [List.length_take, Nat.min_eq_left hk] at h2
  rw [hx.val] at h1
  rw [h1, Nat.add_mul_mod_self_left, Nat.mod_eq_of_lt h2]
theorem Own.empty (B : Nat) (w : World) (p : Option Addr) : Own B w p 0 [] := ⟨rfl, Dig.nil _, .inl rfl⟩
theorem At.drop {w : World} {g off n c : Nat} {xs : List Nat} (h : At w (some ⟨g, off, none⟩) n c xs) (k : Nat) (hk : k < n) : At w (some ⟨g, off + k, none⟩) (n - k) (n - k) (xs.drop k) := by
  have h1 := h.len; have h2 := h.cap; have h3 := h.big
  refine ⟨by rw [List.length_drop, h1], Nat.le_refl _, by omega, h.dig.drop k, .inr ⟨g, off + k, rfl, fun j hj => ?_⟩⟩
  obtain ⟨g', off', hp, hc⟩ := h.cells.resolve_left (by omega)
  simp only [Option.some.injEq, Addr.mk.injEq, and_true] at hp
  obtain ⟨rfl, rfl⟩ := hp
  have e : (xs.drop k).getD j 0 = xs.getD (k + j) 0 := by rw [List.getD_eq_getElem?_getD, List.getD_eq_getElem?_getD, List.getElem?_drop]
  rw [e, Nat.add_assoc]; exact hc (k + j) (by omega)

theorem shr_nf {p : Option Addr} {m c : Nat} {xs : List Nat} {a : Nat} {w : World} (h : At w p m c xs) (hx : Nf B64 xs a) (hm : m ≤ 8192) (n : Nat) (hn : n ≤ 9223372036854775807) :
    Calls Tryz.prog 50 #[.slice p m c, .int .i64 n] w fun e w' =>
      (∃ p' m' zs, e = .returned (.tuple #[.slice p' m' m', .int .i64 0]) ∧ Own w.heap.size w' p' m' zs ∧ Nf B64 zs (a / 2 ^ n) ∧ m' ≤ 8192) ∧ Below w.heap.size w w' := by
  have fx := hx.form (by rw [h.len]; exact hm)
  have hl := h.len
  have hcap := h.cap
  have HX : Hid (Nf B64 xs a) := hx
  have hbm := len_bits hx hl
  clear hx
  go_enter Tryz.func50, Tryz.ntmps50
  go_wp2_with fail
  refine (form_true h fx).mono ?_
  rintro e w' ⟨rfl, hw⟩
  obtain rfl := hw.symm
  clear hw fx
  go_wp2_with fail
  refine (bits_any h (by omega)).mono ?_
  rintro e w' ⟨rfl, hw⟩
  obtain rfl := hw.symm
  clear hw
  rw [HX.out.val]
  by_cases hbig : bitsN a ≤ n
  · have HZ : Hid (a / 2 ^ n = 0) := div_pow_zero hbig
    go_wp2_with fail
    go_ret2
    exact ⟨⟨none, 0, [], rfl, Own.empty _ _ _, by rw [HZ.out]; exact Nf.nil _, by omega⟩, Below.refl _ _⟩
  · obtain ⟨g, off, rfl, _⟩ := h.cells.resolve_left (by omega)
    have hkm : n / 64 < m := by omega
    go_wp2_with fail
    rw [show ((n : Int) / 64) = ((n / 64 : Nat) : Int) by omega]
    refine (cut_row g off m c (n / 64) _ hcap (by omega)).mono ?_
    rintro e w1 ⟨rfl, r, hw⟩
    obtain rfl := hw.symm
    clear hw
    rw [cutOff_lt hkm]
    have A1 := (h.drop (n / 64) hkm).drewN r
    go_wp2_with fail
    refine (copied_any A1 (m - n / 64) (Nat.le_refl _) (by omega)).mono ?_
    rintro e w2 ⟨g2, rfl, hg, hblk, hb⟩
    rw [Nat.sub_self, List.replicate_zero, List.append_nil] at hblk
    have hr := hblk.row A1.dig
    rw [A1.len] at hr
    go_wp2_with fail
    rw [show ((n : Int) % 64) = ((n % 64 : Nat) : Int) by omega]
    refine (sdn_any g2 (m - n / 64) (m - n / 64) (n % 64) _ _ hr (Nat.le_refl _) (by omega) (by omega)).mono ?_
    rintro e w3 ⟨zs, rfl, hwr, hrow, hval⟩
    rw [drop_div HX.out (by omega), shr_split] at hval
    have A3 := hrow.at_ (Nat.le_refl _) (by unfold maxLen; omega)
    have hN := Nf.trim hrow.dig
    rw [hval] at hN
    have HV : Hid (Nf B64 (trimL zs) (a / 2 ^ n)) := hN
    have hb3 : Below w.heap.size w w3 := (bDrewN (Below.refl _ _) r).trans (hb.trans (hwr.below hg))
    clear hval hN hblk hr hb A1
    go_wp2_with fail
    refine (trim_any A3).mono ?_
    rintro e w4 ⟨p', m', rfl, hm', hp', hw⟩
    obtain rfl := hw.symm
    have HM : Hid (m' = (trimL zs).length) := hm'
    clear hw hm'
    go_wp2_with fail
    go_ret2
    have e1 := HM.out
    have e2 := trimL_length_le zs
    have e3 := hrow.len
    exact ⟨⟨p', m', trimL zs, rfl, hrow.own hg e1 hp', HV.out, by omega⟩, hb3⟩

theorem mask_val {xs ys : List Nat} {a n x : Nat} (hx : Nf B64 xs a) (hk : n / 64 < xs.length) (ex : x = xs.getD (n / 64) 0) (hy : ys = (xs.take (n / 64 + 1)).set (n / 64) (x % 2 ^ (n % 64))) : valB B64 ys = a % 2 ^ n := by
  have hl : (xs.take (n / 64 + 1)).length = n / 64 + 1 := by rw [List.length_take]; omega
  have e1 : ys = xs.take (n / 64) ++ [x % 2 ^ (n % 64)] := by
    have h1 := take_set_succ (xs.take (n / 64 + 1)) (n / 64) (x % 2 ^ (n % 64)) (by omega)
    rw [← hy, List.take_of_length_le (by rw [hy, List.length_set]; omega), List.take_take, Nat.min_eq_left (by omega)] at h1
    exact h1
  have h2 : x = a / B64 ^ (n / 64) % B64 := by
    rw [← drop_div hx (by omega), drop_getD xs _ hk, ← ex, valB_cons, Nat.add_mul_mod_self_left, Nat.mod_eq_of_lt]
    rw [ex]; exact hx.dig.getD B64_pos _
  rw [e1, valB_snoc, List.length_take, Nat.min_eq_left (by omega), take_mod hx (by omega), h2]
  have h3 : 2 ^ n = B64 ^ (n / 64) * 2 ^ (n % 64) := by rw [B64_pow, ← Nat.pow_add, Nat.div_add_mod]
  have h4 : a / B64 ^ (n / 64) % B64 % 2 ^ (n % 64) = a / B64 ^ (n / 64) % 2 ^ (n % 64) := by
    refine Nat.mod_mod_of_dvd _ ⟨2 ^ (64 - n % 64), ?_⟩
    exact (pow_split (n % 64) (by omega)).symm
  rw [h4, h3, Nat.mod_mul]

theorem mask_and (x s : Nat) (hx : x < B64) (hs : s < 64) : Value.int .u64 (bits .and .u64 (x : Int) (IntKind.u64.wrap (IntKind.u64.wrap (2 ^ s) - 1))) = U (x % 2 ^ s) := by
  have h1 : IntKind.u64.wrap ((2 : Int) ^ s) = ((2 ^ s : Nat) : Int) := by
    have h2 : 2 ^ s < B64 := by rw [B64_p]; exact (Nat.pow_lt_pow_iff_right (by decide : 1 < 2)).2 hs
    have := wrap_nat 1 s
    unfold shlW at this
    rw [Nat.one_mul, Nat.mod_eq_of_lt h2] at this
    rw [show ((1 : Nat) : Int) * 2 ^ s = (2 : Int) ^ s by simp] at this
    exact this
  have hp := Nat.two_pow_pos s
  have h2 : 2 ^ s < 18446744073709551616 := by rw [← B64_eq, B64_p]; exact (Nat.pow_lt_pow_iff_right (by decide : 1 < 2)).2 hs
  have h3 : IntKind.u64.wrap (((2 ^ s : Nat) : Int) - 1) = ((2 ^ s - 1 : Nat) : Int) := by
    rw [IntKind.wrap_u64]
    generalize 2 ^ s = P at *
    omega
  rw [B64_eq] at hx
  rw [h1, h3, bits_and_u64_nat x _ hx (by omega), Nat.and_two_pow_sub_one_eq_mod]

theorem low_nf {p : Option Addr} {m c : Nat} {xs : List Nat} {a : Nat} {w : World} (h : At w p m c xs) (hx : Nf B64 xs a) (hm : m ≤ 8192) (n : Nat) (hn : n ≤ 9223372036854775807) :
    Calls Tryz.prog 51 #[.slice p m c, .int .i64 n] w fun e w' =>
      (∃ p' m' zs, e = .returned (.tuple #[.slice p' m' m', .int .i64 0]) ∧ Own w.heap.size w' p' m' zs ∧ Nf B64 zs (a % 2 ^ n) ∧ m' ≤ 8192) ∧ Below w.heap.size w w' := by
  have fx := hx.form (by rw [h.len]; exact hm)
  have hl := h.len
  have hcap := h.cap
  have HX : Hid (Nf B64 xs a) := hx
  have hbm := len_bits hx hl
  clear hx
  go_enter Tryz.func51, Tryz.ntmps51
  go_wp2_with fail
  refine (form_true h fx).mono ?_
  rintro e w' ⟨rfl, hw⟩
  obtain rfl := hw.symm
  clear hw fx
  go_wp2_with fail
  refine (bits_any h (by omega)).mono ?_
  rintro e w' ⟨rfl, hw⟩
  obtain rfl := hw.symm
  clear hw
  rw [HX.out.val]
  by_cases hbig : bitsN a ≤ n
  · have HZ : Hid (a % 2 ^ n = a) := mod_pow_self hbig
    go_wp2_with fail
    refine (copied_any h m (Nat.le_refl _) (by omega)).mono ?_
    rintro e w2 ⟨g2, rfl, hg, hblk, hb⟩
    rw [Nat.sub_self, List.replicate_zero, List.append_nil] at hblk
    go_wp2_with fail
    go_ret2
    have ho := hblk.own HX.out.dig hg
    rw [hl] at ho
    exact ⟨⟨_, m, xs, rfl, ho, by rw [HZ.out]; exact HX.out, hm⟩, hb⟩
  · obtain ⟨g, off, rfl, _⟩ := h.cells.resolve_left (by omega)
    have hkm : n / 64 < m := by omega
    go_wp2_with fail
    rw [show ((n : Int) / 64 + 1) = ((n / 64 + 1 : Nat) : Int) by omega]
    refine (cut_row g off m c (n / 64 + 1) _ hcap (by omega)).mono ?_
    rintro e w1 ⟨rfl, r, hw⟩
    obtain rfl := hw.symm
    clear hw
    have A1 := (h.take (n / 64 + 1) (by omega) (n / 64 + 1) (Nat.le_refl _) (by unfold maxLen; omega)).drewN r
    go_wp2_with fail
    refine (copied_any A1 (n / 64 + 1) (Nat.le_refl _) (by omega)).mono ?_
    rintro e w2 ⟨g2, rfl, hg, hblk, hb⟩
    rw [Nat.sub_self, List.replicate_zero, List.append_nil] at hblk
    have hr := hblk.row A1.dig
    rw [A1.len] at hr
    obtain ⟨x, hx⟩ : ∃ x, x = xs.getD (n / 64) 0 := ⟨_, rfl⟩
    have hxb : x < B64 := by rw [hx]; exact HX.out.dig.getD B64_pos _
    have hxt : (xs.take (n / 64 + 1)).getD (n / 64) 0 = x := by rw [hx, List.getD_eq_getElem?_getD, List.getD_eq_getElem?_getD, List.getElem?_take, if_pos (by omega)]
    have hcx : w2.cell? ⟨g2, n / 64, none⟩ = some (U x) := by
      have := hr.cell (n / 64) (by omega)
      rw [Nat.zero_add, hxt] at this; exact this
    have hfx : w2.frozen? ⟨g2, n / 64, none⟩ = false := by
      have := hr.frozen (n / 64) (by omega)
      rw [Nat.zero_add] at this; exact this
    have HXX : Hid (x = xs.getD (n / 64) 0) := hx
    have HRR : Hid (Row w2 g2 0 (n / 64 + 1) (xs.take (n / 64 + 1))) := hr
    clear hx hxt hr hblk A1
    go_wp2_with fail
    go_region
    go_wp2_with fail
    rw [mask_and x (n % 64) hxb (by omega)]
    have hmb : x % 2 ^ (n % 64) < B64 := Nat.lt_of_le_of_lt (Nat.mod_le _ _) hxb
    have hrow := (HRR.out.set (n / 64) (x % 2 ^ (n % 64)) (by omega) hmb).drew
    rw [Nat.zero_add] at hrow
    have hwr := ((Wr.refl g2 0 (n / 64 + 1) w2).setCell (n / 64) ⟨by omega, by omega⟩ (U (x % 2 ^ (n % 64)))).drew
    have hval := mask_val HX.out (by omega) HXX.out rfl
    generalize (w2.setCell ⟨g2, n / 64, none⟩ (U (x % 2 ^ (n % 64)))).drew = w3 at *
    generalize (xs.take (n / 64 + 1)).set (n / 64) (x % 2 ^ (n % 64)) = zs at *
    have A3 := hrow.at_ (Nat.le_refl _) (by unfold maxLen; omega)
    have hN := Nf.trim hrow.dig
    rw [hval] at hN
    have HV : Hid (Nf B64 (trimL zs) (a % 2 ^ n)) := hN
    have hb3 : Below w.heap.size w w3 := (bDrewN (Below.refl _ _) r).trans (hb.trans (hwr.below hg))
    clear hval hN hb hcx hfx
    refine (trim_any A3).mono ?_
    rintro e w4 ⟨p', m', rfl, hm', hp', hw⟩
    obtain rfl := hw.symm
    have HM : Hid (m' = (trimL zs).length) := hm'
    clear hw hm'
    go_wp2_with fail
    go_ret2
    have e1 := HM.out
    have e2 := trimL_length_le zs
    have e3 := hrow.len
    exact ⟨⟨p', m', trimL zs, rfl, hrow.own hg e1 hp', HV.out, by omega⟩, hb3⟩
end Go.Proofs.YtpebgjpfgfimgaaGreatDoor
namespace Go.Proofs.YtpebgjpfgfimgaaGreatDoor
open Go.RowKit Go.Shelf
set_option maxRecDepth 20000
set_option maxHeartbeats 0
def ShIs (r : Nat → Nat → Nat) (xs : List Nat) (t : Int) (us : List Nat) (f : Int) : Prop :=
  (t < 0 ∧ us = [] ∧ f = 1) ∨ (0 ≤ t ∧ formB xs = false ∧ us = [] ∧ f = 2) ∨ (0 ≤ t ∧ formB xs = true ∧ DocIs (r (valB B64 xs) t.toNat) us f)
theorem ShIs.inj {r : Nat → Nat → Nat} {xs : List Nat} {t : Int} {us us' : List Nat} {f f' : Int} (h : ShIs r xs t us f) (k : ShIs r xs t us' f') : us = us' ∧ f = f' := by
  rcases h with ⟨h1, rfl, rfl⟩ | ⟨h1, h2, rfl, rfl⟩ | ⟨h1, h2, h3⟩ <;> rcases k with ⟨k1, rfl, rfl⟩ | ⟨k1, k2, rfl, rfl⟩ | ⟨k1, k2, k3⟩
  · exact ⟨rfl, rfl⟩
  · omega
  · omega
  · omega
  · exact ⟨rfl, rfl⟩
  · rw [k2] at h2; simp at h2
  · omega
  · rw [k2] at h2; simp at h2
  · exact h3.inj k3
theorem ShIs.er {r : Nat → Nat → Nat} {xs us : List Nat} {t f : Int} (h : ShIs r xs t us f) : f = 0 ∨ f = 1 ∨ f = 2 ∨ f = 3 ∨ f = 4 ∨ f = 5 := by
  rcases h with ⟨_, _, rfl⟩ | ⟨_, _, _, rfl⟩ | ⟨_, _, ⟨_, _, rfl⟩ | ⟨_, _, rfl⟩⟩ <;> simp
end Go.Proofs.YtpebgjpfgfimgaaGreatDoor
namespace Go.Proofs.YtpebgjpfgfimgaaGreatDoor
open Go.RowKit
set_option maxRecDepth 20000
set_option maxHeartbeats 0
variable {P : Program} {md : Region.Mode} {ops : Array Oper} {Q : Exit → Act → World → Prop} {J : World → Prop}
end Go.Proofs.YtpebgjpfgfimgaaGreatDoor
namespace Go.Proofs.YtpebgjpfgfimgaaGreatDoor
open Go.RowKit Go.Shelf
set_option maxRecDepth 20000
set_option maxHeartbeats 0
structure DigRel32 (w : World) (gq gr L n : Nat) (A D : Nat) (k : Nat) (qs rs : List Nat) (wr : World) : Prop where
  bel : ∀ B, B ≤ gq → B ≤ gr → Below B w wr
  rowq : Row32 wr gq 0 L qs
  rowr : Row32 wr gr 0 (L + n) rs
  cell : ∀ b o, b ≠ gq → b ≠ gr → wr.cell? ⟨b, o, none⟩ = w.cell? ⟨b, o, none⟩
  lt : valB B32 (rs.drop (L - k)) < D
  sum : valB B32 rs + B32 ^ (L - k) * valB B32 (qs.drop (L - k)) * D = A

theorem Row32.other {w : World} {g off n : Nat} {xs : List Nat} (h : Row32 w g off n xs) (g2 o2 : Nat) (v : Value) (hne : g ≠ g2) : Row32 (w.setCell ⟨g2, o2, none⟩ v) g off n xs := by
  refine ⟨h.len, h.dig, fun j hj => ?_, fun j hj => by rw [World.frozen?_setCell]; exact h.frozen j hj⟩
  exact (World.cell?_setCell_other _ _ _ _ (by intro e; apply hne; have := congrArg Addr.block e; simp at this; omega)).trans (h.cell j hj)
theorem Row32.wr {w w' : World} {g off n g2 o2 l2 : Nat} {xs : List Nat} (h : Row32 w g off n xs) (hwr : Wr g2 o2 l2 w w') (hne : g ≠ g2) : Row32 w' g off n xs :=
  ⟨h.len, h.dig, fun j hj => (hwr.cell g (off + j) (.inl hne)).trans (h.cell j hj), fun j hj => (hwr.frozen _).trans (h.frozen j hj)⟩
theorem At32.cells_of {w w' : World} {g off n c : Nat} {xs : List Nat} (h : At32 w (some ⟨g, off, none⟩) n c xs) (hc : ∀ o, w'.cell? ⟨g, o, none⟩ = w.cell? ⟨g, o, none⟩) : At32 w' (some ⟨g, off, none⟩) n c xs :=
  ⟨h.len, h.cap, h.big, h.dig, by
    rcases h.cells with h0 | ⟨g', o', he, hcl⟩
    · exact .inl h0
    · refine .inr ⟨g', o', he, fun j hj => ?_⟩
      simp only [Option.some.injEq, Addr.mk.injEq, and_true] at he
      rw [← he.1, ← he.2] at hcl ⊢
      exact (hc (off + j)).trans (hcl j hj)⟩

theorem dig_abs32 {P W q r D T Q A : Nat} (hW : q * D + r = W) (h : T + P * W + P * B32 * Q * D = A) : T + P * r + P * (q + B32 * Q) * D = A := by
  subst hW
  have e1 : P * (q + B32 * Q) * D = P * (q * D) + P * B32 * Q * D := by
    rw [Nat.mul_add, Nat.add_mul, Nat.mul_assoc P q D, ← Nat.mul_assoc P B32 Q]
  rw [e1]
  rw [Nat.mul_add] at h
  omega
theorem DigRel32.window {w : World} {gq gr L n A D k : Nat} {qs rs : List Nat} {wr : World} (h : DigRel32 w gq gr L n A D k qs rs wr) (hk : k < L) (hDn : D < B32 ^ n) :
    ∃ a ws, a = L - 1 - k ∧ ws = (rs.drop a).take (n + 1) ∧ Row32 wr gr a (n + 1) ws ∧ valB B32 ws < B32 * D ∧ valB B32 rs = valB B32 (rs.take a) + B32 ^ a * valB B32 ws ∧ valB B32 (rs.drop (a + (n + 1))) = 0 := by
  have hl := h.rowr.len
  obtain ⟨a, ha⟩ : ∃ a, a = L - 1 - k := ⟨_, rfl⟩
  have hlt := h.lt
  rw [show L - k = a + 1 by omega] at hlt
  have hz : valB B32 (rs.drop (a + (n + 1))) = 0 := by
    have hs := valB_split B32 (rs.drop (a + 1)) n (by rw [List.length_drop]; omega)
    rw [List.drop_drop, show a + 1 + n = a + (n + 1) by omega] at hs
    rcases Nat.eq_zero_or_pos (valB B32 (rs.drop (a + (n + 1)))) with e | e
    · exact e
    · exfalso
      have : B32 ^ n * 1 ≤ B32 ^ n * valB B32 (rs.drop (a + (n + 1))) := Nat.mul_le_mul_left _ e
      omega
  have hw := win_take32 rs a (n + 1) (by omega)
  rw [hz, Nat.mul_zero, Nat.add_zero] at hw
  refine ⟨a, _, ha, rfl, h.rowr.win a (n + 1) (by omega), ?_, hw, hz⟩
  have hs := valB_split B32 (rs.drop a) (n + 1) (by rw [List.length_drop]; omega)
  rw [List.drop_drop, hz, Nat.mul_zero, Nat.add_zero] at hs
  rw [← hs, valB_drop B32 rs a (by omega)]
  have hb := h.rowr.dig.getD B32_pos a
  have : B32 * (valB B32 (rs.drop (a + 1)) + 1) ≤ B32 * D := Nat.mul_le_mul_left _ hlt
  rw [Nat.mul_add] at this
  omega
theorem DigRel32.step {w : World} {gq gr L n A D k : Nat} {qs rs : List Nat} {wr wr' : World} (h : DigRel32 w gq gr L n A D k qs rs wr) (hk : k < L) (hne : gq ≠ gr) {a q : Nat} {ws ws' : List Nat} (ha : a = L - 1 - k)
    (hrs : valB B32 rs = valB B32 (rs.take a) + B32 ^ a * valB B32 ws) (hz : valB B32 (rs.drop (a + (n + 1))) = 0) (hD : 0 < D) (hq : q = valB B32 ws / D) (hqb : q < B32) (hr : valB B32 ws' = valB B32 ws % D)
    (hwr : Wr gr a (n + 1) wr wr') (hrow : Row32 wr' gr a (n + 1) ws') : DigRel32 w gq gr L n A D (k + 1) (qs.set a q) (winPut rs ws' a) (wr'.setCell ⟨gq, a, none⟩ (V q)) := by
  have hl := h.rowr.len; have hql := h.rowq.len; have hwl := hrow.len
  have hle : a + ws'.length ≤ rs.length := by omega
  have e1 : L - (k + 1) = a := by omega
  have e2 : L - k = a + 1 := by omega
  have hdrop : valB B32 ((winPut rs ws' a).drop a) = valB B32 ws % D := by
    rw [winPut_drop rs ws' a hle, valB_append, hwl, hz, Nat.mul_zero, Nat.add_zero, hr]
  refine ⟨fun B h1 h2 => ?_, ?_, ?_, fun b o h1 h2 => ?_, ?_, ?_⟩
  · exact ((h.bel B h1 h2).trans (hwr.below h2)).trans ((Wr.refl gq 0 L wr').setCell a ⟨by omega, by omega⟩ (V q) |>.below h1)
  · have := (h.rowq.wr hwr hne).set a q (by omega) hqb
    rw [Nat.zero_add] at this; exact this
  · exact (h.rowr.put hwr hrow (by omega)).other gq a _ (Ne.symm hne)
  · rw [World.cell?_setCell_other _ _ _ _ (by intro e; apply h1; have := congrArg Addr.block e; simp at this; omega), hwr.cell b o (.inl h2)]
    exact h.cell b o h1 h2
  · rw [e1, hdrop]; exact Nat.mod_lt _ hD
  · have hs := h.sum
    rw [e2, hrs, Nat.pow_succ] at hs
    rw [e1, valB_split B32 (winPut rs ws' a) a (by rw [winPut_len rs ws' a hle]; omega), winPut_take rs ws' a hle, hdrop, drop_set_at qs a q (by omega), valB_cons]
    refine dig_abs32 (W := valB B32 ws) (q := q) ?_ hs
    rw [hq, Nat.mul_comm]; exact Nat.div_add_mod _ _
structure RV (w : World) (p : Option Addr) (m a : Nat) : Prop where
  mem : ∃ zs, At32 w p m m zs ∧ Nf B32 zs a
  len : m ≤ 16384
theorem RV.below {w w' : World} {p : Option Addr} {m a : Nat} (h : RV w p m a) (hb : Below w.heap.size w w') : RV w' p m a := by
  obtain ⟨⟨zs, h1, h2⟩, h3⟩ := h
  exact ⟨⟨zs, h1.below hb, h2⟩, h3⟩
theorem RV.cast {w : World} {p : Option Addr} {m a b : Nat} (h : RV w p m a) (e : a = b) : RV w p m b := e ▸ h
theorem RV.zero {w : World} {p : Option Addr} {m a : Nat} (h : RV w p m a) : m = 0 ↔ a = 0 := by
  obtain ⟨⟨zs, h1, h2⟩, h3⟩ := h
  rw [← h2.zero_iff B32_one, ← h1.len]
  exact List.length_eq_zero_iff
theorem RV.lt {w : World} {p : Option Addr} {m a : Nat} (h : RV w p m a) : a < 2 ^ (32 * m) := by
  obtain ⟨⟨zs, h1, h2⟩, h3⟩ := h
  have h4 := (h2.len_le B32_one (k := m)).1 (by rw [h1.len]; exact Nat.le_refl _)
  rw [show B32 = 2 ^ 32 from rfl, ← Nat.pow_mul] at h4
  exact h4
theorem RV.mk2 {w : World} {p : Option Addr} {m a K : Nat} {zs : List Nat} (h : At32 w p m m zs) (hN : Nf B32 zs a) (hK : K ≤ 524288) (hb : a < 2 ^ K) : RV w p m a := by
  refine ⟨⟨zs, h, hN⟩, ?_⟩
  obtain ⟨Q, hQ⟩ : ∃ Q : Nat, Q = 16384 := ⟨_, rfl⟩
  have h1 := (hN.len_le B32_one (k := Q)).2 (by
    rw [show B32 = 2 ^ 32 from rfl, ← Nat.pow_mul]
    exact Nat.lt_of_lt_of_le hb (Nat.pow_le_pow_right (by decide) (by omega)))
  rw [h.len] at h1
  omega
def RVs (w w' : World) (e : Ending) (a : Nat) : Prop := ∃ p m, e = .returned (.slice p m m) ∧ RV w' p m a ∧ Below w.heap.size w w'
theorem rv_add {w : World} {p q : Option Addr} {m n a b : Nat} (h : RV w p m a) (k : RV w q n b) {K : Nat} (hK : K ≤ 524288) (hb : a + b < 2 ^ K) : Calls Tryz.prog 8 #[.slice p m m, .slice q n n] w fun e w' => RVs w w' e (a + b) := by
  obtain ⟨⟨zs, h1, h2⟩, h3⟩ := h
  obtain ⟨⟨us, k1, k2⟩, k3⟩ := k
  refine (radd_any h1 k1 h2 k2 (by omega) (by omega)).mono ?_
  rintro e w' ⟨p', m', vs, rfl, g1, g2, g4⟩
  exact ⟨_, _, rfl, RV.mk2 g1 g2 hK hb, g4⟩
theorem rv_word (x : Nat) (hx : x < B64) (w : World) : Calls Tryz.prog 10 #[U x] w fun e w' => RVs w w' e x := by
  refine (rword x hx w).mono ?_
  rintro e w' ⟨g, zs, rfl, h1, h2, h3, h4⟩
  exact ⟨_, _, rfl, ⟨⟨zs, h2, h3⟩, by omega⟩, h4⟩
def IsRt (a r : Nat) : Prop := r * r ≤ a ∧ a < (r + 1) * (r + 1)
theorem rt_uniq {a r s : Nat} (h : IsRt a r) (k : IsRt a s) : r = s := by
  rcases Nat.lt_trichotomy r s with h1 | h1 | h1
  · exfalso
    have h5 : (r + 1) * (r + 1) ≤ s * s := Nat.mul_le_mul h1 h1
    have := h.2; have := k.1; omega
  · exact h1
  · exfalso
    have h5 : (s + 1) * (s + 1) ≤ r * r := Nat.mul_le_mul h1 h1
    have := k.2; have := h.1; omega
theorem no_over {P X c Y : Nat} (h : X + P * c = Y) (hY : Y < P) : X = Y := by
  rcases Nat.eq_zero_or_pos c with e | e
  · subst e; omega
  · have : P * 1 ≤ P * c := Nat.mul_le_mul_left _ e
    omega
theorem moved_any {p : Option Addr} {m c : Nat} {xs : List Nat} {w : World} (h : At w p m c xs) (n s : Nat) (hmn : m ≤ n) (hn : n ≤ 10000) (hs : s < 64) (hfit : 2 ^ s * valB B64 xs < B64 ^ n) :
    Calls Tryz.prog 45 #[.slice p m c, .int .i64 n, .int .i64 s] w fun e w' =>
      ∃ g zs, e = .returned (.slice (some ⟨g, 0, none⟩) n n) ∧ w.heap.size ≤ g ∧ g < w'.heap.size ∧ Row w' g 0 n zs ∧ valB B64 zs = 2 ^ s * valB B64 xs ∧ Below w.heap.size w w' := by
  obtain ⟨i0, hi, hz0, hz1, hz2⟩ := info_parts Tryz.infoU64
  have hl := h.len
  have HF : Hid (2 ^ s * valB B64 xs < B64 ^ n) := hfit
  clear hfit
  go_enter Tryz.func45, Tryz.ntmps45
  go_wp2_with (first
    | (at_make; refine wpList_make_full _ rfl _ _ 23 rfl w.heap.size 34 i0 (.int .u64 0) 1 Tryz.underlying23 hi hz0 hz1 _ _ _ _ n rfl rfl (by omega) (by omega) (by rw [hz2]; omega) (by unfold maxLen; omega) (Nat.le_refl _) ?_; intro w1 hown hgrow; have hb := made_blk hown hgrow; clear hown hgrow)
    | (refine wpList_copy_splice rfl (.tmp 10) (.tmp 11) 23 23 rfl 34 Tryz.underlying23 Tryz.sizeU64 (some ⟨w.heap.size, 0, none⟩) p n n m c rfl rfl w.heap.size 0 (cellsU (List.replicate n 0)) 34 hb.1 (cellsU xs) (by rw [cellsU_length, hl]; exact (Nat.min_eq_left hmn).symm) (fun h0 => ⟨rfl, (h.below hb.2).src (by rw [cellsU_length] at h0; omega)⟩) (by simp [cellsU_length]; omega) (cellsU_one xs) w.heap.size w hb.2 (Nat.le_refl _) ?_; intro w2 hg2 hb2))
  have hg3 : Blk w2 w.heap.size (xs ++ List.replicate (n - m) 0) := by
    have := hg2
    rw [splice_cellsU, hl] at this; exact this
  clear hg2 hb
  have hdz : Dig B64 (xs ++ List.replicate (n - m) 0) := dig_pad h.dig _
  have hr := hg3.row hdz
  have hlz : (xs ++ List.replicate (n - m) 0).length = n := by simp; omega
  rw [hlz] at hr
  refine (sup_gen w.heap.size n n s _ _ hr (Nat.le_refl _) (by omega) hs).mono ?_
  rintro e w3 ⟨zs, rfl, hwr, hrow, hval⟩
  rw [valB_append_zeros] at hval
  have HV : Hid (valB B64 zs = 2 ^ s * valB B64 xs) := no_over hval HF.out
  have hb3 : Below w.heap.size w w3 := hb2.trans (hwr.below (Nat.le_refl _))
  have hlt3 : w.heap.size < w3.heap.size := by rw [hwr.size]; exact hg3.lt
  clear hval hg3 hdz hr hlz hb2 hwr
  go_wp2_with fail
  go_ret
  exact ⟨_, zs, rfl, Nat.le_refl _, hlt3, hrow, HV.out, hb3⟩

theorem top_ne {ys : List Nat} {b n : Nat} (hy : Nf B64 ys b) (hl : ys.length = n) (h0 : 0 < n) : ys.getD (n - 1) 0 ≠ 0 := by
  refine hy.top _ ?_
  rw [List.getLast?_eq_getElem?, hl, List.getD_eq_getElem?_getD, List.getElem?_eq_getElem (by omega)]; rfl
theorem div_fit {ys : List Nat} {b n s : Nat} (hy : Nf B64 ys b) (hl : ys.length = n) (h0 : 0 < n) (hs : s + bitsN (ys.getD (n - 1) 0) = 64) : 2 ^ s * b < B64 ^ n := by
  obtain ⟨k, rfl⟩ : ∃ k, n = k + 1 := ⟨n - 1, by omega⟩
  rw [Nat.add_sub_cancel] at hs
  have h1 := valB_top hl
  have h2 := take_len_lt hy.dig (n := k) (by omega)
  rw [hy.val] at h1
  have h3 := bitsN_lt (ys.getD k 0)
  have h4 : 2 ^ s * (ys.getD k 0 + 1) ≤ 2 ^ s * 2 ^ bitsN (ys.getD k 0) := Nat.mul_le_mul_left _ h3
  rw [← Nat.pow_add, hs, show (2:Nat) ^ 64 = B64 from rfl] at h4
  have h5 : b < B64 ^ k * (ys.getD k 0 + 1) := by rw [Nat.mul_add, Nat.mul_one]; omega
  have h6 : 2 ^ s * b < 2 ^ s * (B64 ^ k * (ys.getD k 0 + 1)) := Nat.mul_lt_mul_of_pos_left h5 (Nat.two_pow_pos s)
  have h7 : B64 ^ k * (2 ^ s * (ys.getD k 0 + 1)) ≤ B64 ^ k * B64 := Nat.mul_le_mul_left _ h4
  rw [Nat.pow_succ]
  rw [Nat.mul_left_comm] at h6
  omega
theorem div_room {xs : List Nat} {a m s : Nat} (hx : Nf B64 xs a) (hl : xs.length = m) (hs : s < 64) : 2 ^ s * a < B64 ^ (m + 1) := by
  have h1 := valB_lt B64_pos hx.dig
  rw [hx.val, hl] at h1
  have h2 : (2:Nat) ^ s ≤ B64 := by rw [show B64 = 2 ^ 64 from rfl]; exact Nat.pow_le_pow_right (by omega) (by omega)
  have h3 : 2 ^ s * a ≤ B64 * a := Nat.mul_le_mul_right _ h2
  have h4 : B64 * a < B64 * B64 ^ m := Nat.mul_lt_mul_of_pos_left h1 B64_pos
  rw [Nat.pow_succ, Nat.mul_comm (B64 ^ m)]
  omega
theorem div_start {xs ys rs : List Nat} {a b m n s L : Nat} (hx : Nf B64 xs a) (hy : Nf B64 ys b) (hl : xs.length = m) (hm : ys.length = n) (h0 : 0 < n) (hL : L + n = m + 1) (hr : rs.length = m + 1) (hv : valB B64 rs = 2 ^ s * a) : valB B64 (rs.drop L) < 2 ^ s * b := by
  have h1 := valB_lt B64_pos hx.dig
  rw [hx.val, hl] at h1
  have h2 := valB_pos B64_pos (show ys ≠ [] by intro e; subst e; simp at hm; omega) hy.top
  rw [hy.val, hm] at h2
  have h3 := valB_split B64 rs L (by omega)
  have h4 : B64 ^ L * B64 ^ (n - 1) ≤ B64 ^ L * b := Nat.mul_le_mul_left _ h2
  rw [← Nat.pow_add, show L + (n - 1) = m by omega] at h4
  have h5 : 2 ^ s * a < 2 ^ s * (B64 ^ L * b) := Nat.mul_lt_mul_of_pos_left (by omega) (Nat.two_pow_pos s)
  rw [Nat.mul_left_comm] at h5
  exact Nat.lt_of_mul_lt_mul_left (a := B64 ^ L) (by omega)
theorem div_end {a b s Q r : Nat} (h : r + Q * (2 ^ s * b) = 2 ^ s * a) (hr : r < 2 ^ s * b) : Q = a / b ∧ r / 2 ^ s = a % b := by
  have hp := Nat.two_pow_pos s
  have e1 : Q * (2 ^ s * b) = 2 ^ s * (Q * b) := by rw [Nat.mul_left_comm]
  rw [e1] at h
  obtain ⟨r', hr'⟩ : ∃ r', r = 2 ^ s * r' := by
    refine ⟨a - Q * b, ?_⟩
    rw [Nat.mul_sub]; omega
  subst hr'
  have h2 : r' + Q * b = a := by
    rw [← Nat.mul_add] at h
    exact Nat.eq_of_mul_eq_mul_left hp h
  have h3 : r' < b := Nat.lt_of_mul_lt_mul_left hr
  have h4 := quo_unique (n := a) (q := Q) (y := b) (r := r') (by omega) h3
  refine ⟨h4.1, ?_⟩
  rw [Nat.mul_div_cancel_left _ hp]; exact h4.2

structure DivTo (w : World) (a b : Nat) (v1 v2 : Value) (w' : World) : Prop where
  quo : ∃ p m zs, v1 = .slice p m m ∧ Own w.heap.size w' p m zs ∧ Nf B64 zs (a / b) ∧ m ≤ 8192
  rem : ∃ p m zs, v2 = .slice p m m ∧ Own w.heap.size w' p m zs ∧ Nf B64 zs (a % b) ∧ m ≤ 8192
  bel : Below w.heap.size w w'

theorem divide_any {gp op gq oq : Nat} {m n c d : Nat} {xs ys : List Nat} {a b : Nat} {w : World} (h : At w (some ⟨gp, op, none⟩) m c xs) (k : At w (some ⟨gq, oq, none⟩) n d ys) (hx : Nf B64 xs a) (hy : Nf B64 ys b) (hm : m ≤ 8192) (hn : 2 ≤ n) (hnm : n ≤ m) :
    Calls Tryz.prog 24 #[.slice (some ⟨gp, op, none⟩) m c, .slice (some ⟨gq, oq, none⟩) n d] w fun e w' => ∃ v1 v2, e = .returned (.tuple #[v1, v2]) ∧ DivTo w a b v1 v2 w' := by
  obtain ⟨y, hyy⟩ : ∃ y, y = ys.getD (n - 1) 0 := ⟨_, rfl⟩
  have hyb : y < B64 := by rw [hyy]; exact hy.dig.getD B64_pos _
  have hy0 : y ≠ 0 := by rw [hyy]; exact top_ne hy k.len (by omega)
  have hb64 := bits64 hyb
  have hbp : 0 < bitsN y := by
    rcases Nat.eq_zero_or_pos (bitsN y) with e | e
    · exfalso
      have := bitsN_lt y
      rw [e] at this; simp at this; omega
    · exact e
  obtain ⟨s, hs⟩ : ∃ s, s + bitsN y = 64 := ⟨64 - bitsN y, by omega⟩
  have hs64 : s < 64 := by omega
  have cy : w.cell? ⟨gq, oq + (n - 1), none⟩ = some (U y) := by rw [hyy]; exact k.cellAt (n - 1) (by omega)
  have F1 : Hid (2 ^ s * valB B64 ys < B64 ^ n) := by
    have := div_fit hy k.len (by omega) (by rw [← hyy]; exact hs)
    rw [← hy.val] at this; exact this
  have F2 : Hid (2 ^ s * valB B64 xs < B64 ^ (m + 1)) := by
    have := div_room hx h.len hs64
    rw [← hx.val] at this; exact this
  have HX : Hid (Nf B64 xs a) := hx
  have HY : Hid (Nf B64 ys b) := hy
  have HS : Hid (s + bitsN y = 64) := hs
  have hlx := h.len; have hly := k.len
  have HLX : Hid (xs.length = m) := hlx
  have HLY : Hid (ys.length = n) := hly
  have kcap := k.cap; have kbig := k.big
  unfold maxLen at kbig
  have hwn : IntKind.i64.wrap ((n : Int) - 1) = (n : Int) - 1 := wrap_sub n 1 (by omega) (by omega)
  clear hx hy hyy hs hbp hb64 hlx hly
  go_enter Tryz.func24, Tryz.ntmps24
  go_wp2_with fail
  refine (lz_any y s w hyb HS.out).mono ?_
  rintro e w' ⟨rfl, hw⟩
  obtain rfl := hw.symm
  clear hw
  go_wp2_with fail
  refine (moved_any k n s (Nat.le_refl _) (by omega) hs64 F1.out).mono ?_
  rintro e w1 ⟨g1, zs1, rfl, hg1, hgl1, hrow1, hv1, hb1⟩
  have h1 := h.below hb1
  have HV1 : Hid (valB B64 zs1 = 2 ^ s * valB B64 ys) := hv1
  clear hv1 h k
  go_wp2_with fail
  rw [show ((m : Int) + 1) = ((m + 1 : Nat) : Int) by omega]
  refine (moved_any h1 (m + 1) s (by omega) (by omega) hs64 F2.out).mono ?_
  rintro e w2 ⟨g2, zs2, rfl, hg2, hgl2, hrow2, hv2, hb2⟩
  have hr1 := hrow1.below hb2 hgl1
  have HV2 : Hid (valB B64 zs2 = 2 ^ s * valB B64 xs) := hv2
  have hw2 := Below.on hb1 hb2
  clear hv2 h1 hrow1 hb1 hb2
  obtain ⟨i0, hi, hz0, hz1, hz2⟩ := info_parts Tryz.infoU64
  obtain ⟨L, hL⟩ : ∃ L, L = m - n + 1 := ⟨_, rfl⟩
  have HL : Hid (L = m - n + 1) := hL
  have hLi : (m : Int) - (n : Int) + 1 = (L : Int) := by omega
  have hLb : L ≤ 8192 := by omega
  clear hL
  go_wp2_with (at_make; refine wpList_make_full _ rfl _ _ 23 rfl w2.heap.size 34 i0 (.int .u64 0) 1 Tryz.underlying23 hi hz0 hz1 _ _ _ _ L rfl rfl (by omega) (by omega) (by rw [hz2]; omega) (by unfold maxLen; omega) (Nat.le_refl _) ?_; intro w3 hown hgrow; have hb := made_blk hown hgrow; clear hown hgrow)
  have hq3 : Row w3 w2.heap.size 0 L (List.replicate L 0) := by
    have := hb.1.row (Dig.replicate B64 L B64_pos)
    rw [List.length_replicate] at this; exact this
  have hlt12 : g1 < w2.heap.size := Nat.lt_of_lt_of_le hgl1 (by have := hw2.size; omega)
  have hr13 := hr1.below hb.2 hlt12
  have hr23 := hrow2.below hb.2 hgl2
  have hw3 := Below.on hw2 hb.2
  have hne12 : g1 ≠ g2 := by omega
  have hLn : L + n = m + 1 := by have := HL.out; omega
  rw [← hLn] at hr23
  have TD := takedig_any hq3 hr23 (hr13.at_ (Nat.le_refl _) (by unfold maxLen; omega)) (by omega) (by omega) hne12 hn (by omega) (by omega) (by
    rw [HV1.out, HY.out.val]
    exact div_start HX.out HY.out HLX.out HLY.out (by omega) hLn (by rw [hrow2.len]) (by rw [HV2.out, HX.out.val]))
  rw [hLn] at TD
  have HLN : Hid (L + n = m + 1) := hLn
  clear hLn hq3 hr13 hr23 hr1 hrow2 hLi
  refine TD.mono ?_
  rintro e w4 ⟨qs, rs, rfl, hbel, hrq, hrr, hlt, hsum⟩
  rw [HV1.out, HY.out.val] at hlt
  rw [HV1.out, HV2.out, HY.out.val, HX.out.val] at hsum
  have hend := div_end hsum hlt
  have hsp := valB_split B64 rs n (by rw [hrr.len]; omega)
  have hfit : valB B64 (rs.take n) = valB B64 rs := no_over hsp.symm (Nat.lt_trans hlt (by have := F1.out; rw [HY.out.val] at this; exact this))
  have HQ : Hid (valB B64 qs = a / b) := hend.1
  have HREM : Hid (valB B64 (rs.take n) / 2 ^ s = a % b) := by rw [hfit]; exact hend.2
  have hrt := hrr.take n (by omega)
  have hw4 : Below w.heap.size w w4 := hw3.trans (hbel w.heap.size (by have := hw2.size; omega) (by omega))
  have hgq4 : w2.heap.size ≠ g2 := by omega
  have hgqb : w.heap.size ≤ w2.heap.size := hw2.size
  generalize w2.heap.size = gz at *
  clear hsum hlt hend hsp hfit hrr hbel TD hw3 hw2 hb hlt12 hne12
  go_wp2_with fail
  refine (cut_row g2 0 (m + 1) (m + 1) n w4 (Nat.le_refl _) (by omega)).mono ?_
  rintro e w5 ⟨rfl, r5, hw5⟩
  have hrt5 : Row w5 g2 0 n (rs.take n) := by rw [hw5]; exact hrt.drewN r5
  have hrq5 : Row w5 gz 0 L qs := by rw [hw5]; exact hrq.drewN r5
  have hbw5 : Below w.heap.size w w5 := by rw [hw5]; exact bDrewN hw4 r5
  clear hw5 hrt hrq hw4
  go_wp2_with fail
  refine (sdn_any g2 n n s (rs.take n) w5 hrt5 (Nat.le_refl _) (by omega) hs64).mono ?_
  rintro e w6 ⟨us, rfl, hwr6, hrow6, hval6⟩
  rw [HREM.out] at hval6
  have hrq6 := hrq5.wr hwr6 hgq4
  have hbw6 : Below w.heap.size w w6 := hbw5.trans (hwr6.below (by omega))
  have AQ := hrq6.at_ (Nat.le_refl _) (by unfold maxLen; omega)
  have AR := hrow6.at_ (Nat.le_refl _) (by unfold maxLen; omega)
  have NQ : Hid (Nf B64 (trimL qs) (a / b)) := by have := Nf.trim hrq6.dig; rw [HQ.out] at this; exact this
  have NR : Hid (Nf B64 (trimL us) (a % b)) := by have := Nf.trim hrow6.dig; rw [hval6] at this; exact this
  clear hval6 hrt5 hrq5 hbw5 hwr6
  go_wp2_with fail
  refine (trim_any AQ).mono ?_
  rintro e w' ⟨p1, m1, rfl, hm1, hp1, hw⟩
  obtain rfl := hw.symm
  have HM1 : Hid (m1 = (trimL qs).length) := hm1
  clear hw hm1
  go_wp2_with fail
  refine (trim_any AR).mono ?_
  rintro e w' ⟨p2, m2, rfl, hm2, hp2, hw⟩
  obtain rfl := hw.symm
  have HM2 : Hid (m2 = (trimL us).length) := hm2
  clear hw hm2
  go_wp2_with fail
  go_ret2
  have hl1 := trimL_length_le qs; have hl2 := trimL_length_le us
  have e1 := HM1.out; have e2 := HM2.out; have e3 := hrq6.len; have e4 := hrow6.len
  exact ⟨_, _, rfl, ⟨p1, m1, _, rfl, hrq6.own hgqb e1 hp1, NQ.out, by omega⟩, ⟨p2, m2, _, rfl, hrow6.own (by omega) e2 hp2, NR.out, by omega⟩, hbw6⟩
end Go.Proofs.YtpebgjpfgfimgaaGreatDoor
namespace Go.Proofs.YtpebgjpfgfimgaaGreatDoor
open Go.RowKit
set_option maxRecDepth 20000
set_option maxHeartbeats 0
structure DivRel (w : World) (g n : Nat) (zs : List Nat) (v k re : Nat) (dk : List Nat) (wr : World) : Prop where
  wrs : ∀ B, B ≤ g → Below B w wr
  row : Row wr g 0 n dk
  lo : dk.take (n - k) = zs.take (n - k)
  rlt : re < v
  sum : valB B64 (zs.drop (n - k)) = valB B64 (dk.drop (n - k)) * v + re
theorem DivRel.step {w : World} {g n : Nat} {zs : List Nat} {v k re : Nat} {dk : List Nat} {wr wr' : World} (h : DivRel w g n zs v k re dk wr) (hk : k < n) (hz : zs.length = n) {x q r : Nat}
    (hx : x = dk.getD (n - 1 - k) 0) (hq : re * B64 + x = q * v + r) (hr : r < v) (hw : ∀ B, B ≤ g → Below B w wr') (hrow : Row wr' g 0 n (dk.set (n - 1 - k) q)) : DivRel w g n zs v (k + 1) r (dk.set (n - 1 - k) q) wr' := by
  have hl := h.row.len
  have e : n - (k + 1) = n - 1 - k := by omega
  have e2 : n - 1 - k + 1 = n - k := by omega
  have hxz : x = zs.getD (n - 1 - k) 0 := hx.trans (getD_of_take h.lo (by omega))
  refine ⟨hw, hrow, ?_, hr, ?_⟩
  · rw [e, take_set_at]; exact take_of_take h.lo (by omega)
  · rw [e, drop_set_at dk _ q (by omega), valB_drop _ zs (n - 1 - k) (by omega), ← hxz, valB_cons, e2, h.sum, Nat.add_mul, Nat.mul_add]
    have e3 : B64 * (valB B64 (dk.drop (n - k)) * v) = B64 * valB B64 (dk.drop (n - k)) * v := by rw [Nat.mul_assoc]
    rw [e3, Nat.mul_comm B64 re]
    omega

theorem divw_nf {p : Option Addr} {m c : Nat} {xs : List Nat} {a : Nat} {w : World} (h : At w p m c xs) (hx : Nf B64 xs a) (hm : m ≤ 8192) (v : Nat) (hv : v < B64) (hv0 : v ≠ 0) :
    Calls Tryz.prog 21 #[.slice p m c, U v] w fun e w' =>
      (∃ p' m' zs, e = .returned (.tuple #[.slice p' m' m', U (a % v), .int .i64 0]) ∧ Own w.heap.size w' p' m' zs ∧ Nf B64 zs (a / v) ∧ m' ≤ 8192) ∧ Below w.heap.size w w' := by
  have fx := hx.form (by rw [h.len]; exact hm)
  have hl := h.len
  have HX : Hid (Nf B64 xs a) := hx
  have hv0' : ((v : Int) == 0) = false := by simp; omega
  clear hx
  go_enter Tryz.func21, Tryz.ntmps21
  go_wp2_with fail
  refine (form_true h fx).mono ?_
  rintro e w' ⟨rfl, hw⟩
  obtain rfl := hw.symm
  clear hw fx
  go_wp2_with fail
  refine (copied_any h m (Nat.le_refl _) (by omega)).mono ?_
  rintro e w1 ⟨g, rfl, hg, hblk, hb⟩
  rw [Nat.sub_self, List.replicate_zero, List.append_nil] at hblk
  have hr := hblk.row HX.out.dig
  rw [hl] at hr
  go_wp2_with fail
  go_loopw [8, 9, 10, 22] (fun rv _ _ i wr => ∃ (k re : Nat) (dk : List Nat), k ≤ m ∧ i = .int .i64 k ∧ rv = U re ∧ DivRel w1 g m xs v k re dk wr) (fun _ _ _ i _ => m - (intOf i).toNat)
  case atStart => exact ⟨0, 0, xs, Nat.zero_le _, rfl, rfl, ⟨fun B _ => Below.refl _ _, hr, rfl, by omega, by rw [Nat.sub_zero, List.drop_of_length_le (by omega)]; simp [valB]⟩⟩
  case round =>
    obtain ⟨k, re, dk, hk, rfl, rfl, hR⟩ := hrel
    by_cases hlt : k < m
    · obtain ⟨x, hxx⟩ : ∃ x, x = dk.getD (m - 1 - k) 0 := ⟨_, rfl⟩
      have hcx : wr.cell? ⟨g, m - 1 - k, none⟩ = some (U x) := by
        have := hR.row.cell (m - 1 - k) (by omega)
        rw [← hxx, Nat.zero_add] at this; exact this
      have hfx : wr.frozen? ⟨g, m - 1 - k, none⟩ = false := by
        have := hR.row.frozen (m - 1 - k) (by omega)
        rw [Nat.zero_add] at this; exact this
      have hxb : x < B64 := by rw [hxx]; exact hR.row.dig.getD B64_pos _
      have hrv := hR.rlt
      have HR : Hid (DivRel w1 g m xs v k re dk wr) := hR
      have HXX : Hid (x = dk.getD (m - 1 - k) 0) := hxx
      clear hR hxx hr
      go_wp2_with fail
      refine (div64_any re x v _ hrv hv hxb).mono ?_
      rintro e w2 ⟨rfl, r, hw⟩
      obtain rfl := hw.symm
      clear hw
      obtain ⟨q, hq⟩ : ∃ q, q = (re * B64 + x) / v := ⟨_, rfl⟩
      obtain ⟨r2, hr2⟩ : ∃ r2, r2 = (re * B64 + x) % v := ⟨_, rfl⟩
      rw [← hq, ← hr2]
      have hqr : re * B64 + x = q * v + r2 := by rw [hq, hr2, Nat.mul_comm ((re * B64 + x) / v)]; exact (Nat.div_add_mod _ _).symm
      have hr2v : r2 < v := by rw [hr2]; exact Nat.mod_lt _ (by omega)
      have hqb : q < B64 := by
        rw [hq]
        refine (Nat.div_lt_iff_lt_mul (by omega)).2 ?_
        have : (re + 1) * B64 ≤ v * B64 := Nat.mul_le_mul_right _ hrv
        rw [Nat.add_mul, Nat.one_mul, Nat.mul_comm v] at this
        omega
      have HQR : Hid (re * B64 + x = q * v + r2) := hqr
      clear hq hr2 hqr
      go_wp2_with fail
      go_roundw
      case rel =>
        refine ⟨k + 1, r2, dk.set (m - 1 - k) q, by omega, by go_num, rfl, HR.out.step hlt hl HXX.out HQR.out hr2v (fun B hB => ?_) ?_⟩
        · exact bDrewN ((HR.out.wrs B hB).setCell hB _) r
        · have h1 := HR.out.row.set (m - 1 - k) q (by omega) hqb
          rw [Nat.zero_add] at h1
          exact h1.drewN r
      case measure => simp [intOf]; omega
    · obtain rfl : k = m := by omega
      have HR : Hid (DivRel w1 g k xs v k re dk wr) := hR
      clear hR hr
      have hh := HR.out
      have A3 := hh.row.at_ (Nat.le_refl _) (by unfold maxLen; omega)
      have hs := hh.sum
      rw [Nat.sub_self, List.drop_zero, List.drop_zero, HX.out.val] at hs
      obtain ⟨hq, hre⟩ := quo_unique hs hh.rlt
      have hN := Nf.trim hh.row.dig
      rw [hq] at hN
      have HV : Hid (Nf B64 (trimL dk) (a / v)) := hN
      have HRE : Hid (re = a % v) := hre
      have hb3 : Below w.heap.size w wr := hb.trans (hh.wrs _ hg)
      have hrow := hh.row
      clear hs hq hre hN hh
      go_wp2_with fail
      refine (trim_any A3).mono ?_
      rintro e w4 ⟨p', m', rfl, hm', hp', hw⟩
      obtain rfl := hw.symm
      have HM : Hid (m' = (trimL dk).length) := hm'
      clear hw hm'
      go_wp2_with fail
      go_ret3
      have e1 := HM.out
      have e2 := trimL_length_le dk
      have e3 := hrow.len
      exact ⟨⟨p', m', trimL dk, by rw [HRE.out]; rfl, hrow.own hg e1 hp', HV.out, by omega⟩, hb3⟩
end Go.Proofs.YtpebgjpfgfimgaaGreatDoor
namespace Go.Proofs.YtpebgjpfgfimgaaGreatDoor
open Go.RowKit Go.Shelf
set_option maxRecDepth 20000
set_option maxHeartbeats 0
theorem Nf.one {ys : List Nat} {b : Nat} (hy : Nf B64 ys b) (hl : ys.length = 1) : ys = [b] := by
  match ys, hl with
  | [y], _ => have := hy.val; simp [valB] at this; rw [this]
theorem Nf.lt_of_len {xs ys : List Nat} {a b n m : Nat} (hx : Nf B64 xs a) (hy : Nf B64 ys b) (hl : xs.length = n) (hm : ys.length = m) (h : n < m) : a < b := by
  have := val_lt_len hx.dig hy.top (by omega)
  rw [hx.val, hy.val] at this; exact this

theorem quorem_any {p q : Option Addr} {n m c d : Nat} {xs ys : List Nat} {a b : Nat} {w : World} (h : At w p n c xs) (k : At w q m d ys) (hx : Nf B64 xs a) (hy : Nf B64 ys b) (hlx : n ≤ 8192) (hly : m ≤ 8192) (hb : b ≠ 0) :
    Calls Tryz.prog 11 #[.slice p n c, .slice q m d] w fun e w' => ∃ v1 v2, e = .returned (.tuple #[v1, v2, .int .i64 0]) ∧ DivTo w a b v1 v2 w' := by
  have fx := hx.form (by rw [h.len]; exact hlx)
  have fy := hy.form (by rw [k.len]; exact hly)
  have hm0 : 0 < m := by
    rcases Nat.eq_zero_or_pos m with e | e
    · exact absurd ((hy.zero_iff B64_one).1 (List.eq_nil_of_length_eq_zero (by rw [k.len]; exact e))) hb
    · exact e
  have HX : Hid (Nf B64 xs a) := hx
  have HY : Hid (Nf B64 ys b) := hy
  clear hx hy
  have hlenx := h.len; have hleny := k.len
  have HLX : Hid (xs.length = n) := hlenx
  have HLY : Hid (ys.length = m) := hleny
  clear hlenx hleny
  go_enter Tryz.func11, Tryz.ntmps11
  go_wp2_with fail
  refine (form_true h fx).mono ?_
  rintro e w' ⟨rfl, hw⟩
  obtain rfl := hw.symm
  clear hw
  go_wp2_with fail
  refine (form_true k fy).mono ?_
  rintro e w' ⟨rfl, hw⟩
  obtain rfl := hw.symm
  clear hw fx fy
  have hm0' : ((m : Int) == 0) = false := by simp; omega
  by_cases h1 : m = 1
  · subst h1
    obtain ⟨gq, oq, rfl, hcq⟩ := k.cells.resolve_left (by omega)
    have hc0 : w.cell? ⟨gq, oq, none⟩ = some (U b) := by
      have := hcq 0 (by omega)
      rw [HY.out.one HLY.out] at this; exact this
    have hbb : b < B64 := by
      have := HY.out.dig b (by rw [HY.out.one HLY.out]; simp)
      exact this
    clear hcq
    go_wp2_with fail
    refine (divw_nf h HX.out hlx b hbb hb).mono ?_
    rintro e w1 ⟨⟨p1, m1, zs1, rfl, ho1, n1, hm1⟩, hb1⟩
    have N1 : Hid (Nf B64 zs1 (a / b)) := n1
    obtain ⟨r, hr⟩ : ∃ r, r = a % b := ⟨_, rfl⟩
    rw [← hr]
    have HR : Hid (r = a % b) := hr
    have hrb : r < B64 := by rw [hr]; exact Nat.lt_trans (Nat.mod_lt _ (by omega)) hbb
    clear n1 hr
    go_wp2_with fail
    refine (word_any r w1 hrb).mono ?_
    rintro e w2 ⟨p2, m2, zs2, rfl, ho2, n2, hm2, hb2⟩
    have N2 : Hid (Nf B64 zs2 r) := n2
    clear n2
    go_wp2_with fail
    go_ret3
    refine ⟨_, _, rfl, ⟨p1, m1, zs1, rfl, ho1.below hb2, N1.out, hm1⟩, ⟨p2, m2, zs2, rfl, ho2.mono hb1.size, ?_, by omega⟩, Below.on hb1 hb2⟩
    rw [← HR.out]; exact N2.out
  · have h1' : ((m : Int) == 1) = false := by simp; omega
    by_cases hlt : n < m
    · have hab := HX.out.lt_of_len HY.out HLX.out HLY.out hlt
      have HQ : Hid (a / b = 0 ∧ a % b = a) := ⟨Nat.div_eq_of_lt hab, Nat.mod_eq_of_lt hab⟩
      clear hab
      go_wp2_with fail
      refine (norm_any h).mono ?_
      rintro e w1 ⟨ha1, hb1⟩
      rw [HX.out.val] at ha1
      have hal : a < LIM := HX.out.lim.1 (by rw [HLX.out]; exact hlx)
      rcases ha1 with ⟨_, p1, m1, zs, rfl, ho, hn1, hm1⟩ | ⟨hge, _⟩
      · have N1 : Hid (Nf B64 zs a) := hn1
        clear hn1 hal
        go_wp2_with fail
        go_ret3
        refine ⟨_, _, rfl, ⟨none, 0, [], rfl, ⟨rfl, Dig.nil _, .inl rfl⟩, ?_, by omega⟩, ⟨p1, m1, zs, rfl, ho, ?_, hm1⟩, hb1⟩
        · rw [HQ.out.1]; exact Nf.nil _
        · rw [HQ.out.2]; exact N1.out
      · omega
    · obtain ⟨gp, op, rfl, _⟩ := h.cells.resolve_left (by omega)
      obtain ⟨gq, oq, rfl, _⟩ := k.cells.resolve_left (by omega)
      go_wp2_with fail
      refine (divide_any h k HX.out HY.out hlx (by omega) (by omega)).mono ?_
      rintro e w1 ⟨v1, v2, rfl, hD⟩
      have HD : Hid (DivTo w a b v1 v2 w1) := hD
      clear hD
      go_wp2_with fail
      go_ret3
      exact ⟨_, _, rfl, HD.out⟩
theorem newton_ge {x s r : Nat} (_hs : 0 < s) (hr : r * r ≤ x) : r ≤ (s + x / s) / 2 := by
  rw [Nat.le_div_iff_mul_le (by decide)]
  by_cases h : 2 * r ≤ s
  · have h3 : 0 ≤ x / s := Nat.zero_le _
    generalize x / s = e at *
    omega
  · have h1 : (2 * r - s) * s ≤ x := by
      refine Nat.le_trans ?_ hr
      obtain ⟨t, ht⟩ : ∃ t, 2 * r = s + t := ⟨2 * r - s, by omega⟩
      rw [ht, Nat.add_sub_cancel_left]
      rcases Nat.le_total s r with hsr | hsr
      · obtain ⟨u, hu⟩ : ∃ u, r = s + u := ⟨r - s, by omega⟩
        subst hu
        obtain rfl : t = s + 2 * u := by omega
        rw [Nat.add_mul, Nat.mul_add, Nat.add_mul, Nat.add_mul s u u]
        have : 2 * u * s = s * u + u * s := by rw [Nat.mul_comm s u, Nat.mul_assoc]; omega
        omega
      · obtain ⟨u, hu⟩ : ∃ u, s = r + u := ⟨s - r, by omega⟩
        subst hu
        obtain ⟨t', ht'⟩ : ∃ t', r = t' + u := ⟨r - u, by omega⟩
        subst ht'
        obtain rfl : t = t' := by omega
        have e : t * (t + u + u) + u * u = (t + u) * (t + u) := by rw [Nat.mul_add, Nat.mul_add, Nat.add_mul, Nat.mul_add, Nat.mul_add, Nat.mul_comm u t]; omega
        omega
    have h2 : 2 * r - s ≤ x / s := (Nat.le_div_iff_mul_le _hs).2 h1
    generalize x / s = e at *
    omega
structure NewR (x s : Nat) : Prop where
  pos : 0 < s
  le : s ≤ 4294967296
  lt : x < (s + 1) * (s + 1)
theorem NewR.step {x s : Nat} (h : NewR x s) (h0 : x ≠ 0) (hlt : (s + x / s) / 2 < s) : NewR x ((s + x / s) / 2) := by
  have h1 := h.le
  have hx : x < ((s + x / s) / 2 + 1) * ((s + x / s) / 2 + 1) := by
    rcases Nat.lt_or_ge x (((s + x / s) / 2 + 1) * ((s + x / s) / 2 + 1)) with e | e
    · exact e
    · have := newton_ge h.pos e; omega
  refine ⟨?_, by omega, hx⟩
  rcases Nat.eq_zero_or_pos ((s + x / s) / 2) with e | e
  · rw [e] at hx; omega
  · exact e
theorem NewR.done {x s : Nat} (h : NewR x s) (hge : s ≤ (s + x / s) / 2) : s * s ≤ x ∧ x ≤ s * s + 2 * s := by
  have h1 : s ≤ x / s := by omega
  have h2 := (Nat.le_div_iff_mul_le h.pos).1 h1
  have h3 := h.lt
  rw [Nat.add_mul, Nat.mul_add] at h3
  exact ⟨h2, by omega⟩
theorem NewR.start {x k L : Nat} (hL : L = bitsN x) (hk : k = (L + 1) / 2) (hb : L ≤ 64) : NewR x (2 ^ k) := by
  refine ⟨Nat.two_pow_pos k, ?_, ?_⟩
  · exact Nat.le_trans (Nat.pow_le_pow_right (by decide) (show k ≤ 32 by omega)) (by decide)
  · have h1 := bitsN_lt x
    rw [← hL] at h1
    have h2 : (2:Nat) ^ L ≤ 2 ^ (k + k) := Nat.pow_le_pow_right (by decide) (by omega)
    rw [Nat.pow_add] at h2
    rw [Nat.add_mul, Nat.mul_add]; omega

theorem newton_words {x s : Nat} (h : NewR x s) (hxb : x < B64) : ∃ q t n2 : Nat, IntKind.u64.wrap ((x : Int) / (s : Int)) = (q : Int) ∧ IntKind.u64.wrap ((s : Int) + (q : Int)) = (t : Int) ∧ (t : Int).tdiv 2 = (n2 : Int) ∧ IntKind.u64.wrap (n2 : Int) = (n2 : Int) ∧ n2 = (s + x / s) / 2 ∧ n2 < B64 := by
  have h1 := h.lt; have h2 := h.le; have h3 := h.pos
  have hq : x / s ≤ s + 2 := by
    refine Nat.lt_succ_iff.1 (Nat.div_lt_of_lt_mul ?_)
    rw [Nat.mul_succ, Nat.mul_add]
    rw [Nat.add_mul, Nat.mul_add] at h1
    omega
  rw [B64_eq] at *
  refine ⟨x / s, s + x / s, (s + x / s) / 2, u_quo x s (by rw [B64_eq]; exact hxb), ?_, ?_, ?_, rfl, ?_⟩ <;> generalize x / s = e at *
  · exact wrap_mod _ _ (by omega)
  · rw [Int.tdiv_eq_ediv_of_nonneg (by omega)]; omega
  · exact wrap_mod _ _ (by omega)
  · omega

structure RootTo (w : World) (a : Nat) (v1 v2 : Value) (w' : World) : Prop where
  val : ∃ s p m zs p' m' zs', s * s ≤ a ∧ a ≤ s * s + 2 * s ∧ v1 = .slice p m m ∧ Own w.heap.size w' p m zs ∧ Nf B64 zs s ∧ m ≤ 8192 ∧ v2 = .slice p' m' m' ∧ Own w.heap.size w' p' m' zs' ∧ Nf B64 zs' (a - s * s) ∧ m' ≤ 8192
  bel : Below w.heap.size w w'

theorem wordroot_any {g off c x : Nat} {w : World} (h : At w (some ⟨g, off, none⟩) 1 c [x]) (h0 : x ≠ 0) :
    Calls Tryz.prog 49 #[.slice (some ⟨g, off, none⟩) 1 c] w fun e w' => ∃ v1 v2, e = .returned (.tuple #[v1, v2]) ∧ RootTo w x v1 v2 w' := by
  have hxb : x < B64 := h.dig.head
  have hcx : w.cell? ⟨g, off, none⟩ = some (U x) := h.cellAt 0 (by omega)
  have cap := h.cap
  obtain ⟨L, hL⟩ : ∃ L, L = bitsN x := ⟨_, rfl⟩
  have hLb : L ≤ 64 := by rw [hL]; exact bits64 hxb
  obtain ⟨k, hk⟩ : ∃ k, k = (L + 1) / 2 := ⟨_, rfl⟩
  have HN : Hid (NewR x (2 ^ k)) := NewR.start hL hk hLb
  have hkt : ((L : Int) + 1).tdiv 2 = (k : Int) := by rw [Int.tdiv_eq_ediv_of_nonneg (by omega)]; omega
  have hk32 : k ≤ 32 := by omega
  have HL : Hid (L = bitsN x) := hL
  clear hL hk
  obtain ⟨s0, hs0⟩ : ∃ s0, s0 = 2 ^ k := ⟨_, rfl⟩
  have HN0 : Hid (NewR x s0) := by rw [hs0]; exact HN.out
  have hw0 : IntKind.u64.wrap (2 ^ k) = (s0 : Int) := by
    rw [int_pow, ← hs0]
    have h1 := HN0.out.le
    exact wrap_mod _ _ (by omega)
  have hp0 : ¬ (s0 : Int) = 0 := by have := HN0.out.pos; omega
  obtain ⟨q0, t0, n0, e1, e2, e3, e4, e5, e6⟩ := newton_words HN0.out hxb
  have HE5 : Hid (n0 = (s0 + x / s0) / 2) := e5
  clear hs0 HN e5
  go_enter Tryz.func49, Tryz.ntmps49
  go_wp2_with fail
  refine (len_any x w hxb).mono ?_
  rintro e w' ⟨rfl, hw⟩
  obtain rfl := hw.symm
  clear hw
  rw [← HL.out]
  go_wp2_with fail
  clear hw0 hp0 e1 e2 e3 e4
  go_loopg [5, 6] s0 (fun gk sv nv wr => sv = U gk ∧ ∃ n2 : Nat, nv = U n2 ∧ Hid (n2 = (gk + x / gk) / 2) ∧ Hid (NewR x gk) ∧ wr = w)
  case atStart => exact ⟨rfl, n0, rfl, HE5, HN0, rfl⟩
  case round =>
    obtain ⟨rfl, n2, rfl, HE, HR, hwr⟩ := hrel
    obtain rfl := hwr.symm
    clear hwr
    by_cases hlt : n2 < gk
    · have HR2 : Hid (NewR x n2) := by rw [HE.out]; exact HR.out.step h0 (by rw [← HE.out]; exact hlt)
      obtain ⟨q2, t2, n3, f1, f2, f3, f4, f5, f6⟩ := newton_words HR2.out hxb
      have HF5 : Hid (n3 = (n2 + x / n2) / 2) := f5
      have hp2 : ¬ (n2 : Int) = 0 := by have := HR2.out.pos; omega
      have hlt' : (n2 : Int) < (gk : Int) := by omega
      clear f5
      go_wp2_with fail
      go_roundg n2
      case measure => omega
      case rel => exact ⟨rfl, n3, rfl, HF5, HR2, rfl⟩
    · have hlt' : ¬ (n2 : Int) < (gk : Int) := by omega
      have hd := HR.out.done (by rw [← HE.out]; omega)
      have HD : Hid (gk * gk ≤ x ∧ x ≤ gk * gk + 2 * gk) := hd
      have hgb := HR.out.le
      obtain ⟨sq, hsq⟩ : ∃ sq, sq = gk * gk := ⟨_, rfl⟩
      have g1 : IntKind.u64.wrap ((gk : Int) * (gk : Int)) = (sq : Int) := by
        have e : ((gk : Int) * (gk : Int)) = ((gk * gk : Nat) : Int) := by simp
        rw [e, ← hsq]
        refine wrap_mod _ _ ?_
        rw [B64_eq] at hxb
        omega
      obtain ⟨re, hre⟩ : ∃ re, re = x - sq := ⟨_, rfl⟩
      have g2 : IntKind.u64.wrap ((x : Int) - (sq : Int)) = (re : Int) := wrap_mod _ _ (by rw [B64_eq] at hxb; omega)
      have hreb : re < B64 := by omega
      have HRE : Hid (re = x - gk * gk) := by rw [← hsq]; exact hre
      have hgk : gk < B64 := by rw [B64_eq]; omega
      clear hd hsq hre hlt
      go_wp2_with fail
      refine (word_any gk w hgk).mono ?_
      rintro e w1 ⟨p1, m1, z1, rfl, ho1, hn1, hm1, hb1⟩
      have N1 : Hid (Nf B64 z1 gk) := hn1
      clear hn1
      go_wp2_with fail
      refine (word_any re w1 hreb).mono ?_
      rintro e w2 ⟨p2, m2, z2, rfl, ho2, hn2, hm2, hb2⟩
      have N2 : Hid (Nf B64 z2 re) := hn2
      clear hn2
      go_wp2_with fail
      go_ret2
      refine ⟨_, _, rfl, ⟨gk, p1, m1, z1, p2, m2, z2, HD.out.1, HD.out.2, rfl, ho1.below hb2, N1.out, by omega, rfl, ho2.mono hb1.size, ?_, by omega⟩, Below.on hb1 hb2⟩
      rw [← HRE.out]; exact N2.out
end Go.Proofs.YtpebgjpfgfimgaaGreatDoor
namespace Go.Proofs.YtpebgjpfgfimgaaGreatDoor
set_option maxRecDepth 20000
set_option maxHeartbeats 0
structure RootC (a h P d o last : Nat) : Prop where
  id : a + d * d = (P * h + d) * (P * h + d) + (P * o + last)
  dP : d ≤ P
  big : (P * h) * (P * h) ≤ a
  lf : P * o + last < 2 * (P * h)
  dd : d * d ≤ 2 * (P * h)
  hh : 6 ≤ h
  pp : 1 ≤ P
theorem root_core {a h l P next last d o : Nat} (ha : a = (h * h + l) * (P * P) + (P * next + last)) (hl : l ≤ 2 * h) (hn : next < P) (hla : last < P) (hd : P * l + next = d * (2 * h) + o) (ho : o < 2 * h) (hP : P ≤ 2 * h) (h6 : 6 ≤ h) : RootC a h P d o last := by
  have hdP : d ≤ P := by
    have h1 : d * (2 * h) < (P + 1) * (2 * h) := by
      have h2 : P * l ≤ P * (2 * h) := Nat.mul_le_mul_left _ hl
      rw [Nat.add_mul, Nat.one_mul]; omega
    have := Nat.lt_of_mul_lt_mul_right h1
    omega
  have hid : a + d * d = (P * h + d) * (P * h + d) + (P * o + last) := by
    have h1 : P * (P * l + next) = P * (d * (2 * h) + o) := by rw [hd]
    rw [Nat.mul_add, Nat.mul_add] at h1
    have h2 : (h * h + l) * (P * P) = (P * h) * (P * h) + P * (P * l) := by
      rw [Nat.add_mul]
      have e1 : h * h * (P * P) = P * h * (P * h) := by rw [Nat.mul_mul_mul_comm, Nat.mul_comm h P]
      have e2 : l * (P * P) = P * (P * l) := by rw [Nat.mul_comm, Nat.mul_assoc]
      omega
    have h3 : (P * h + d) * (P * h + d) = (P * h) * (P * h) + P * (d * (2 * h)) + d * d := by
      have e1 : P * (d * (2 * h)) = P * h * d + d * (P * h) := by
        rw [Nat.mul_comm 2 h, ← Nat.mul_assoc d h 2, ← Nat.mul_assoc P (d * h) 2, Nat.mul_comm d (P * h), Nat.mul_comm d h, ← Nat.mul_assoc P h d]; omega
      rw [Nat.add_mul, Nat.mul_add, Nat.mul_add]; omega
    omega
  refine ⟨hid, hdP, ?_, ?_, ?_, h6, by omega⟩
  · have e1 : h * h * (P * P) = P * h * (P * h) := by rw [Nat.mul_mul_mul_comm, Nat.mul_comm h P]
    rw [ha, Nat.add_mul]; omega
  · have h1 : P * (o + 1) ≤ P * (2 * h) := Nat.mul_le_mul_left _ ho
    rw [Nat.mul_add, Nat.mul_one, Nat.mul_left_comm] at h1
    omega
  · have h1 : d * d ≤ P * P := Nat.mul_le_mul hdP hdP
    have h2 : P * P ≤ P * (2 * h) := Nat.mul_le_mul_left _ hP
    rw [Nat.mul_left_comm] at h2
    omega
theorem RootC.le {a h P d o last : Nat} (c : RootC a h P d o last) : 6 * (P * h) ≤ a ∧ P ≤ P * h ∧ h ≤ P * h := by
  have h1 : P * 6 ≤ P * h := Nat.mul_le_mul_left _ c.hh
  have h2 : 1 * h ≤ P * h := Nat.mul_le_mul_right _ c.pp
  have h3 : 6 * (P * h) ≤ (P * h) * (P * h) := Nat.mul_le_mul_right _ (by have := c.pp; omega)
  have := c.big
  exact ⟨by omega, by omega, by omega⟩
theorem RootC.fin {a h P d o last : Nat} (c : RootC a h P d o last) :
    (P * o + last < d * d → 1 ≤ P * h + d ∧ d * d ≤ P * o + last + 2 * (P * h + d) - 1) ∧
    (let S := if P * o + last < d * d then P * h + d - 1 else P * h + d
     let T := if P * o + last < d * d then P * o + last + 2 * (P * h + d) - 1 - d * d else P * o + last - d * d
     S * S ≤ a ∧ a ≤ S * S + 2 * S ∧ T = a - S * S) := by
  have h1 := c.id; have h2 := c.lf; have h3 := c.dd
  have hl := c.le
  refine ⟨fun hlt => ?_, ?_⟩
  · have hd1 : 1 ≤ d := by
      rcases Nat.eq_zero_or_pos d with e | e
      · subst e; simp at hlt
      · exact e
    exact ⟨by omega, by omega⟩
  · by_cases hlt : P * o + last < d * d
    · have hd1 : 1 ≤ d := by
        rcases Nat.eq_zero_or_pos d with e | e
        · subst e; simp at hlt
        · exact e
      simp only [if_pos hlt]
      generalize P * o + last = lf at *
      obtain ⟨S, hS⟩ : ∃ S, P * h + d = S + 1 := ⟨P * h + d - 1, by omega⟩
      rw [hS] at h1 ⊢
      have e1 : (S + 1) * (S + 1) = S * S + 2 * S + 1 := by rw [Nat.add_mul, Nat.mul_add]; omega
      rw [Nat.add_sub_cancel]
      rw [e1] at h1
      have h4 : d * d ≤ 2 * (S + 1) := by omega
      generalize d * d = dd at *
      generalize S * S = ss at *
      exact ⟨by omega, by omega, by omega⟩
    · simp only [if_neg hlt]
      generalize P * o + last = lf at *
      have h4 : lf ≤ 2 * (P * h + d) := by omega
      generalize P * h + d = S at *
      generalize d * d = dd at *
      generalize S * S = ss at *
      exact ⟨by omega, by omega, by omega⟩
theorem half_big {a n k h : Nat} (hn : n = bitsN a) (hk : k = n / 4) (hn65 : 65 ≤ n) (hh : a / 2 ^ (2 * k) ≤ h * h + 2 * h) : 2 ^ k ≤ 2 * h ∧ 6 ≤ h := by
  have ha : a ≠ 0 := by intro e; subst e; rw [bitsN_zero] at hn; omega
  have h1 := bitsN_le a ha
  rw [← hn] at h1
  have h2 : 2 ^ (2 * k - 1) ≤ a / 2 ^ (2 * k) := by
    rw [Nat.le_div_iff_mul_le (Nat.two_pow_pos _), ← Nat.pow_add]
    exact Nat.le_trans (Nat.pow_le_pow_right (by decide) (by omega)) h1
  have h3 : 2 ^ (k - 1) ≤ h := by
    rcases Nat.lt_or_ge h (2 ^ (k - 1)) with e | e
    · exfalso
      have e1 : (h + 1) * (h + 1) ≤ 2 ^ (k - 1) * 2 ^ (k - 1) := Nat.mul_le_mul e e
      rw [← Nat.pow_add] at e1
      have e2 : (2:Nat) ^ (k - 1 + (k - 1)) ≤ 2 ^ (2 * k - 1) := Nat.pow_le_pow_right (by decide) (by omega)
      have e3 : (h + 1) * (h + 1) = h * h + 2 * h + 1 := by rw [Nat.add_mul, Nat.mul_add]; omega
      omega
    · exact e
  have h4 : (2:Nat) ^ 3 ≤ 2 ^ (k - 1) := Nat.pow_le_pow_right (by decide) (by omega)
  have h5 : (2:Nat) ^ k = 2 * 2 ^ (k - 1) := by rw [← Nat.pow_succ', show (k - 1).succ = k by omega]
  exact ⟨by omega, by omega⟩
theorem split_low (a k : Nat) : a = a / 2 ^ (2 * k) * (2 ^ k * 2 ^ k) + (2 ^ k * (a % 2 ^ (2 * k) / 2 ^ k) + a % 2 ^ (2 * k) % 2 ^ k) := by
  have h1 := Nat.div_add_mod a (2 ^ (2 * k))
  have h2 := Nat.div_add_mod (a % 2 ^ (2 * k)) (2 ^ k)
  rw [h2, ← Nat.pow_add, show k + k = 2 * k by omega, Nat.mul_comm]; omega
end Go.Proofs.YtpebgjpfgfimgaaGreatDoor
namespace Go.Proofs.YtpebgjpfgfimgaaGreatDoor
open Go.RowKit
set_option maxRecDepth 20000
set_option maxHeartbeats 0
structure Chg (S : Nat → Nat → Prop) (w w' : World) : Prop where
  os : w'.os = w.os
  tape : w'.tape = w.tape
  output : w'.output = w.output
  size : w.heap.size ≤ w'.heap.size
  row : ∀ k cur t fr, w.heap[k]? = some (.cells cur t fr) → ∃ cur', w'.heap[k]? = some (.cells cur' t fr) ∧ cur'.size = cur.size ∧ ∀ j, ¬ S k j → cur'[j]? = cur[j]?
  other : ∀ k, k < w.heap.size → (∀ cur t fr, w.heap[k]? ≠ some (.cells cur t fr)) → w'.heap[k]? = w.heap[k]?

def Rg (g off n : Nat) : Nat → Nat → Prop := fun b o => b = g ∧ off ≤ o ∧ o < off + n
def Dj (g off n g' off' n' : Nat) : Prop := g ≠ g' ∨ off + n ≤ off' ∨ off' + n' ≤ off
theorem Dj.symm {g off n g' off' n' : Nat} (h : Dj g off n g' off' n') : Dj g' off' n' g off n := by unfold Dj at *; omega
theorem Dj.sub {g off n g' off' n' o m : Nat} (h : Dj g off n g' off' n') (h1 : off ≤ o) (h2 : o + m ≤ off + n) : Dj g o m g' off' n' := by unfold Dj at *; omega
theorem Dj.not {g off n g' off' n' j : Nat} (h : Dj g off n g' off' n') (hj : j < n) : ¬ Rg g' off' n' g (off + j) := by unfold Dj Rg at *; omega

theorem Chg.refl (S : Nat → Nat → Prop) (w : World) : Chg S w w := ⟨rfl, rfl, rfl, Nat.le_refl _, fun _ cur _ _ h => ⟨cur, h, rfl, fun _ _ => rfl⟩, fun _ _ _ => rfl⟩
theorem Chg.mono {S S' : Nat → Nat → Prop} {w w' : World} (h : Chg S w w') (hS : ∀ b o, S b o → S' b o) : Chg S' w w' := by
  refine ⟨h.os, h.tape, h.output, h.size, fun k cur t fr hk => ?_, h.other⟩
  obtain ⟨c, h1, h2, h3⟩ := h.row k cur t fr hk
  exact ⟨c, h1, h2, fun j hj => h3 j (fun hs => hj (hS k j hs))⟩
theorem Chg.trans {S : Nat → Nat → Prop} {a b c : World} (h : Chg S a b) (k : Chg S b c) : Chg S a c := by
  refine ⟨k.os.trans h.os, k.tape.trans h.tape, k.output.trans h.output, Nat.le_trans h.size k.size, fun i cur t fr hi => ?_, fun i hi hn => ?_⟩
  · obtain ⟨c1, g1, s1, e1⟩ := h.row i cur t fr hi
    obtain ⟨c2, g2, s2, e2⟩ := k.row i c1 t fr g1
    exact ⟨c2, g2, s2.trans s1, fun j hj => (e2 j hj).trans (e1 j hj)⟩
  · have e1 := h.other i hi hn
    rw [← e1]
    exact k.other i (Nat.lt_of_lt_of_le hi h.size) (by rw [e1]; exact hn)
theorem Wr.chg {g off n : Nat} {w w' : World} (h : Wr g off n w w') : Chg (Rg g off n) w w' := by
  refine ⟨h.os, h.tape, h.output, by rw [h.size]; exact Nat.le_refl _, fun k cur t fr hk => ?_, fun k _ hn => ?_⟩
  · by_cases e : k = g
    · subst e
      obtain ⟨c, h1, h2, h3⟩ := h.row cur t fr hk
      exact ⟨c, h1, h2, fun j hj => h3 j (by unfold Rg at hj; omega)⟩
    · exact ⟨cur, by rw [h.block k e]; exact hk, rfl, fun _ _ => rfl⟩
  · by_cases e : k = g
    · subst e; exact h.other hn
    · exact h.block k e
theorem Chg.drewN {S : Nat → Nat → Prop} {w w' : World} (h : Chg S w w') (q : Nat) : Chg S w (w'.drewN q) := ⟨h.os, h.tape, h.output, h.size, h.row, h.other⟩
theorem Chg.drew {S : Nat → Nat → Prop} {w w' : World} (h : Chg S w w') : Chg S w w'.drew := ⟨h.os, h.tape, h.output, h.size, h.row, h.other⟩
theorem Chg.cell {S : Nat → Nat → Prop} {w w' : World} (h : Chg S w w') {b o : Nat} {v : Value} (hn : ¬ S b o) (hc : w.cell? ⟨b, o, none⟩ = some v) : w'.cell? ⟨b, o, none⟩ = some v := by
  obtain ⟨c, e, fr, hb, hv⟩ := Sort.cells_of_cell? hc
  obtain ⟨c', h1, _, h3⟩ := h.row b c e fr hb
  rw [cell_of_row w' b o c' e fr h1, h3 o hn]; exact hv
theorem Chg.frozen {S : Nat → Nat → Prop} {w w' : World} (h : Chg S w w') {b o : Nat} {v : Value} (hc : w.cell? ⟨b, o, none⟩ = some v) : w'.frozen? ⟨b, o, none⟩ = w.frozen? ⟨b, o, none⟩ := by
  obtain ⟨c, e, fr, hb, hv⟩ := Sort.cells_of_cell? hc
  obtain ⟨c', h1, _, h3⟩ := h.row b c e fr hb
  simp [World.frozen?, hb, h1]
theorem Chg.below {S : Nat → Nat → Prop} {w w' : World} (h : Chg S w w') {B : Nat} (hS : ∀ b o, S b o → B ≤ b) (hB : B ≤ w.heap.size) : Below B w w' := by
  refine ⟨h.os, h.tape, h.output, h.size, fun k hk => ?_⟩
  by_cases hc : ∃ cur t fr, w.heap[k]? = some (.cells cur t fr)
  · obtain ⟨cur, t, fr, hcur⟩ := hc
    obtain ⟨c', h1, h2, h3⟩ := h.row k cur t fr hcur
    have e : c' = cur := by
      apply Array.ext_getElem?
      intro j
      exact h3 j (fun hs => by have := hS k j hs; omega)
    rw [h1, hcur, e]
  · exact h.other k (by omega) (fun cur t fr e => hc ⟨cur, t, fr, e⟩)
theorem Below.chg {w w' : World} (h : Below w.heap.size w w') (S : Nat → Nat → Prop) : Chg S w w' := by
  refine ⟨h.os, h.tape, h.output, h.size, fun k cur t fr hk => ?_, fun k hk _ => h.block k hk⟩
  have hlt : k < w.heap.size := (Array.getElem?_eq_some_iff.1 hk).1
  exact ⟨cur, by rw [h.block k hlt]; exact hk, rfl, fun _ _ => rfl⟩

structure Rd (w : World) (g off n : Nat) (xs : List Nat) : Prop where
  len : xs.length = n
  dig : Dig B64 xs
  cell : ∀ j, j < n → w.cell? ⟨g, off + j, none⟩ = some (U (xs.getD j 0))
theorem Row.rd {w : World} {g off n : Nat} {xs : List Nat} (h : Row w g off n xs) : Rd w g off n xs := ⟨h.len, h.dig, h.cell⟩
theorem Rd.at_ {w : World} {g off n c : Nat} {xs : List Nat} (h : Rd w g off n xs) (hc : n ≤ c) (hb : c ≤ maxLen) : At w (some ⟨g, off, none⟩) n c xs := ⟨h.len, hc, hb, h.dig, .inr ⟨g, off, rfl, h.cell⟩⟩
theorem Rd.chg {w w' : World} {S : Nat → Nat → Prop} {g off n : Nat} {xs : List Nat} (h : Rd w g off n xs) (hc : Chg S w w') (hd : ∀ j, j < n → ¬ S g (off + j)) : Rd w' g off n xs :=
  ⟨h.len, h.dig, fun j hj => hc.cell (hd j hj) (h.cell j hj)⟩
theorem Row.chg {w w' : World} {S : Nat → Nat → Prop} {g off n : Nat} {xs : List Nat} (h : Row w g off n xs) (hc : Chg S w w') (hd : ∀ j, j < n → ¬ S g (off + j)) : Row w' g off n xs :=
  ⟨h.len, h.dig, fun j hj => hc.cell (hd j hj) (h.cell j hj), fun j hj => by rw [hc.frozen (h.cell j hj)]; exact h.frozen j hj⟩
theorem Row.sub {w : World} {g off n : Nat} {xs : List Nat} (h : Row w g off n xs) (k m : Nat) (hkm : k + m ≤ n) : Row w g (off + k) m ((xs.drop k).take m) := by
  have hl := h.len
  refine ⟨by simp; omega, (h.dig.drop k).take m, fun j hj => ?_, fun j hj => by rw [Nat.add_assoc]; exact h.frozen (k + j) (by omega)⟩
  have e : ((xs.drop k).take m).getD j 0 = xs.getD (k + j) 0 := by rw [List.getD_eq_getElem?_getD, List.getD_eq_getElem?_getD, List.getElem?_take, if_pos hj, List.getElem?_drop]
  rw [e, Nat.add_assoc]; exact h.cell (k + j) (by omega)
theorem Rd.sub {w : World} {g off n : Nat} {xs : List Nat} (h : Rd w g off n xs) (k m : Nat) (hkm : k + m ≤ n) : Rd w g (off + k) m ((xs.drop k).take m) := by
  have hl := h.len
  refine ⟨by simp; omega, (h.dig.drop k).take m, fun j hj => ?_⟩
  have e : ((xs.drop k).take m).getD j 0 = xs.getD (k + j) 0 := by rw [List.getD_eq_getElem?_getD, List.getD_eq_getElem?_getD, List.getElem?_take, if_pos hj, List.getElem?_drop]
  rw [e, Nat.add_assoc]; exact h.cell (k + j) (by omega)
theorem Row.join {w : World} {g off n m : Nat} {xs ys : List Nat} (h : Row w g off n xs) (k : Row w g (off + n) m ys) : Row w g off (n + m) (xs ++ ys) := by
  have hl := h.len
  have kl := k.len
  refine ⟨by simp; omega, h.dig.append k.dig, fun j hj => ?_, fun j hj => ?_⟩
  · by_cases e : j < n
    · rw [List.getD_eq_getElem?_getD, List.getElem?_append_left (by omega), ← List.getD_eq_getElem?_getD]; exact h.cell j e
    · rw [List.getD_eq_getElem?_getD, List.getElem?_append_right (by omega), ← List.getD_eq_getElem?_getD, hl]
      have := k.cell (j - n) (by omega)
      rw [Nat.add_assoc, show n + (j - n) = j by omega] at this; exact this
  · by_cases e : j < n
    · exact h.frozen j e
    · have := k.frozen (j - n) (by omega)
      rw [Nat.add_assoc, show n + (j - n) = j by omega] at this; exact this
theorem Wr.setCells {g : Nat} : ∀ (vs : List Value) (off : Nat) (w : World), Wr g off vs.length w (w.setCells g off vs)
  | [], off, w => Wr.refl _ _ _ _
  | v :: r, off, w => by
    have h1 : Wr g off (r.length + 1) w (w.setCell ⟨g, off, none⟩ v) := (Wr.refl g off (r.length + 1) w).setCell off ⟨by omega, by omega⟩ v
    have h2 := Wr.setCells (g := g) r (off + 1) (w.setCell ⟨g, off, none⟩ v)
    exact h1.trans (h2.mono (by omega) (by omega))
theorem Row.cleared {w : World} {g off n : Nat} {xs : List Nat} (h : Row w g off n xs) : Row (w.setCells g off (List.replicate n (U 0))) g off n (List.replicate n 0) := by
  refine ⟨by simp, Dig.replicate _ _ B64_pos, fun j hj => ?_, fun j hj => by rw [World.frozen?_setCells]; exact h.frozen j hj⟩
  have h1 := World.cell?_setCells_in g (List.replicate n (U 0)) off w (fun i hi => by rw [h.cell i (by simpa using hi)]; rfl) j (by simpa using hj)
  rw [h1]
  simp [hj]
theorem run_clear {w : World} {g off n c : Nat} {xs : List Nat} (h : Row w g off n xs) (hn : 0 < n) (ty : TypeId) :
    (Builtin.clear_ #[23] ty #[.slice (some ⟨g, off, none⟩) n c]).run Tryz.prog w = .ok (.tuple #[]) (w.setCells g off (List.replicate n (U 0))) :=
  Lib.run_clear_slice w 23 34 ty (.int .u64 0) Tryz.underlying23 Tryz.zeroValue34 rfl rfl g off n c hn (fun j hj => by rw [h.cell j hj]; rfl) (fun j hj => h.frozen j hj)
structure RowsRel (w : World) (g off n m : Nat) (xs ys : List Nat) (i : Nat) (dk : List Nat) (wr : World) : Prop where
  wrs : Wr g off (n + m) w wr
  row : Row wr g off (n + m) dk
  val : valB B64 dk = valB B64 xs * valB B64 (ys.take i)
  top : dk.drop (i + n) = List.replicate (m - i) 0

theorem rows_val {xs ys dk zs2 : List Nat} {n m k cy y : Nat} (hl : dk.length = n + m) (hk : k < m) (hy : y = ys.getD k 0) (hv : valB B64 dk = valB B64 xs * valB B64 (ys.take k)) (ht : dk.drop (k + n) = List.replicate (m - k) 0)
    (hz : zs2.length = n) (hs : valB B64 zs2 + B64 ^ n * cy = valB B64 ((dk.drop k).take n) + valB B64 xs * y) : valB B64 (dk.take k ++ (zs2 ++ [cy] ++ List.replicate (m - k - 1) 0)) = valB B64 xs * valB B64 (ys.take (k + 1)) := by
  have e1 : valB B64 dk = valB B64 (dk.take k) + B64 ^ k * valB B64 ((dk.drop k).take n) := by
    rw [valB_split B64 dk k (by omega), valB_split B64 (dk.drop k) n (by simp; omega), List.drop_drop, ht, valB_replicate]; simp
  rw [valB_append, List.length_take, Nat.min_eq_left (by omega), valB_append_zeros, valB_snoc, hz, hs, valB_take_any _ ys k, ← hy, Nat.mul_add, Nat.mul_add, ← Nat.add_assoc, ← e1, hv]
  rw [show B64 ^ k * (valB B64 xs * y) = valB B64 xs * (B64 ^ k * y) by rw [← Nat.mul_assoc, ← Nat.mul_assoc, Nat.mul_comm (B64 ^ k)]]
theorem RowsRel.step {w : World} {g off n m : Nat} {xs ys : List Nat} {k : Nat} {dk : List Nat} {wr w2 w3 : World} (h : RowsRel w g off n m xs ys k dk wr) (hk : k < m) {y cy : Nat} (hy : y = ys.getD k 0) {zs2 : List Nat} (hcy : cy < B64)
    (hw2 : Wr g (off + k) n wr.drew w2) (hr2 : Row w2 g (off + k) n zs2) (hs : valB B64 zs2 + B64 ^ n * cy = valB B64 ((dk.drop k).take n) + valB B64 xs * y) (hc : w2.cell? ⟨g, off + (k + n), none⟩ = some (U 0)) (hf : w2.frozen? ⟨g, off + (k + n), none⟩ = false)
    (hw3 : w3 = w2.setCell ⟨g, off + (k + n), none⟩ (U cy)) : RowsRel w g off n m xs ys (k + 1) (dk.take k ++ (zs2 ++ [cy] ++ List.replicate (m - k - 1) 0)) w3 := by
  have hl := h.row.len
  have hW23 : Wr g (off + (k + n)) 1 w2 w3 := by rw [hw3]; exact (Wr.refl g (off + (k + n)) 1 w2).setCell _ ⟨by omega, by omega⟩ _
  have hlen2 : (dk.take k ++ (zs2 ++ [cy] ++ List.replicate (m - k - 1) 0)).length = n + m := by simp [hr2.len]; omega
  have lo : Row w3 g off k (dk.take k) := by
    have h0 := (h.row.take k (by omega)).drew
    exact (h0.chg hw2.chg (fun j hj => by unfold Rg; omega)).chg hW23.chg (fun j hj => by unfold Rg; omega)
  have mid : Row w3 g (off + k) n zs2 := hr2.chg hW23.chg (fun j hj => by unfold Rg; omega)
  have one : Row w3 g (off + k) (n + 1) (zs2 ++ [cy]) := by
    refine mid.snoc ?_ ?_ hcy
    · rw [hw3, Nat.add_assoc]; exact World.cell?_setCell_same _ _ _ hc
    · rw [hw3, Nat.add_assoc, World.frozen?_setCell]; exact hf
  have hi : Row w3 g (off + k + (n + 1)) (m - k - 1) (List.replicate (m - k - 1) 0) := by
    have h0 := (h.row.sub (k + n + 1) (m - k - 1) (by omega)).drew
    have e : (dk.drop (k + n + 1)).take (m - k - 1) = List.replicate (m - k - 1) 0 := by
      rw [← List.drop_drop, h.top, List.drop_replicate, List.take_replicate]; simp
    rw [e] at h0
    have h1 := (h0.chg hw2.chg (fun j hj => by unfold Rg; omega)).chg hW23.chg (fun j hj => by unfold Rg; omega)
    rw [show off + (k + n + 1) = off + k + (n + 1) by omega] at h1; exact h1
  have all := lo.join (one.join hi)
  rw [show k + (n + 1 + (m - k - 1)) = n + m by omega] at all
  have hWd : Wr g off (n + m) w wr.drew := h.wrs.drew
  refine ⟨(hWd.trans (hw2.mono (by omega) (by omega))).trans (hW23.mono (by omega) (by omega)), all, rows_val hl hk hy h.val h.top hr2.len hs, ?_⟩
  rw [show k + 1 + n = k + (n + 1) by omega, List.drop_append, List.drop_eq_nil_of_le (by simp; omega), List.nil_append, List.length_take, hl, Nat.min_eq_left (by omega), Nat.add_sub_cancel_left, List.drop_append, List.drop_eq_nil_of_le (by simp [hr2.len]), List.nil_append]
  simp [hr2.len]; omega

theorem rows_any (g off c : Nat) (zs : List Nat) (p q : Option Addr) (n cn m cm : Nat) (xs ys : List Nat) (w : World) (hz : Row w g off (n + m) zs) (hnc : n + m ≤ c) (hbig : c ≤ 9223372036854775807)
    (ha : At w p n cn xs) (hb : At w q m cm ys) (hn : 0 < n) (hm : 0 < m) (hap : ∀ g2 off2, p = some ⟨g2, off2, none⟩ → Dj g2 off2 n g off (n + m)) (hbp : ∀ g2 off2, q = some ⟨g2, off2, none⟩ → Dj g2 off2 m g off (n + m)) :
    Calls Tryz.prog 125 #[.slice (some ⟨g, off, none⟩) (n + m) c, .slice p n cn, .slice q m cm] w fun e w' =>
      ∃ zs', e = .returned (.tuple #[]) ∧ Wr g off (n + m) w w' ∧ Row w' g off (n + m) zs' ∧ valB B64 zs' = valB B64 xs * valB B64 ys := by
  have al := ha.len; have bl := hb.len; have bcap := hb.cap; have bbig := hb.big; have acap := ha.cap; have abig := ha.big
  unfold maxLen at abig bbig
  obtain ⟨ga, oa, rfl, hca⟩ := ha.cells.resolve_left (by omega)
  obtain ⟨gb, ob, rfl, hcb⟩ := hb.cells.resolve_left (by omega)
  have hda := hap ga oa rfl
  have hdb := hbp gb ob rfl
  have hcl := run_clear (c := c) hz (by omega)
  have h1 := hz.cleared
  have hW1 : Wr g off (n + m) w (w.setCells g off (List.replicate (n + m) (U 0))) := by
    have := Wr.setCells (g := g) (List.replicate (n + m) (U 0)) off w
    rw [List.length_replicate] at this; exact this
  generalize w.setCells g off (List.replicate (n + m) (U 0)) = w1 at *
  have HDA : Hid (Dj ga oa n g off (n + m)) := hda
  have HDB : Hid (Dj gb ob m g off (n + m)) := hdb
  clear hap hbp hda hdb hz
  go_enter Tryz.func125, Tryz.ntmps125
  go_wp2_with fail
  go_loopw [6, 10] (fun _ i wr => ∃ (k : Nat) (dk : List Nat), k ≤ m ∧ i = .int .i64 k ∧ RowsRel w g off n m xs ys k dk wr) (fun _ i _ => m - (intOf i).toNat)
  case atStart => exact ⟨0, _, Nat.zero_le _, rfl, hW1, h1, by simp [valB, valB_replicate], by simp [List.drop_replicate]⟩
  case round =>
    clear h1 hW1 hcl
    obtain ⟨k, dk, hk, rfl, hR⟩ := hrel
    by_cases hlt : k < m
    · obtain ⟨y, hy⟩ : ∃ y, y = ys.getD k 0 := ⟨_, rfl⟩
      have hcy : wr.cell? ⟨gb, ob + k, none⟩ = some (U y) := by
        rw [hy, hR.wrs.cell gb (ob + k) (by have := HDB.out; unfold Dj at this; omega)]; exact hcb k hlt
      have hyb : y < B64 := by rw [hy]; exact hb.dig.getD B64_pos k
      have hr1 := (hR.row.sub k n (by omega)).drew
      have hA1 : At wr.drew (some ⟨ga, oa, none⟩) n cn xs := ⟨al, acap, ha.big, ha.dig, .inr ⟨ga, oa, rfl, fun j hj => by show wr.cell? _ = _; rw [hR.wrs.cell ga (oa + j) (by have := HDA.out; unfold Dj at this; omega)]; exact hca j hj⟩⟩
      have HR : Hid (RowsRel w g off n m xs ys k dk wr) := hR
      have HY : Hid (y = ys.getD k 0) := hy
      have H0 : Hid (∀ w2, Wr g (off + k) n wr.drew w2 → w2.cell? ⟨g, off + (k + n), none⟩ = some (U 0) ∧ w2.frozen? ⟨g, off + (k + n), none⟩ = false) := by
        intro w2 hw2
        have h0 : dk.getD (k + n) 0 = 0 := by
          have := congrArg (fun l : List Nat => l[0]?) hR.top
          simp only [List.getElem?_drop, Nat.add_zero, List.getElem?_replicate, show 0 < m - k by omega, if_true] at this
          rw [List.getD_eq_getElem?_getD, this]; rfl
        have hc := hR.row.cell (k + n) (by omega)
        rw [h0] at hc
        exact ⟨by rw [hw2.cell g _ (by omega)]; exact hc, by rw [hw2.frozen]; exact hR.row.frozen (k + n) (by omega)⟩
      have HAP : Hid (∀ g2 off2, 0 < n → some (⟨ga, oa, none⟩ : Addr) = some ⟨g2, off2, none⟩ → g2 ≠ g ∨ off2 + n ≤ off + k ∨ off + k + n ≤ off2) := by
        intro g2 off2 _ hp
        simp only [Option.some.injEq, Addr.mk.injEq, and_true] at hp
        obtain ⟨rfl, rfl⟩ := hp
        have := HDA.out; unfold Dj at this; omega
      clear hR hy hca hcb
      go_wp2_with fail
      go_region_with (go_at_call 61; refine (amul_any g (off + k) (n + m - k) (c - k) _ (some ⟨ga, oa, none⟩) n cn xs y _ hr1 (by omega) (by omega) (by omega) hA1 hyb HAP.out).mono ?_; rintro e w2 ⟨cy, zs2, rfl, hcyb, hwr2, hrow2, hsum2⟩; obtain ⟨hcs, hfs⟩ := H0.out w2 hwr2)
      all_goals
        go_wp2_with fail
        go_roundw
        case rel => exact ⟨k + 1, _, by omega, by go_num, HR.out.step hlt HY.out hcyb hwr2 hrow2 hsum2 hcs hfs rfl⟩
        case measure => simp [intOf]; omega
    · obtain rfl : k = m := by omega
      have HR : Hid (RowsRel w g off n k xs ys k dk wr) := hR
      clear hR
      go_wp2_with fail
      go_end0
      have hh := HR.out
      have h2 := hh.val
      rw [List.take_of_length_le (by omega)] at h2
      exact ⟨dk, rfl, hh.wrs, hh.row, h2⟩
theorem Row.copied {w : World} {g off n : Nat} {zs : List Nat} (h : Row w g off n zs) (xs : List Nat) (hd : Dig B64 xs) (hx : xs.length ≤ n) : Row (w.setCells g off (cellsU xs)) g off n (xs ++ zs.drop xs.length) := by
  have hl := h.len
  refine ⟨by simp; omega, hd.append (h.dig.drop _), fun j hj => ?_, fun j hj => by rw [World.frozen?_setCells]; exact h.frozen j hj⟩
  by_cases e : j < xs.length
  · have h1 := World.cell?_setCells_in g (cellsU xs) off w (fun i hi => by rw [h.cell i (by rw [cellsU_length] at hi; omega)]; rfl) j (by rw [cellsU_length]; exact e)
    rw [h1, List.getD_eq_getElem?_getD, List.getElem?_append_left e, ← List.getD_eq_getElem?_getD]
    have := cellsU_get xs j e
    rw [List.getElem?_eq_getElem (by rw [cellsU_length]; exact e)] at this
    exact this
  · rw [World.cell?_setCells_out g (cellsU xs) off w _ (fun _ _ => .inr (by rw [cellsU_length]; simp; omega)), List.getD_eq_getElem?_getD, List.getElem?_append_right (by omega), List.getElem?_drop, show xs.length + (j - xs.length) = j by omega, ← List.getD_eq_getElem?_getD]
    exact h.cell j hj

theorem addh_any (g off k c : Nat) (ss : List Nat) (p q : Option Addr) (cl h ch : Nat) (xs ys : List Nat) (w : World) (hz : Row w g off (k + 1) ss) (hkc : k + 1 ≤ c) (hbig : c ≤ 9223372036854775807)
    (ha : At w p k cl xs) (hb : At w q h ch ys) (hk : 0 < k) (hh : h ≤ k) (hap : ∀ g2 off2, p = some ⟨g2, off2, none⟩ → Dj g2 off2 k g off (k + 1)) (hbp : ∀ g2 off2, 0 < h → q = some ⟨g2, off2, none⟩ → Dj g2 off2 h g off (k + 1)) :
    Calls Tryz.prog 130 #[.slice (some ⟨g, off, none⟩) (k + 1) c, .slice p k cl, .slice q h ch] w fun e w' =>
      ∃ zs', e = .returned (.tuple #[]) ∧ Wr g off (k + 1) w w' ∧ Row w' g off (k + 1) zs' ∧ valB B64 zs' = valB B64 xs + valB B64 ys := by
  have al := ha.len; have bl := hb.len
  obtain ⟨ga, oa, rfl, hca⟩ := ha.cells.resolve_left (by omega)
  have hda := hap ga oa rfl
  have hcl := run_clear (c := c) hz (by omega)
  have h1 := hz.cleared
  have hW1 : Wr g off (k + 1) w (w.setCells g off (List.replicate (k + 1) (U 0))) := by
    have := Wr.setCells (g := g) (List.replicate (k + 1) (U 0)) off w
    rw [List.length_replicate] at this; exact this
  generalize w.setCells g off (List.replicate (k + 1) (U 0)) = w1 at *
  have hsrc : ∀ j v, (cellsU xs)[j]? = some v → w1.cell? ((⟨ga, oa, none⟩ : Addr).add j) = some v := by
    intro j v hv
    have hj : j < xs.length := by
      have := (List.getElem?_eq_some_iff.1 hv).1
      rwa [cellsU_length] at this
    have hadd : (⟨ga, oa, none⟩ : Addr).add j = ⟨ga, oa + j, none⟩ := by unfold Addr.add; split <;> simp_all
    rw [hadd, hW1.cell ga (oa + j) (by unfold Dj at hda; omega), hca j (by omega)]
    rw [cellsU_get xs j hj] at hv; exact hv
  have hcp : ∀ ty, (Builtin.copy_ #[23, 23] ty #[.slice (some ⟨g, off, none⟩) (k + 1) c, .slice (some ⟨ga, oa, none⟩) k cl]).run Tryz.prog w1 = .ok (goInt k) (w1.setCells g off (cellsU xs)) := by
    intro ty
    have := run_copy_cells (P := Tryz.prog) w1 23 23 ty 34 g off (k + 1) c ⟨ga, oa, none⟩ k cl (cellsU xs) Tryz.underlying23 Tryz.sizeU64 (by rw [cellsU_length, al]; exact (Nat.min_eq_left (by omega)).symm) hsrc (fun j hj => by rw [h1.cell j (by rw [cellsU_length] at hj; omega)]; rfl) (fun j hj => h1.frozen j (by rw [cellsU_length] at hj; omega)) (cellsU_one xs)
    rw [cellsU_length, al] at this
    exact this
  have h2 := h1.copied xs ha.dig (by omega)
  have hW2 : Wr g off (k + 1) w (w1.setCells g off (cellsU xs)) := by
    have := Wr.setCells (g := g) (cellsU xs) off w1
    rw [cellsU_length, al] at this
    exact hW1.trans (this.mono (Nat.le_refl _) (by omega))
  rw [List.drop_replicate, al] at h2
  generalize w1.setCells g off (cellsU xs) = w2 at *
  have hB2 : At w2 q h ch ys := by
    refine ⟨bl, hb.cap, hb.big, hb.dig, ?_⟩
    by_cases h0 : h = 0
    · exact .inl h0
    · obtain ⟨gb, ob, rfl, hcb⟩ := hb.cells.resolve_left h0
      have hdb := hbp gb ob (by omega) rfl
      exact .inr ⟨gb, ob, rfl, fun j hj => by rw [hW2.cell gb (ob + j) (by unfold Dj at hdb; omega)]; exact hcb j hj⟩
  have HBP : Hid (∀ g2 off2, 0 < h → q = some ⟨g2, off2, none⟩ → g2 ≠ g ∨ off2 + h ≤ off ∨ off + (k + 1) ≤ off2) := by
    intro g2 off2 h0 hq
    have := hbp g2 off2 h0 hq; unfold Dj at this; omega
  clear hsrc hap hbp hda hz h1 hW1
  go_enter Tryz.func130, Tryz.ntmps130
  go_wp2_with fail
  refine (ladd_any g off (k + 1) c _ q h ch ys _ h2 hkc hbig hB2 (by omega) HBP.out).mono ?_
  rintro e w3 ⟨cy, zs, rfl, hcy, hwr, hrow, hsum⟩
  go_wp2_with fail
  go_end0
  refine ⟨zs, rfl, hW2.trans hwr, hrow, ?_⟩
  rw [valB_append_zeros] at hsum
  have b1 := valB_lt B64_pos ha.dig
  have b2 := valB_lt B64_pos hb.dig
  rw [al] at b1
  rw [bl] at b2
  refine add_abs hsum b1 b2 (Nat.pow_le_pow_right B64_pos hh) ?_
  rw [Nat.pow_succ]; exact Nat.mul_le_mul_left _ B64_two

def scrF : Nat → Nat → Nat
  | 0, _ => 0
  | f + 1, n => if n < 48 then 0 else 4 * ((n + 1) / 2 + 1) + scrF f ((n + 1) / 2 + 1)
theorem scrF_fuel : ∀ (f g n : Nat), n ≤ f → n ≤ g → scrF f n = scrF g n := by
  intro f
  induction f with
  | zero => intro g n h1 h2
            have : n = 0 := by omega
            subst this
            cases g <;> simp [scrF]
  | succ f ih =>
    intro g n h1 h2
    cases g with
    | zero => have : n = 0 := by omega
              subst this; simp [scrF]
    | succ g =>
      simp only [scrF]
      by_cases h : n < 48
      · simp [h]
      · rw [if_neg h, if_neg h, ih g _ (by omega) (by omega)]
def scr (n : Nat) : Nat := scrF n n
theorem scr_lt {n : Nat} (h : n < 48) : scr n = 0 := by
  unfold scr
  cases n with
  | zero => rfl
  | succ n => simp [scrF, h]
theorem scr_ge {n : Nat} (h : ¬ n < 48) : scr n = 4 * ((n + 1) / 2 + 1) + scr ((n + 1) / 2 + 1) := by
  unfold scr
  obtain ⟨m, rfl⟩ : ∃ m, n = m + 1 := ⟨n - 1, by omega⟩
  rw [scrF, if_neg h, scrF_fuel m ((m + 1 + 1) / 2 + 1) _ (by omega) (Nat.le_refl _)]
theorem scr_le : ∀ (N n : Nat), n < N → scr n ≤ 8 * n := by
  intro N
  induction N with
  | zero => intro n h; omega
  | succ N ih =>
    intro n hn
    by_cases h : n < 48
    · rw [scr_lt h]; omega
    · rw [scr_ge h]
      have := ih ((n + 1) / 2 + 1) (by omega)
      omega
theorem scr_mono : ∀ (N m n : Nat), n < N → m ≤ n → scr m ≤ scr n := by
  intro N
  induction N with
  | zero => intro m n h; omega
  | succ N ih =>
    intro m n hn hm
    by_cases h : m < 48
    · rw [scr_lt h]; omega
    · rw [scr_ge h, scr_ge (show ¬ n < 48 by omega)]
      have := ih ((m + 1) / 2 + 1) ((n + 1) / 2 + 1) (by omega) (by omega)
      omega

theorem scr_any (n : Nat) (w : World) (hn : n ≤ 1000000) : Calls Tryz.prog 128 #[.int .i64 n] w fun e w' => e = .returned (.int .i64 (scr n)) ∧ w' = w := by
  have hb := scr_le (n + 1) n (by omega)
  go_enter Tryz.func128, Tryz.ntmps128
  go_wp2_with fail
  go_loop [0, 3] (fun a t => ∃ m s : Nat, a = .int .i64 m ∧ t = .int .i64 s ∧ m ≤ n ∧ s + scr m = scr n) (fun a _ => (intOf a).toNat)
  case atStart => exact ⟨n, 0, rfl, rfl, Nat.le_refl _, by omega⟩
  case round =>
    obtain ⟨m, s, rfl, rfl, hm, hs⟩ := hrel
    by_cases h : 48 ≤ m
    · have e := scr_ge (show ¬ m < 48 by omega)
      have hsb : s + 4 * ((m + 1) / 2 + 1) ≤ 8000000 := by omega
      have HS : Hid (s + 4 * ((m + 1) / 2 + 1) + scr ((m + 1) / 2 + 1) = scr n) := by show _ = _; omega
      clear hs e
      go_wp2_with fail
      go_round
      case rel => exact ⟨(m + 1) / 2 + 1, s + 4 * ((m + 1) / 2 + 1), by go_num, by go_num, by omega, HS.out⟩
      case measure => simp [intOf]; omega
    · have e := scr_lt (show m < 48 by omega)
      have HS : Hid (s = scr n) := by show _ = _; omega
      clear hs e
      go_wp2_with fail
      go_ret
      exact ⟨ret_int (by rw [HS.out]), rfl⟩
end Go.Proofs.YtpebgjpfgfimgaaGreatDoor
