import Derived.Test.YtpebgjpfgfimgaaGreatDoorJ9
import Derived.Test.YtpebgjpfgfimgaaGreatDoorJ8
import Derived.Laws.ResultCell
import Derived.Deep.RegionWith
import Derived.Deep.DeepCutAuto
import Derived.Deep.LoopGhost
import Derived.Test.YtpebgjpfgfimgaaGreatDoorJ10
import Derived.Test.YtpebgjpfgfimgaaGreatDoorMem
namespace Go.Proofs.YtpebgjpfgfimgaaGreatDoor
open Go.RowKit
set_option maxRecDepth 20000
set_option maxHeartbeats 0
structure DnRel (w : World) (g n : Nat) (zs : List Nat) (s k : Nat) (dk : List Nat) (wr : World) : Prop where
  wrs : Wr g 0 n w wr
  row : Row wr g 0 n dk
  hi : dk.drop k = zs.drop k
  sum : 2 ^ s * valB B64 (dk.take k) + cout zs s 0 = valB B64 (zs.take k) + B64 ^ k * cout zs s k

theorem DnRel.step {w : World} {g n : Nat} {zs : List Nat} {s k : Nat} {dk : List Nat} {wr wr' : World} (h : DnRel w g n zs s k dk wr) (hk : k < n) (hz : zs.length = n) (hs : s ≤ 64) {d : Nat}
    (hd : d = dk.getD k 0 / 2 ^ s + 2 ^ (64 - s) * cout zs s (k + 1)) (hw : Wr g 0 n w wr') (hr : Row wr' g 0 n (dk.set k d)) : DnRel w g n zs s (k + 1) (dk.set k d) wr' := by
  have hl := h.row.len
  refine ⟨hw, hr, ?_, ?_⟩
  · rw [drop_set_lt]; exact drop_succ_of_drop h.hi
  · rw [take_set_succ dk k d (by omega), valB_snoc, List.length_take, hl, Nat.min_eq_left (by omega)]
    exact down_step hs (by rw [hd, getD_of_drop h.hi]) h.sum (by omega)

theorem sdn_any (g n c s : Nat) (zs : List Nat) (w : World) (hz : Row w g 0 n zs) (hnc : n ≤ c) (hbig : c ≤ 9223372036854775807) (hs : s < 64) :
    Calls Tryz.prog 48 #[.slice (some ⟨g, 0, none⟩) n c, .int .i64 s] w fun e w' =>
      ∃ zs', e = .returned (.tuple #[]) ∧ Wr g 0 n w w' ∧ Row w' g 0 n zs' ∧ valB B64 zs' = valB B64 zs / 2 ^ s := by
  have hl := hz.len
  go_enter Tryz.func48, Tryz.ntmps48
  go_wp2
  go_loopw [4, 7] (fun _ i wr => ∃ (k : Nat) (dk : List Nat), k ≤ n ∧ i = .int .i64 k ∧ DnRel w g n zs s k dk wr) (fun _ i _ => n - (intOf i).toNat)
  case atStart => exact ⟨0, zs, Nat.zero_le _, rfl, Wr.refl _ _ _ _, hz, rfl, by simp [valB]⟩
  case round =>
    obtain ⟨k, dk, hk, rfl, hR⟩ := hrel
    by_cases hlt : k < n
    · obtain ⟨x, hx⟩ : ∃ x, x = dk.getD k 0 := ⟨_, rfl⟩
      have HR : Hid (DnRel w g n zs s k dk wr) := hR
      have HX : Hid (x = dk.getD k 0) := hx
      have hxb : x < B64 := by rw [hx]; exact hR.row.dig.getD B64_pos _
      have hcx : wr.cell? ⟨g, k, none⟩ = some (U x) := by
        have := hR.row.cell k hlt
        rw [← hx, Nat.zero_add] at this; exact this
      have hfx : wr.frozen? ⟨g, k, none⟩ = false := by
        have := hR.row.frozen k hlt
        rw [Nat.zero_add] at this; exact this
      by_cases hlast : n ≤ k + 1
      · clear hR hx
        go_wp2
        go_roundw
        case rel =>
          have hh := HR.out
          have hxx := HX.out
          rw [walk_shr]
          refine ⟨k + 1, dk.set k (x / 2 ^ s), by omega, by go_num, ?_⟩
          refine hh.step hlt hl (by omega) ?_ (hh.wrs.setCell k ⟨by omega, by omega⟩ _) ?_
          · rw [← hxx]; unfold cout
            rw [List.getD_eq_getElem?_getD, List.getElem?_eq_none (by omega)]; simp
          · have h1 := hh.row.set k (x / 2 ^ s) hlt (Nat.lt_of_le_of_lt (Nat.div_le_self _ _) hxb)
            rw [Nat.zero_add] at h1; exact h1
        case measure => simp [intOf]; omega
      · obtain ⟨z, hy⟩ : ∃ z, z = dk.getD (k + 1) 0 := ⟨_, rfl⟩
        have hcz : wr.cell? ⟨g, k + 1, none⟩ = some (U z) := by
          have := hR.row.cell (k + 1) (by omega)
          rw [← hy, Nat.zero_add] at this; exact this
        have HY : Hid (z = dk.getD (k + 1) 0) := hy
        clear hR hx hy
        go_wp2
        go_region
        go_wp2
        go_roundw
        case rel =>
          have hh := HR.out
          have hxx := HX.out
          have hyy := HY.out
          have hxd : x / 2 ^ s < B64 := Nat.lt_of_le_of_lt (Nat.div_le_self _ _) hxb
          rw [walk_down x z s (by omega) hxb, walk_shr]
          refine ⟨k + 1, dk.set k (x / 2 ^ s + 2 ^ (64 - s) * (z % 2 ^ s)), by omega, by go_num, ?_⟩
          refine hh.step hlt hl (by omega) ?_ (((hh.wrs.setCell k ⟨by omega, by omega⟩ _).setCell k ⟨by omega, by omega⟩ _).drew) ?_
          · rw [← hxx]; unfold cout
            rw [hyy, getD_of_drop (drop_succ_of_drop hh.hi)]
          · have h1 := (hh.row.set k (x / 2 ^ s) hlt hxd).set k _ hlt (down_lt x z s (by omega) hxb)
            rw [Nat.zero_add, List.set_set] at h1
            exact h1.drew
        case measure => simp [intOf]; omega
    · obtain rfl : k = n := by omega
      have HR : Hid (DnRel w g k zs s k dk wr) := hR
      clear hR
      go_wp2
      go_end0
      have hh := HR.out
      refine ⟨dk, rfl, hh.wrs, hh.row, ?_⟩
      have h1 := hh.sum
      have hlk := hh.row.len
      rw [List.take_of_length_le (by omega), List.take_of_length_le (by omega)] at h1
      have h2 : cout zs s k = 0 := by unfold cout; rw [List.getD_eq_getElem?_getD, List.getElem?_eq_none (by omega)]; simp
      have h3 : cout zs s 0 < 2 ^ s := Nat.mod_lt _ (Nat.two_pow_pos _)
      rw [h2, Nat.mul_zero, Nat.add_zero] at h1
      rw [← h1, Nat.mul_add_div (Nat.two_pow_pos _), Nat.div_eq_of_lt h3, Nat.add_zero]
theorem bitsN_pos {a : Nat} (h : a ≠ 0) : 0 < bitsN a := by unfold bitsN; rw [if_neg h]; omega
theorem lt_pow_bits (x K : Nat) : x < 2 ^ K ↔ bitsN x ≤ K := by
  constructor
  · intro h
    by_cases h0 : x = 0
    · subst h0; simp [bitsN]
    · have h1 := bitsN_le x h0
      have h2 : bitsN x - 1 < K := (Nat.pow_lt_pow_iff_right (by decide : 1 < 2)).1 (Nat.lt_of_le_of_lt h1 h)
      omega
  · intro h
    exact Nat.lt_of_lt_of_le (bitsN_lt x) (Nat.pow_le_pow_right (by decide) h)
theorem bitsN_shl (a n : Nat) (h : a ≠ 0) : bitsN (2 ^ n * a) = n + bitsN a := by
  have := bitsN_top (lo := 0) (k := n) (Nat.two_pow_pos n) (bitsN_lt a) (bitsN_le a h) (by have := bitsN_pos h; omega)
  rw [Nat.zero_add] at this; exact this
theorem LIM_two (k : Nat) (hk : k = 524288) : LIM = 2 ^ k := by
  obtain ⟨K, hK⟩ : ∃ K, K = 8192 := ⟨_, rfl⟩
  rw [LIM_eq K hK, B64_pow, show 64 * K = k by omega]
theorem lim_bits (x : Nat) : x < LIM ↔ bitsN x ≤ 524288 := by
  obtain ⟨K, hK⟩ : ∃ K, K = 524288 := ⟨_, rfl⟩
  rw [LIM_two K hK, lt_pow_bits, hK]
theorem lim_shl (a n : Nat) (h : a ≠ 0) : 2 ^ n * a < LIM ↔ n + bitsN a ≤ 524288 := by rw [lim_bits, bitsN_shl a n h]
theorem splice_mid (L o : Nat) (xs : List Nat) (h : o + xs.length ≤ L) : splice (cellsU (List.replicate L 0)) o (cellsU xs) = cellsU (List.replicate o 0 ++ xs ++ List.replicate (L - (o + xs.length)) 0) := by
  unfold splice cellsU
  simp only [List.map_append, List.map_replicate, List.take_replicate, List.drop_replicate, List.length_map, List.append_assoc]
  rw [Nat.min_eq_left (by omega)]
theorem valB_shifted (o r : Nat) (xs : List Nat) : valB B64 (List.replicate o 0 ++ xs ++ List.replicate r 0) = B64 ^ o * valB B64 xs := by
  rw [valB_append_zeros, valB_append, valB_replicate, List.length_replicate, Nat.zero_add]
theorem shl_split (n a : Nat) : 2 ^ (n % 64) * (B64 ^ (n / 64) * a) = 2 ^ n * a := by
  rw [B64_pow, ← Nat.mul_assoc, ← Nat.pow_add, Nat.mod_add_div]

theorem shl_nf {p : Option Addr} {m c : Nat} {xs : List Nat} {a : Nat} {w : World} (h : At w p m c xs) (hx : Nf B64 xs a) (hm : m ≤ 8192) (n : Nat) (hn : n ≤ 9223372036854775807) :
    Calls Tryz.prog 52 #[.slice p m c, .int .i64 n] w fun e w' => Ans w.heap.size w' e (2 ^ n * a) ∧ Below w.heap.size w w' := by
  have fx := hx.form (by rw [h.len]; exact hm)
  have hl := h.len
  have HX : Hid (Nf B64 xs a) := hx
  clear hx
  by_cases h0 : m = 0
  · subst h0
    have hxe : xs = [] := List.eq_nil_of_length_eq_zero hl
    have ha : a = 0 := (HX.out.zero_iff B64_one).1 hxe
    have HA : Hid (2 ^ n * a = 0) := by rw [ha]; exact Nat.mul_zero _
    clear ha hxe hl
    go_enter Tryz.func52, Tryz.ntmps52
    go_wp2_with fail
    refine (form_true h fx).mono ?_
    rintro e w' ⟨rfl, hw⟩
    obtain rfl := hw.symm
    clear hw fx
    go_wp2_with fail
    go_ret2
    refine ⟨.inl ⟨?_, none, 0, [], rfl, ⟨rfl, Dig.nil _, .inl rfl⟩, ?_, by omega⟩, Below.refl _ _⟩
    · rw [HA.out]; exact (Nf.nil B64).lim.1 (by simp)
    · rw [HA.out]; exact Nf.nil _
  · have ha : a ≠ 0 := by
      intro e
      have := (HX.out.zero_iff B64_one).2 e
      rw [this] at hl; simp at hl; omega
    have h0' : ((m : Int) == 0) = false := by simp; omega
    have hls := lim_shl a n ha
    have hbl : bitsN a ≤ 524288 := by rw [← lim_bits]; exact HX.out.lim.1 (by omega)
    have HL : Hid (2 ^ n * a < LIM ↔ n + bitsN a ≤ 524288) := hls
    clear hls ha
    go_enter Tryz.func52, Tryz.ntmps52
    go_wp2_with fail
    refine (form_true h fx).mono ?_
    rintro e w' ⟨rfl, hw⟩
    obtain rfl := hw.symm
    clear hw fx
    go_wp2_with fail
    refine (bits_any h (by omega)).mono ?_
    rintro e w' ⟨rfl, hw⟩
    obtain rfl := hw.symm
    clear hw
    rw [HX.out.val]
    by_cases hbig : n + bitsN a ≤ 524288
    · obtain ⟨i0, hi, hz0, hz1, hz2⟩ := info_parts Tryz.infoU64
      go_wp2_with (first
        | (at_make; refine wpList_make_full _ rfl _ _ 23 rfl w.heap.size 34 i0 (.int .u64 0) 1 Tryz.underlying23 hi hz0 hz1 _ _ _ _ (m + n / 64 + 1) rfl rfl (by omega) (by omega) (by rw [hz2]; omega) (by unfold maxLen; omega) (Nat.le_refl _) ?_; intro w1 hown hgrow; have hb := made_blk hown hgrow; clear hown hgrow)
        | (refine wpList_copy_splice rfl (.tmp 30) (.tmp 31) 23 23 rfl 34 Tryz.underlying23 Tryz.sizeU64 (some ⟨w.heap.size, n / 64, none⟩) p (m + n / 64 + 1 - n / 64) (m + n / 64 + 1 - n / 64) m c rfl rfl w.heap.size (n / 64) (cellsU (List.replicate (m + n / 64 + 1) 0)) 34 hb.1 (cellsU xs) (by rw [cellsU_length, hl]; exact (Nat.min_eq_left (by omega)).symm) (fun h0 => ⟨rfl, (h.below hb.2).src (by rw [cellsU_length] at h0; omega)⟩) (by simp [cellsU_length]; omega) (cellsU_one xs) w.heap.size w hb.2 (Nat.le_refl _) ?_; intro w2 hg2 hb2))
      have hg3 : Blk w2 w.heap.size (List.replicate (n / 64) 0 ++ xs ++ List.replicate (m + n / 64 + 1 - (n / 64 + xs.length)) 0) := by
        have := hg2.out
        rw [splice_mid _ _ _ (by omega)] at this; exact this
      clear hg2 hb
      have hdz : Dig B64 (List.replicate (n / 64) 0 ++ xs ++ List.replicate (m + n / 64 + 1 - (n / 64 + xs.length)) 0) := dig_pad ((Dig.replicate _ _ B64_pos).append HX.out.dig) _
      have hr := hg3.row hdz
      have hlz : (List.replicate (n / 64) 0 ++ xs ++ List.replicate (m + n / 64 + 1 - (n / 64 + xs.length)) 0).length = m + n / 64 + 1 := by simp; omega
      rw [hlz] at hr
      refine (sup_any w.heap.size (m + n / 64 + 1) (m + n / 64 + 1) (n % 64) _ _ hr (Nat.le_refl _) (by omega) (by omega) (.inr ?_)).mono ?_
      · rw [Nat.add_sub_cancel, List.getD_eq_getElem?_getD, List.getElem?_append_right (by simp; omega), List.getElem?_replicate]
        split <;> rfl
      rintro e w3 ⟨zs, rfl, hwr, hrow, hval⟩
      rw [valB_shifted, HX.out.val, shl_split] at hval
      have A3 := hrow.at_ (Nat.le_refl _) (by unfold maxLen; omega)
      have hN := Nf.trim hrow.dig
      rw [hval] at hN
      have HV : Hid (Nf B64 (trimL zs) (2 ^ n * a)) := hN
      have hb3 : Below w.heap.size w w3 := hb2.trans (hwr.below (Nat.le_refl _))
      clear hval hN hg3 hdz hr hlz hb2
      go_wp2_with fail
      refine (trim_any A3).mono ?_
      rintro e w4 ⟨p', m', rfl, hm', hp', hw⟩
      obtain rfl := hw.symm
      have HM : Hid (m' = (trimL zs).length) := hm'
      clear hw hm'
      go_wp2_with fail
      go_ret2
      have e1 := HM.out
      have e2 := HL.out.2 hbig
      exact ⟨.inl ⟨e2, p', m', trimL zs, rfl, hrow.own (Nat.le_refl _) e1 hp', HV.out, by have := HV.out.lim.2 e2; omega⟩, hb3⟩
    · go_wp2_with fail
      go_ret2
      refine ⟨.inr ⟨?_, rfl⟩, Below.refl _ _⟩
      have := mt HL.out.1 hbig
      omega
end Go.Proofs.YtpebgjpfgfimgaaGreatDoor
namespace Go.Proofs.YtpebgjpfgfimgaaGreatDoor
open Go.RowKit Go.Shelf
set_option maxRecDepth 20000
set_option maxHeartbeats 0
structure B5 (W : World) (g : Nat) (v0 v1 v2 v3 v4 : Value) : Prop where
  c0 : W.cell? ⟨g, 0, none⟩ = some v0
  c1 : W.cell? ⟨g, 1, none⟩ = some v1
  c2 : W.cell? ⟨g, 2, none⟩ = some v2
  c3 : W.cell? ⟨g, 3, none⟩ = some v3
  c4 : W.cell? ⟨g, 4, none⟩ = some v4
  f0 : W.frozen? ⟨g, 0, none⟩ = false
  f1 : W.frozen? ⟨g, 1, none⟩ = false
  f2 : W.frozen? ⟨g, 2, none⟩ = false
  f3 : W.frozen? ⟨g, 3, none⟩ = false
  f4 : W.frozen? ⟨g, 4, none⟩ = false
theorem B5.below {W W' : World} {g : Nat} {v0 v1 v2 v3 v4 : Value} (h : B5 W g v0 v1 v2 v3 v4) (hb : Below W.heap.size W W') : B5 W' g v0 v1 v2 v3 v4 := by
  have hl : g < W.heap.size := World.block_lt_of_cell? W _ h.c0
  exact ⟨(hb.cell (p := ⟨g, 0, none⟩) hl).trans h.c0, (hb.cell (p := ⟨g, 1, none⟩) hl).trans h.c1, (hb.cell (p := ⟨g, 2, none⟩) hl).trans h.c2, (hb.cell (p := ⟨g, 3, none⟩) hl).trans h.c3, (hb.cell (p := ⟨g, 4, none⟩) hl).trans h.c4,
    (hb.frozen (p := ⟨g, 0, none⟩) hl).trans h.f0, (hb.frozen (p := ⟨g, 1, none⟩) hl).trans h.f1, (hb.frozen (p := ⟨g, 2, none⟩) hl).trans h.f2, (hb.frozen (p := ⟨g, 3, none⟩) hl).trans h.f3, (hb.frozen (p := ⟨g, 4, none⟩) hl).trans h.f4⟩
theorem B5.new (w : World) (ty : TypeId) (v0 v1 v2 v3 v4 : Value) : B5 (w.alloc (.cells #[v0, v1, v2, v3, v4] ty)) w.heap.size v0 v1 v2 v3 v4 :=
  ⟨by go_simp, by go_simp, by go_simp, by go_simp, by go_simp, by go_simp, by go_simp, by go_simp, by go_simp, by go_simp⟩
theorem DocIs.inj {v : Nat} {us us' : List Nat} {f f' : Int} (h : DocIs v us f) (k : DocIs v us' f') : us = us' ∧ f = f' := by
  rcases h with ⟨h1, h2, rfl⟩ | ⟨h1, rfl, rfl⟩ <;> rcases k with ⟨k1, k2, rfl⟩ | ⟨k1, rfl, rfl⟩
  · exact ⟨h2.inj B64_one k2, rfl⟩
  · omega
  · omega
  · exact ⟨rfl, rfl⟩
theorem DocIs.er {v : Nat} {us : List Nat} {f : Int} (h : DocIs v us f) : f = 0 ∨ f = 5 := by
  rcases h with ⟨_, _, rfl⟩ | ⟨_, _, rfl⟩ <;> simp
structure Op5 where
  k : Int
  pa : Option Addr
  na : Nat
  ca : Nat
  xa : List Nat
  pb : Option Addr
  nb : Nat
  cb : Nat
  xb : List Nat
  nn : Int
  wd : Nat
structure Scr (w : World) (P : Option Addr) (N C : Nat) (its : List Op5) : Prop where
  len : its.length = N
  cap : N ≤ C
  big : C ≤ maxLen
  ats : ∀ t ∈ its, At w t.pa t.na t.ca t.xa ∧ At w t.pb t.nb t.cb t.xb ∧ t.na ≤ 17592186044416 ∧ t.nb ≤ 17592186044416 ∧ t.wd < B64 ∧ -9223372036854775808 ≤ t.nn ∧ t.nn ≤ 9223372036854775807
  cells : N = 0 ∨ ∃ g off, P = some ⟨g, off, none⟩ ∧ ∀ i (h : i < its.length), w.cell? ⟨g, off + i * 5, none⟩ = some (.int .i64 its[i].k) ∧ w.cell? ⟨g, off + i * 5 + 1, none⟩ = some (.slice its[i].pa its[i].na its[i].ca) ∧
    w.cell? ⟨g, off + i * 5 + 2, none⟩ = some (.slice its[i].pb its[i].nb its[i].cb) ∧ w.cell? ⟨g, off + i * 5 + 3, none⟩ = some (.int .i64 its[i].nn) ∧ w.cell? ⟨g, off + i * 5 + 4, none⟩ = some (U its[i].wd)
theorem Scr.below {w w' : World} {P : Option Addr} {N C : Nat} {its : List Op5} (h : Scr w P N C its) (hb : Below w.heap.size w w') : Scr w' P N C its := by
  refine ⟨h.len, h.cap, h.big, fun t ht => ?_, ?_⟩
  · obtain ⟨h1, h2, h3⟩ := h.ats t ht
    exact ⟨h1.below hb, h2.below hb, h3⟩
  · rcases h.cells with h0 | ⟨g, off, hP, hc⟩
    · exact .inl h0
    · refine .inr ⟨g, off, hP, fun i hi => ?_⟩
      obtain ⟨h0, h1, h2, h3, h4⟩ := hc i hi
      have hl : g < w.heap.size := World.block_lt_of_cell? w _ h0
      exact ⟨(hb.cell (p := ⟨g, off + i * 5, none⟩) hl).trans h0, (hb.cell (p := ⟨g, off + i * 5 + 1, none⟩) hl).trans h1, (hb.cell (p := ⟨g, off + i * 5 + 2, none⟩) hl).trans h2,
        (hb.cell (p := ⟨g, off + i * 5 + 3, none⟩) hl).trans h3, (hb.cell (p := ⟨g, off + i * 5 + 4, none⟩) hl).trans h4⟩
end Go.Proofs.YtpebgjpfgfimgaaGreatDoor
namespace Go.Proofs.YtpebgjpfgfimgaaGreatDoor
open Go.RowKit
set_option maxRecDepth 20000
set_option maxHeartbeats 0
theorem div_pow_zero {a n : Nat} (h : bitsN a ≤ n) : a / 2 ^ n = 0 := Nat.div_eq_of_lt ((lt_pow_bits a n).2 h)
theorem mod_pow_self {a n : Nat} (h : bitsN a ≤ n) : a % 2 ^ n = a := Nat.mod_eq_of_lt ((lt_pow_bits a n).2 h)
theorem len_bits {xs : List Nat} {a m : Nat} (hx : Nf B64 xs a) (hl : xs.length = m) : bitsN a ≤ 64 * m := by
  rw [← lt_pow_bits, ← B64_pow]; exact (hx.len_le B64_one).1 (by omega)
theorem drop_div {xs : List Nat} {a k : Nat} (hx : Nf B64 xs a) (hk : k ≤ xs.length) : valB B64 (xs.drop k) = a / B64 ^ k := by
  have h1 := valB_split B64 xs k hk
  have h2 := valB_lt B64_pos (hx.dig.take k)
  rw [List.length_take, Nat.min_eq_left hk] at h2
  rw [hx.val] at h1
  rw [h1, Nat.add_mul_div_left _ _ (Nat.pow_pos B64_pos), Nat.div_eq_of_lt h2, Nat.zero_add]
theorem shr_split (n a : Nat) : a / B64 ^ (n / 64) / 2 ^ (n % 64) = a / 2 ^ n := by
  rw [B64_pow, Nat.div_div_eq_div_mul, ← Nat.pow_add, Nat.div_add_mod]
theorem take_mod {xs : List Nat} {a k : Nat} (hx : Nf B64 xs a) (hk : k ≤ xs.length) : valB B64 (xs.take k) = a % B64 ^ k := by
  have h1 := valB_split B64 xs k hk
  have h2 := valB_lt B64_pos (hx.dig.take k)
  rw [List.length_take, Nat.min_eq_left hk] at h2
  rw [hx.val] at h1
  rw [h1, Nat.add_mul_mod_self_left, Nat.mod_eq_of_lt h2]
theorem Own.empty (B : Nat) (w : World) (p : Option Addr) : Own B w p 0 [] := ⟨rfl, Dig.nil _, .inl rfl⟩
theorem At.drop {w : World} {g off n c : Nat} {xs : List Nat} (h : At w (some ⟨g, off, none⟩) n c xs) (k : Nat) (hk : k < n) : At w (some ⟨g, off + k, none⟩) (n - k) (n - k) (xs.drop k) := by
  have h1 := h.len; have h2 := h.cap; have h3 := h.big
  refine ⟨by rw [List.length_drop, h1], Nat.le_refl _, by omega, h.dig.drop k, .inr ⟨g, off + k, rfl, fun j hj => ?_⟩⟩
  obtain ⟨g', off', hp, hc⟩ := h.cells.resolve_left (by omega)
  simp only [Option.some.injEq, Addr.mk.injEq, and_true] at hp
  obtain ⟨rfl, rfl⟩ := hp
  have e : (xs.drop k).getD j 0 = xs.getD (k + j) 0 := by rw [List.getD_eq_getElem?_getD, List.getD_eq_getElem?_getD, List.getElem?_drop]
  rw [e, Nat.add_assoc]; exact hc (k + j) (by omega)

theorem shr_nf {p : Option Addr} {m c : Nat} {xs : List Nat} {a : Nat} {w : World} (h : At w p m c xs) (hx : Nf B64 xs a) (hm : m ≤ 8192) (n : Nat) (hn : n ≤ 9223372036854775807) :
    Calls Tryz.prog 50 #[.slice p m c, .int .i64 n] w fun e w' =>
      (∃ p' m' zs, e = .returned (.tuple #[.slice p' m' m', .int .i64 0]) ∧ Own w.heap.size w' p' m' zs ∧ Nf B64 zs (a / 2 ^ n) ∧ m' ≤ 8192) ∧ Below w.heap.size w w' := by
  have fx := hx.form (by rw [h.len]; exact hm)
  have hl := h.len
  have hcap := h.cap
  have HX : Hid (Nf B64 xs a) := hx
  have hbm := len_bits hx hl
  clear hx
  go_enter Tryz.func50, Tryz.ntmps50
  go_wp2_with fail
  refine (form_true h fx).mono ?_
  rintro e w' ⟨rfl, hw⟩
  obtain rfl := hw.symm
  clear hw fx
  go_wp2_with fail
  refine (bits_any h (by omega)).mono ?_
  rintro e w' ⟨rfl, hw⟩
  obtain rfl := hw.symm
  clear hw
  rw [HX.out.val]
  by_cases hbig : bitsN a ≤ n
  · have HZ : Hid (a / 2 ^ n = 0) := div_pow_zero hbig
    go_wp2_with fail
    go_ret2
    exact ⟨⟨none, 0, [], rfl, Own.empty _ _ _, by rw [HZ.out]; exact Nf.nil _, by omega⟩, Below.refl _ _⟩
  · obtain ⟨g, off, rfl, _⟩ := h.cells.resolve_left (by omega)
    have hkm : n / 64 < m := by omega
    go_wp2_with fail
    rw [show ((n : Int) / 64) = ((n / 64 : Nat) : Int) by omega]
    refine (cut_row g off m c (n / 64) _ hcap (by omega)).mono ?_
    rintro e w1 ⟨rfl, r, hw⟩
    obtain rfl := hw.symm
    clear hw
    rw [cutOff_lt hkm]
    have A1 := (h.drop (n / 64) hkm).drewN r
    go_wp2_with fail
    refine (copied_any A1 (m - n / 64) (Nat.le_refl _) (by omega)).mono ?_
    rintro e w2 ⟨g2, rfl, hg, hblk, hb⟩
    rw [Nat.sub_self, List.replicate_zero, List.append_nil] at hblk
    have hr := hblk.row A1.dig
    rw [A1.len] at hr
    go_wp2_with fail
    rw [show ((n : Int) % 64) = ((n % 64 : Nat) : Int) by omega]
    refine (sdn_any g2 (m - n / 64) (m - n / 64) (n % 64) _ _ hr (Nat.le_refl _) (by omega) (by omega)).mono ?_
    rintro e w3 ⟨zs, rfl, hwr, hrow, hval⟩
    rw [drop_div HX.out (by omega), shr_split] at hval
    have A3 := hrow.at_ (Nat.le_refl _) (by unfold maxLen; omega)
    have hN := Nf.trim hrow.dig
    rw [hval] at hN
    have HV : Hid (Nf B64 (trimL zs) (a / 2 ^ n)) := hN
    have hb3 : Below w.heap.size w w3 := (bDrewN (Below.refl _ _) r).trans (hb.trans (hwr.below hg))
    clear hval hN hblk hr hb A1
    go_wp2_with fail
    refine (trim_any A3).mono ?_
    rintro e w4 ⟨p', m', rfl, hm', hp', hw⟩
    obtain rfl := hw.symm
    have HM : Hid (m' = (trimL zs).length) := hm'
    clear hw hm'
    go_wp2_with fail
    go_ret2
    have e1 := HM.out
    have e2 := trimL_length_le zs
    have e3 := hrow.len
    exact ⟨⟨p', m', trimL zs, rfl, hrow.own hg e1 hp', HV.out, by omega⟩, hb3⟩

theorem mask_val {xs ys : List Nat} {a n x : Nat} (hx : Nf B64 xs a) (hk : n / 64 < xs.length) (ex : x = xs.getD (n / 64) 0) (hy : ys = (xs.take (n / 64 + 1)).set (n / 64) (x % 2 ^ (n % 64))) : valB B64 ys = a % 2 ^ n := by
  have hl : (xs.take (n / 64 + 1)).length = n / 64 + 1 := by rw [List.length_take]; omega
  have e1 : ys = xs.take (n / 64) ++ [x % 2 ^ (n % 64)] := by
    have h1 := take_set_succ (xs.take (n / 64 + 1)) (n / 64) (x % 2 ^ (n % 64)) (by omega)
    rw [← hy, List.take_of_length_le (by rw [hy, List.length_set]; omega), List.take_take, Nat.min_eq_left (by omega)] at h1
    exact h1
  have h2 : x = a / B64 ^ (n / 64) % B64 := by
    rw [← drop_div hx (by omega), drop_getD xs _ hk, ← ex, valB_cons, Nat.add_mul_mod_self_left, Nat.mod_eq_of_lt]
    rw [ex]; exact hx.dig.getD B64_pos _
  rw [e1, valB_snoc, List.length_take, Nat.min_eq_left (by omega), take_mod hx (by omega), h2]
  have h3 : 2 ^ n = B64 ^ (n / 64) * 2 ^ (n % 64) := by rw [B64_pow, ← Nat.pow_add, Nat.div_add_mod]
  have h4 : a / B64 ^ (n / 64) % B64 % 2 ^ (n % 64) = a / B64 ^ (n / 64) % 2 ^ (n % 64) := by
    refine Nat.mod_mod_of_dvd _ ⟨2 ^ (64 - n % 64), ?_⟩
    exact (pow_split (n % 64) (by omega)).symm
  rw [h4, h3, Nat.mod_mul]

theorem mask_and (x s : Nat) (hx : x < B64) (hs : s < 64) : Value.int .u64 (bits .and .u64 (x : Int) (IntKind.u64.wrap (IntKind.u64.wrap (2 ^ s) - 1))) = U (x % 2 ^ s) := by
  have h1 : IntKind.u64.wrap ((2 : Int) ^ s) = ((2 ^ s : Nat) : Int) := by
    have h2 : 2 ^ s < B64 := by rw [B64_p]; exact (Nat.pow_lt_pow_iff_right (by decide : 1 < 2)).2 hs
    have := wrap_nat 1 s
    unfold shlW at this
    rw [Nat.one_mul, Nat.mod_eq_of_lt h2] at this
    rw [show ((1 : Nat) : Int) * 2 ^ s = (2 : Int) ^ s by simp] at this
    exact this
  have hp := Nat.two_pow_pos s
  have h2 : 2 ^ s < 18446744073709551616 := by rw [← B64_eq, B64_p]; exact (Nat.pow_lt_pow_iff_right (by decide : 1 < 2)).2 hs
  have h3 : IntKind.u64.wrap (((2 ^ s : Nat) : Int) - 1) = ((2 ^ s - 1 : Nat) : Int) := by
    rw [IntKind.wrap_u64]
    generalize 2 ^ s = P at *
    omega
  rw [B64_eq] at hx
  rw [h1, h3, bits_and_u64_nat x _ hx (by omega), Nat.and_two_pow_sub_one_eq_mod]

theorem low_nf {p : Option Addr} {m c : Nat} {xs : List Nat} {a : Nat} {w : World} (h : At w p m c xs) (hx : Nf B64 xs a) (hm : m ≤ 8192) (n : Nat) (hn : n ≤ 9223372036854775807) :
    Calls Tryz.prog 51 #[.slice p m c, .int .i64 n] w fun e w' =>
      (∃ p' m' zs, e = .returned (.tuple #[.slice p' m' m', .int .i64 0]) ∧ Own w.heap.size w' p' m' zs ∧ Nf B64 zs (a % 2 ^ n) ∧ m' ≤ 8192) ∧ Below w.heap.size w w' := by
  have fx := hx.form (by rw [h.len]; exact hm)
  have hl := h.len
  have hcap := h.cap
  have HX : Hid (Nf B64 xs a) := hx
  have hbm := len_bits hx hl
  clear hx
  go_enter Tryz.func51, Tryz.ntmps51
  go_wp2_with fail
  refine (form_true h fx).mono ?_
  rintro e w' ⟨rfl, hw⟩
  obtain rfl := hw.symm
  clear hw fx
  go_wp2_with fail
  refine (bits_any h (by omega)).mono ?_
  rintro e w' ⟨rfl, hw⟩
  obtain rfl := hw.symm
  clear hw
  rw [HX.out.val]
  by_cases hbig : bitsN a ≤ n
  · have HZ : Hid (a % 2 ^ n = a) := mod_pow_self hbig
    go_wp2_with fail
    refine (copied_any h m (Nat.le_refl _) (by omega)).mono ?_
    rintro e w2 ⟨g2, rfl, hg, hblk, hb⟩
    rw [Nat.sub_self, List.replicate_zero, List.append_nil] at hblk
    go_wp2_with fail
    go_ret2
    have ho := hblk.own HX.out.dig hg
    rw [hl] at ho
    exact ⟨⟨_, m, xs, rfl, ho, by rw [HZ.out]; exact HX.out, hm⟩, hb⟩
  · obtain ⟨g, off, rfl, _⟩ := h.cells.resolve_left (by omega)
    have hkm : n / 64 < m := by omega
    go_wp2_with fail
    rw [show ((n : Int) / 64 + 1) = ((n / 64 + 1 : Nat) : Int) by omega]
    refine (cut_row g off m c (n / 64 + 1) _ hcap (by omega)).mono ?_
    rintro e w1 ⟨rfl, r, hw⟩
    obtain rfl := hw.symm
    clear hw
    have A1 := (h.take (n / 64 + 1) (by omega) (n / 64 + 1) (Nat.le_refl _) (by unfold maxLen; omega)).drewN r
    go_wp2_with fail
    refine (copied_any A1 (n / 64 + 1) (Nat.le_refl _) (by omega)).mono ?_
    rintro e w2 ⟨g2, rfl, hg, hblk, hb⟩
    rw [Nat.sub_self, List.replicate_zero, List.append_nil] at hblk
    have hr := hblk.row A1.dig
    rw [A1.len] at hr
    obtain ⟨x, hx⟩ : ∃ x, x = xs.getD (n / 64) 0 := ⟨_, rfl⟩
    have hxb : x < B64 := by rw [hx]; exact HX.out.dig.getD B64_pos _
    have hxt : (xs.take (n / 64 + 1)).getD (n / 64) 0 = x := by rw [hx, List.getD_eq_getElem?_getD, List.getD_eq_getElem?_getD, List.getElem?_take, if_pos (by omega)]
    have hcx : w2.cell? ⟨g2, n / 64, none⟩ = some (U x) := by
      have := hr.cell (n / 64) (by omega)
      rw [Nat.zero_add, hxt] at this; exact this
    have hfx : w2.frozen? ⟨g2, n / 64, none⟩ = false := by
      have := hr.frozen (n / 64) (by omega)
      rw [Nat.zero_add] at this; exact this
    have HXX : Hid (x = xs.getD (n / 64) 0) := hx
    have HRR : Hid (Row w2 g2 0 (n / 64 + 1) (xs.take (n / 64 + 1))) := hr
    clear hx hxt hr hblk A1
    go_wp2_with fail
    go_region
    go_wp2_with fail
    rw [mask_and x (n % 64) hxb (by omega)]
    have hmb : x % 2 ^ (n % 64) < B64 := Nat.lt_of_le_of_lt (Nat.mod_le _ _) hxb
    have hrow := (HRR.out.set (n / 64) (x % 2 ^ (n % 64)) (by omega) hmb).drew
    rw [Nat.zero_add] at hrow
    have hwr := ((Wr.refl g2 0 (n / 64 + 1) w2).setCell (n / 64) ⟨by omega, by omega⟩ (U (x % 2 ^ (n % 64)))).drew
    have hval := mask_val HX.out (by omega) HXX.out rfl
    generalize (w2.setCell ⟨g2, n / 64, none⟩ (U (x % 2 ^ (n % 64)))).drew = w3 at *
    generalize (xs.take (n / 64 + 1)).set (n / 64) (x % 2 ^ (n % 64)) = zs at *
    have A3 := hrow.at_ (Nat.le_refl _) (by unfold maxLen; omega)
    have hN := Nf.trim hrow.dig
    rw [hval] at hN
    have HV : Hid (Nf B64 (trimL zs) (a % 2 ^ n)) := hN
    have hb3 : Below w.heap.size w w3 := (bDrewN (Below.refl _ _) r).trans (hb.trans (hwr.below hg))
    clear hval hN hb hcx hfx
    refine (trim_any A3).mono ?_
    rintro e w4 ⟨p', m', rfl, hm', hp', hw⟩
    obtain rfl := hw.symm
    have HM : Hid (m' = (trimL zs).length) := hm'
    clear hw hm'
    go_wp2_with fail
    go_ret2
    have e1 := HM.out
    have e2 := trimL_length_le zs
    have e3 := hrow.len
    exact ⟨⟨p', m', trimL zs, rfl, hrow.own hg e1 hp', HV.out, by omega⟩, hb3⟩
end Go.Proofs.YtpebgjpfgfimgaaGreatDoor
namespace Go.Proofs.YtpebgjpfgfimgaaGreatDoor
open Go.RowKit Go.Shelf
set_option maxRecDepth 20000
set_option maxHeartbeats 0
def ShIs (r : Nat → Nat → Nat) (xs : List Nat) (t : Int) (us : List Nat) (f : Int) : Prop :=
  (t < 0 ∧ us = [] ∧ f = 1) ∨ (0 ≤ t ∧ formB xs = false ∧ us = [] ∧ f = 2) ∨ (0 ≤ t ∧ formB xs = true ∧ DocIs (r (valB B64 xs) t.toNat) us f)
theorem ShIs.inj {r : Nat → Nat → Nat} {xs : List Nat} {t : Int} {us us' : List Nat} {f f' : Int} (h : ShIs r xs t us f) (k : ShIs r xs t us' f') : us = us' ∧ f = f' := by
  rcases h with ⟨h1, rfl, rfl⟩ | ⟨h1, h2, rfl, rfl⟩ | ⟨h1, h2, h3⟩ <;> rcases k with ⟨k1, rfl, rfl⟩ | ⟨k1, k2, rfl, rfl⟩ | ⟨k1, k2, k3⟩
  · exact ⟨rfl, rfl⟩
  · omega
  · omega
  · omega
  · exact ⟨rfl, rfl⟩
  · rw [k2] at h2; simp at h2
  · omega
  · rw [k2] at h2; simp at h2
  · exact h3.inj k3
theorem ShIs.er {r : Nat → Nat → Nat} {xs us : List Nat} {t f : Int} (h : ShIs r xs t us f) : f = 0 ∨ f = 1 ∨ f = 2 ∨ f = 3 ∨ f = 4 ∨ f = 5 := by
  rcases h with ⟨_, _, rfl⟩ | ⟨_, _, _, rfl⟩ | ⟨_, _, ⟨_, _, rfl⟩ | ⟨_, _, rfl⟩⟩ <;> simp
theorem rshr_all {p : Option Addr} {n c : Nat} {xs : List Nat} {v : Nat} {w : World} (h : At32 w p n c xs) (hx : Nf B32 xs v) (hn : n ≤ 16384) (N : Nat) (hN2 : N ≤ 9223372036854775807) :
    Calls Tryz.prog 107 #[.slice p n c, .int .i64 N] w fun e w' => ∃ p' m' zs, e = .returned (.slice p' m' m') ∧ At32 w' p' m' m' zs ∧ Nf B32 zs (v / 2 ^ N) ∧ m' ≤ n ∧ Below w.heap.size w w' := by
  rcases Nat.eq_zero_or_pos N with h0 | h0
  · subst h0
    have HX : Hid (Nf B32 xs v) := hx
    have HA : Hid (At32 w p n c xs) := h
    clear h hx
    go_enter Tryz.func107, Tryz.ntmps107
    go_wp2_with fail
    refine (rnorm_any HA.out (by omega)).mono ?_
    rw [trimL_of_Top HX.out.top]
    rintro e w1 ⟨g, rfl, hg, hb, hbl⟩
    have HB : Hid (Blk32 w1 g xs) := hb
    rw [HA.out.len]
    clear hb
    go_wp2_with fail
    go_ret
    exact ⟨_, n, xs, rfl, HB.out.at_ HX.out.dig HA.out.len (by unfold maxLen; omega), by rw [Nat.pow_zero, Nat.div_one]; exact HX.out, by omega, hbl⟩
  · exact rfshr_any h hx hn N h0 hN2
end Go.Proofs.YtpebgjpfgfimgaaGreatDoor
namespace Go.Proofs.YtpebgjpfgfimgaaGreatDoor
open Go.RowKit
set_option maxRecDepth 20000
set_option maxHeartbeats 0
variable {P : Program} {md : Region.Mode} {ops : Array Oper} {Q : Exit → Act → World → Prop} {J : World → Prop}

def wpJ (P : Program) (md : Region.Mode) (ops : Array Oper) (Q : Exit → Act → World → Prop) (J : World → Prop) : Nat → Array Bool → Act → World → Prop
  | 0, listed, a, w => Region.ready md ops listed = [] ∧ Q .normal a w
  | fuel + 1, listed, a, w =>
    (Region.ready md ops listed = [] → Q .normal a w) ∧
    ∀ i ∈ Region.ready md ops listed, wpOp P ops Q i (fun a' w' => J w' ∧ wpJ P md ops Q J fuel (listed.setIfInBounds i true) a' w') a w
theorem wpJ_any : ∀ (fuel : Nat) (listed : Array Bool) (a : Act) (w : World), wpJ P md ops Q J fuel listed a w → wpAny P md ops Q fuel listed a w
  | 0, _, _, _, h => h
  | fuel + 1, _, _, _, h => ⟨h.1, fun i hi => wpOp_mono (fun a' w' h' => wpJ_any fuel _ a' w' h'.2) (h.2 i hi)⟩

def YieldsJ (P : Program) (ops : Array Oper) (J : World → Prop) (o : Oper) (v : Value) (a : Act) : Prop :=
  (Region.wanted o (yielded ops a.tmps) = true ∧ ∀ w, J w → (execOp a.eval o).run P w = .ok (.value v) w) ∨ (Region.wanted o (yielded ops a.tmps) = false ∧ v = undef)
theorem YieldsJ.wpOp {i : Nat} {o : Oper} {v : Value} {a : Act} (hi : ops[i]? = some o) (hy : YieldsJ P ops J o v a)
    {K : Act → World → Prop} {w : World} (hJ : J w) (h : K (a.put o.dst v) w) : wpOp P ops Q i K a w := by
  unfold Go.wpOp
  simp only [hi]
  rcases hy with ⟨hw, hv⟩ | ⟨hw, rfl⟩
  · simp only [hw, if_true, Oper.wp, hv w hJ, Oper.upon]
    exact .inl h
  · simp only [hw]
    exact h
theorem YieldsJ.of_same {o : Oper} {v : Value} {a a' : Act} (hy : YieldsJ P ops J o v a) (he : execOp a'.eval o = execOp a.eval o)
    (hw : Region.wanted o (yielded ops a'.tmps) = Region.wanted o (yielded ops a.tmps)) : YieldsJ P ops J o v a' := by
  unfold YieldsJ at *
  rw [he, hw]
  exact hy
theorem wpOpJ_put {j : Nat} {oi oj : Oper} {v : Value} (hj : ops[j]? = some oj) (hap : oi.apart ops oj = true)
    (hsi : ∀ cs b, oi.op ≠ .select cs b) (hsj : ∀ cs b, oj.op ≠ .select cs b)
    (hQ : ∀ c a w, Q (.panic c) (a.put oi.dst v) w → Q (.panic c) a w) {K : Act → World → Prop} {a : Act} {w : World}
    (hy : YieldsJ P ops J oi v a) (h : wpOp P ops Q j K (a.put oi.dst v) w) :
    wpOp P ops Q j (fun a' w' => YieldsJ P ops J oi v a' ∧ K (a'.put oi.dst v) w') a w := by
  obtain ⟨h1, h2, h3⟩ := Oper.apart_spec hap
  have keep : ∀ (a : Act), YieldsJ P ops J oi v a → ∀ u, YieldsJ P ops J oi v (a.put oj.dst u) := fun a hy u =>
    hy.of_same (execOp_put oi hsi a oj.dst u h3) (wanted_put oi a oj.dst u h3)
  have keepD : ∀ d, YieldsJ P ops J oi v { a with defers := d :: a.defers } := fun d => hy.of_same rfl rfl
  unfold wpOp at *
  simp only [hj] at *
  rw [wanted_put oj a oi.dst v h1] at h
  split
  · rename_i hw
    simp only [hw, if_true] at h
    rcases h with h | ⟨hasks, hlets⟩
    case inr => exact .inr ⟨by unfold Oper.asks at *; rw [execOp_put oj hsj a oi.dst v h1] at hasks; exact hasks, hlets⟩
    refine .inl ?_
    unfold Oper.wp at *
    rw [execOp_put oj hsj a oi.dst v h1] at h
    generalize (execOp a.eval oj).run P w = r at *
    cases r with
    | ok n w' =>
      cases n <;> simp only [Oper.upon] at h ⊢
      case value u => exact ⟨keep a hy u, by rw [← Act.put_comm a v u h2]; exact h⟩
      case skip => exact ⟨keep a hy _, by rw [← Act.put_comm a v undef h2]; exact h⟩
      case defer d =>
        refine ⟨keep _ (keepD d) _, ?_⟩
        rw [← Act.put_comm _ v undef h2, ← Act.put_defers]
        exact h
      case enter f args =>
        refine Calls.mono h fun e w'' he => ?_
        cases e with
        | returned u => exact ⟨keep a hy u, by rw [← Act.put_comm a v u h2]; exact he⟩
        | panicked c => exact hQ _ _ _ he
        | outgrown => exact he
      case row row args => exact Rows.mono h fun u w'' he => ⟨keep a hy u, by rw [← Act.put_comm a v u h2]; exact he⟩
    | halt x w' =>
      cases x <;> simp only [Oper.upon] at h ⊢
      case panic u => exact hQ _ _ _ h
  · rename_i hw
    simp only [hw] at h
    exact ⟨keep a hy _, by rw [← Act.put_comm a v undef h2]; exact h⟩

theorem wpJ_first {i : Nat} {oi : Oper} {v : Value} (hi : ops[i]? = some oi) (hsel : ∀ (j : Nat) (o : Oper) cs b, ops[j]? = some o → o.op ≠ .select cs b)
    (hQ : ∀ c a w, Q (.panic c) (a.put oi.dst v) w → Q (.panic c) a w) :
    ∀ (fuel : Nat) (listed : Array Bool) (a : Act) (w : World),
      (∀ j oj, ops[j]? = some oj → j ≠ i → listed.getD j true = false → (∀ e ∈ oj.after, Region.binds md e = true → e.on ≠ i) → oi.apart ops oj = true) →
      i ∈ Region.ready md ops listed → YieldsJ P ops J oi v a → J w →
      wpJ P md ops Q J fuel (listed.setIfInBounds i true) (a.put oi.dst v) w → wpJ P md ops Q J (fuel + 1) listed a w := by
  intro fuel
  induction fuel with
  | zero =>
    intro listed a w _ hr hy hJ H
    refine ⟨fun h => (by rw [h] at hr; cases hr), fun j hj => ?_⟩
    by_cases hji : j = i
    · subst hji; exact hy.wpOp hi hJ ⟨hJ, H⟩
    · have := ready_mono hj hji
      rw [H.1] at this
      cases this
  | succ fuel ih =>
    intro listed a w hfree hr hy hJ H
    refine ⟨fun h => (by rw [h] at hr; cases hr), fun j hj => ?_⟩
    by_cases hji : j = i
    · subst hji; exact hy.wpOp hi hJ ⟨hJ, H⟩
    · have h1 := H.2 j (ready_mono hj hji)
      obtain ⟨hjun, oj, hoj, hall⟩ := mem_ready.1 hj
      have hnot : ∀ e ∈ oj.after, Region.binds md e = true → e.on ≠ i := fun e he hb heq => by
        have h1 := hall e he hb
        have h0 := (mem_ready.1 hr).1
        rw [heq] at h1
        rcases Nat.lt_or_ge i listed.size with h' | h'
        · simp [h'] at h0 h1; rw [h0] at h1; cases h1
        · simp [Array.getElem?_eq_none h'] at h1
      have h2 := wpOpJ_put hoj (hfree j oj hoj hji hjun hnot) (fun cs b => hsel i oi cs b hi) (fun cs b => hsel j oj cs b hoj) hQ hy h1
      have hfree' : ∀ k ok, ops[k]? = some ok → k ≠ i → (listed.setIfInBounds j true).getD k true = false →
          (∀ e ∈ ok.after, Region.binds md e = true → e.on ≠ i) → oi.apart ops ok = true := fun k ok hk hki hun hno => by
        refine hfree k ok hk hki ?_ hno
        by_cases hjk : j = k
        · subst hjk; exact hjun
        · rw [getD_set_ne true hjk] at hun; exact hun
      refine wpOp_mono (fun a' w' h3 => ⟨h3.2.1, ih (listed.setIfInBounds j true) a' w' hfree' (ready_mono hr (Ne.symm hji)) h3.1 h3.2.1 ?_⟩) h2
      rw [Array.setIfInBounds_comm _ _ hji]
      exact h3.2.2

theorem wpJ_take {i : Nat} {oi : Oper} {v : Value} {fuel : Nat} {listed : Array Bool} {a : Act} {w : World} (hi : ops[i]? = some oi)
    (hs : Region.noSelect ops = true) (hf : Region.free md ops listed i = true) (hr : (Region.ready md ops listed).contains i = true)
    (hQ : ∀ c a w, Q (.panic c) (a.put oi.dst v) w → Q (.panic c) a w) (hw : Region.wanted oi (yielded ops a.tmps) = true)
    (hy : ∀ w, J w → (execOp a.eval oi).run P w = .ok (.value v) w) (hJ : J w)
    (h : wpJ P md ops Q J fuel (listed.setIfInBounds i true) (a.put oi.dst v) w) : wpJ P md ops Q J (fuel + 1) listed a w :=
  wpJ_first hi (Region.noSelect_spec hs) hQ fuel listed a w (Region.free_spec hi hf) (by simpa using hr) (.inl ⟨hw, hy⟩) hJ h
theorem wpJ_tk (i : Nat) {oi : Oper} {v : Value} {fuel : Nat} {listed : Array Bool} {a : Act} {w : World} (hi : ops[i]? = some oi)
    (hy : ∀ w, J w → (execOp a.eval oi).run P w = .ok (.value v) w) (hJ : J w)
    (h : wpJ P md ops Q J fuel (listed.setIfInBounds i true) (a.put oi.dst v) w) (hs : Region.noSelect ops = true := by kernel_rfl) (hf : Region.free md ops listed i = true := by kernel_rfl)
    (hr : (Region.ready md ops listed).contains i = true := by kernel_rfl) (hQ : ∀ c a w, Q (.panic c) (a.put oi.dst v) w → Q (.panic c) a w := by exact fun _ _ _ h => h)
    (hw : Region.wanted oi (yielded ops a.tmps) = true := by kernel_rfl) : wpJ P md ops Q J (fuel + 1) listed a w := wpJ_take hi hs hf hr hQ hw hy hJ h
theorem wpJ_tq (i : Nat) {oi : Oper} {v : Value} {fuel : Nat} {listed : Array Bool} {a : Act} {w : World} (hi : ops[i]? = some oi) (hJ : J w)
    (h : wpJ P md ops Q J fuel (listed.setIfInBounds i true) (a.put oi.dst v) w)
    (hy : ∀ w, J w → (execOp a.eval oi).run P w = .ok (.value v) w := by (intro W' hJ; repeat (obtain ⟨_, hJ⟩ := hJ); go_simp; first | done | with_reducible rfl)) (hs : Region.noSelect ops = true := by kernel_rfl) (hf : Region.free md ops listed i = true := by kernel_rfl)
    (hr : (Region.ready md ops listed).contains i = true := by kernel_rfl) (hQ : ∀ c a w, Q (.panic c) (a.put oi.dst v) w → Q (.panic c) a w := by exact fun _ _ _ h => h)
    (hw : Region.wanted oi (yielded ops a.tmps) = true := by kernel_rfl) : wpJ P md ops Q J (fuel + 1) listed a w := wpJ_take hi hs hf hr hQ hw hy hJ h
theorem wpJ_one {i : Nat} {o : Oper} {fuel : Nat} {listed : Array Bool} {a : Act} {w : World} (hr : Region.ready md ops listed = [i]) (ho : ops[i]? = some o)
    (hw : Region.wanted o (yielded ops a.tmps) = true)
    (h : ∀ K : Act → World → Prop, (∀ a' w', J w' → wpJ P md ops Q J fuel (listed.setIfInBounds i true) a' w' → K a' w') → Oper.wp P o a w K Q) : wpJ P md ops Q J (fuel + 1) listed a w := by
  refine ⟨fun h => (by rw [hr] at h; cases h), fun j hj => ?_⟩
  rw [hr] at hj
  obtain rfl : j = i := by simpa using hj
  unfold wpOp
  simp only [ho, hw, if_true]
  exact .inl (h _ fun a' w' h1 h2 => ⟨h1, h2⟩)
theorem wpJ_on (i : Nat) {o : Oper} {fuel : Nat} {listed : Array Bool} {a : Act} {w : World} (ho : ops[i]? = some o)
    (h : ∀ K : Act → World → Prop, (∀ a' w', J w' → wpJ P md ops Q J fuel (listed.setIfInBounds i true) a' w' → K a' w') → Oper.wp P o a w K Q) (hr : Region.ready md ops listed = [i] := by kernel_rfl)
    (hw : Region.wanted o (yielded ops a.tmps) = true := by kernel_rfl) : wpJ P md ops Q J (fuel + 1) listed a w := wpJ_one hr ho hw h
theorem wpJ_done {listed : Array Bool} {a : Act} {w : World} (hr : Region.ready md ops listed = []) (h : Q .normal a w) : ∀ fuel, wpJ P md ops Q J fuel listed a w
  | 0 => ⟨hr, h⟩
  | _ + 1 => ⟨fun _ => h, by rw [hr]; simp⟩
theorem wp_region_J (J : World → Prop) {id : Nat} {a : Act} {w : World} (hm : P.follows .mixedOrders = true)
    (h : wpJ P .any ops Q J ops.size (Array.replicate ops.size false) a w.drew) : (Code.region id ops true).wp P Q a w :=
  wp_region_any hm (wpJ_any _ _ _ _ h)
end Go.Proofs.YtpebgjpfgfimgaaGreatDoor
namespace Go.Proofs.YtpebgjpfgfimgaaGreatDoor
open Go.RowKit Go.Shelf
set_option maxRecDepth 20000
set_option maxHeartbeats 0
structure DigRel32 (w : World) (gq gr L n : Nat) (A D : Nat) (k : Nat) (qs rs : List Nat) (wr : World) : Prop where
  bel : ∀ B, B ≤ gq → B ≤ gr → Below B w wr
  rowq : Row32 wr gq 0 L qs
  rowr : Row32 wr gr 0 (L + n) rs
  cell : ∀ b o, b ≠ gq → b ≠ gr → wr.cell? ⟨b, o, none⟩ = w.cell? ⟨b, o, none⟩
  lt : valB B32 (rs.drop (L - k)) < D
  sum : valB B32 rs + B32 ^ (L - k) * valB B32 (qs.drop (L - k)) * D = A

theorem Row32.other {w : World} {g off n : Nat} {xs : List Nat} (h : Row32 w g off n xs) (g2 o2 : Nat) (v : Value) (hne : g ≠ g2) : Row32 (w.setCell ⟨g2, o2, none⟩ v) g off n xs := by
  refine ⟨h.len, h.dig, fun j hj => ?_, fun j hj => by rw [World.frozen?_setCell]; exact h.frozen j hj⟩
  exact (World.cell?_setCell_other _ _ _ _ (by intro e; apply hne; have := congrArg Addr.block e; simp at this; omega)).trans (h.cell j hj)
theorem Row32.wr {w w' : World} {g off n g2 o2 l2 : Nat} {xs : List Nat} (h : Row32 w g off n xs) (hwr : Wr g2 o2 l2 w w') (hne : g ≠ g2) : Row32 w' g off n xs :=
  ⟨h.len, h.dig, fun j hj => (hwr.cell g (off + j) (.inl hne)).trans (h.cell j hj), fun j hj => (hwr.frozen _).trans (h.frozen j hj)⟩
theorem At32.cells_of {w w' : World} {g off n c : Nat} {xs : List Nat} (h : At32 w (some ⟨g, off, none⟩) n c xs) (hc : ∀ o, w'.cell? ⟨g, o, none⟩ = w.cell? ⟨g, o, none⟩) : At32 w' (some ⟨g, off, none⟩) n c xs :=
  ⟨h.len, h.cap, h.big, h.dig, by
    rcases h.cells with h0 | ⟨g', o', he, hcl⟩
    · exact .inl h0
    · refine .inr ⟨g', o', he, fun j hj => ?_⟩
      simp only [Option.some.injEq, Addr.mk.injEq, and_true] at he
      rw [← he.1, ← he.2] at hcl ⊢
      exact (hc (off + j)).trans (hcl j hj)⟩

theorem dig_abs32 {P W q r D T Q A : Nat} (hW : q * D + r = W) (h : T + P * W + P * B32 * Q * D = A) : T + P * r + P * (q + B32 * Q) * D = A := by
  subst hW
  have e1 : P * (q + B32 * Q) * D = P * (q * D) + P * B32 * Q * D := by
    rw [Nat.mul_add, Nat.add_mul, Nat.mul_assoc P q D, ← Nat.mul_assoc P B32 Q]
  rw [e1]
  rw [Nat.mul_add] at h
  omega
theorem DigRel32.window {w : World} {gq gr L n A D k : Nat} {qs rs : List Nat} {wr : World} (h : DigRel32 w gq gr L n A D k qs rs wr) (hk : k < L) (hDn : D < B32 ^ n) :
    ∃ a ws, a = L - 1 - k ∧ ws = (rs.drop a).take (n + 1) ∧ Row32 wr gr a (n + 1) ws ∧ valB B32 ws < B32 * D ∧ valB B32 rs = valB B32 (rs.take a) + B32 ^ a * valB B32 ws ∧ valB B32 (rs.drop (a + (n + 1))) = 0 := by
  have hl := h.rowr.len
  obtain ⟨a, ha⟩ : ∃ a, a = L - 1 - k := ⟨_, rfl⟩
  have hlt := h.lt
  rw [show L - k = a + 1 by omega] at hlt
  have hz : valB B32 (rs.drop (a + (n + 1))) = 0 := by
    have hs := valB_split B32 (rs.drop (a + 1)) n (by rw [List.length_drop]; omega)
    rw [List.drop_drop, show a + 1 + n = a + (n + 1) by omega] at hs
    rcases Nat.eq_zero_or_pos (valB B32 (rs.drop (a + (n + 1)))) with e | e
    · exact e
    · exfalso
      have : B32 ^ n * 1 ≤ B32 ^ n * valB B32 (rs.drop (a + (n + 1))) := Nat.mul_le_mul_left _ e
      omega
  have hw := win_take32 rs a (n + 1) (by omega)
  rw [hz, Nat.mul_zero, Nat.add_zero] at hw
  refine ⟨a, _, ha, rfl, h.rowr.win a (n + 1) (by omega), ?_, hw, hz⟩
  have hs := valB_split B32 (rs.drop a) (n + 1) (by rw [List.length_drop]; omega)
  rw [List.drop_drop, hz, Nat.mul_zero, Nat.add_zero] at hs
  rw [← hs, valB_drop B32 rs a (by omega)]
  have hb := h.rowr.dig.getD B32_pos a
  have : B32 * (valB B32 (rs.drop (a + 1)) + 1) ≤ B32 * D := Nat.mul_le_mul_left _ hlt
  rw [Nat.mul_add] at this
  omega
theorem DigRel32.step {w : World} {gq gr L n A D k : Nat} {qs rs : List Nat} {wr wr' : World} (h : DigRel32 w gq gr L n A D k qs rs wr) (hk : k < L) (hne : gq ≠ gr) {a q : Nat} {ws ws' : List Nat} (ha : a = L - 1 - k)
    (hrs : valB B32 rs = valB B32 (rs.take a) + B32 ^ a * valB B32 ws) (hz : valB B32 (rs.drop (a + (n + 1))) = 0) (hD : 0 < D) (hq : q = valB B32 ws / D) (hqb : q < B32) (hr : valB B32 ws' = valB B32 ws % D)
    (hwr : Wr gr a (n + 1) wr wr') (hrow : Row32 wr' gr a (n + 1) ws') : DigRel32 w gq gr L n A D (k + 1) (qs.set a q) (winPut rs ws' a) (wr'.setCell ⟨gq, a, none⟩ (V q)) := by
  have hl := h.rowr.len; have hql := h.rowq.len; have hwl := hrow.len
  have hle : a + ws'.length ≤ rs.length := by omega
  have e1 : L - (k + 1) = a := by omega
  have e2 : L - k = a + 1 := by omega
  have hdrop : valB B32 ((winPut rs ws' a).drop a) = valB B32 ws % D := by
    rw [winPut_drop rs ws' a hle, valB_append, hwl, hz, Nat.mul_zero, Nat.add_zero, hr]
  refine ⟨fun B h1 h2 => ?_, ?_, ?_, fun b o h1 h2 => ?_, ?_, ?_⟩
  · exact ((h.bel B h1 h2).trans (hwr.below h2)).trans ((Wr.refl gq 0 L wr').setCell a ⟨by omega, by omega⟩ (V q) |>.below h1)
  · have := (h.rowq.wr hwr hne).set a q (by omega) hqb
    rw [Nat.zero_add] at this; exact this
  · exact (h.rowr.put hwr hrow (by omega)).other gq a _ (Ne.symm hne)
  · rw [World.cell?_setCell_other _ _ _ _ (by intro e; apply h1; have := congrArg Addr.block e; simp at this; omega), hwr.cell b o (.inl h2)]
    exact h.cell b o h1 h2
  · rw [e1, hdrop]; exact Nat.mod_lt _ hD
  · have hs := h.sum
    rw [e2, hrs, Nat.pow_succ] at hs
    rw [e1, valB_split B32 (winPut rs ws' a) a (by rw [winPut_len rs ws' a hle]; omega), winPut_take rs ws' a hle, hdrop, drop_set_at qs a q (by omega), valB_cons]
    refine dig_abs32 (W := valB B32 ws) (q := q) ?_ hs
    rw [hq, Nat.mul_comm]; exact Nat.div_add_mod _ _

theorem Row32.below2 {w w' : World} {g off n B : Nat} {xs : List Nat} (h : Row32 w g off n xs) (hb : Below B w w') (hg : g < B) : Row32 w' g off n xs :=
  ⟨h.len, h.dig, fun j hj => (hb.cell (p := ⟨g, off + j, none⟩) hg).trans (h.cell j hj), fun j hj => (hb.frozen (p := ⟨g, off + j, none⟩) hg).trans (h.frozen j hj)⟩
theorem own_row32 {wr : World} {base i N : Nat} {p : Option Addr} {ss : List Nat} (ho : wr.ownsRow base 50 1 (.slice p i N) i (cellsV ss)) (hl : ss.length = i) (hd : Dig B32 ss) (hi : 0 < i) : ∃ g, p = some ⟨g, 0, none⟩ ∧ base ≤ g ∧ Row32 wr g 0 i ss ∧ i ≤ N ∧ N ≤ maxLen := by
  rcases ho.2 with ⟨h', h0⟩ | ⟨g', cap', cur, h', hbase, hgc, hcap', hmx, hsz, htake⟩
  · omega
  · simp only [Value.slice.injEq, true_and] at h'
    obtain ⟨rfl, rfl⟩ := h'
    refine ⟨g', rfl, hbase, ⟨hl, hd, fun jj hj => ?_, fun jj _ => frozen_of_row wr g' _ _ _ hgc⟩, hcap', hmx⟩
    rw [Nat.zero_add, cell_of_row wr g' jj _ _ _ hgc]
    have e1 := cellsV_get ss jj (by rw [hl]; exact hj)
    rw [← htake, Nat.mul_one, List.getElem?_take, if_pos hj] at e1
    rw [← Array.getElem?_toList]; exact e1
theorem shl_len {b M y s : Nat} {ys : List Nat} (hy : Nf B32 ys b) (hl : ys.length = M + 1) (hyy : y = ys.getD M 0) (hy0 : 0 < y) (hs : s = 32 - bitsN y) (hb32 : bitsN y ≤ 32) : b * 2 ^ s < B32 ^ (M + 1) ∧ B32 ^ M ≤ b * 2 ^ s := by
  have h1 : b = valB B32 (ys.take M) + B32 ^ M * y := by
    rw [← hy.val, valB_split B32 ys M (by omega), valB_drop B32 ys M (by omega), ← hyy, List.drop_of_length_le (by omega), valB_nil, Nat.mul_zero, Nat.add_zero]
  have h2 := valB_lt B32_pos (hy.dig.take M)
  rw [List.length_take, hl, Nat.min_eq_left (by omega)] at h2
  have h3 := bitsN_lt y
  have hp : 0 < 2 ^ s := Nat.pow_pos (by omega)
  refine ⟨?_, ?_⟩
  · have h4 : b < B32 ^ M * 2 ^ bitsN y := by
      have : B32 ^ M * (y + 1) ≤ B32 ^ M * 2 ^ bitsN y := Nat.mul_le_mul_left _ h3
      rw [Nat.mul_add, Nat.mul_one] at this
      omega
    have h5 : B32 ^ M * 2 ^ bitsN y * 2 ^ s = B32 ^ (M + 1) := by
      rw [Nat.mul_assoc, ← Nat.pow_add, Nat.pow_succ, show bitsN y + s = 32 by omega]; rfl
    rw [← h5]
    exact Nat.mul_lt_mul_of_pos_right h4 hp
  · have h4 : B32 ^ M * 1 ≤ B32 ^ M * y := Nat.mul_le_mul_left _ hy0
    have h5 : b * 1 ≤ b * 2 ^ s := Nat.mul_le_mul_left _ hp
    omega
theorem rdivmod_big {p q : Option Addr} {n m c d : Nat} {xs ys : List Nat} {a b : Nat} {w : World} (h : At32 w p n c xs) (k : At32 w q m d ys) (hx : Nf B32 xs a) (hy : Nf B32 ys b) (hn : n ≤ 16384) (hm : m ≤ 16384) (hb : b ≠ 0) (hge : b ≤ a) (hm2 : 2 ≤ m) :
    Calls Tryz.prog 80 #[.slice p n c, .slice q m d] w fun e w' => ∃ p1 m1 z1 p2 m2 z2, e = .returned (.tuple #[.slice p1 m1 m1, .slice p2 m2 m2]) ∧ At32 w' p1 m1 m1 z1 ∧ Nf B32 z1 (a / b) ∧ At32 w' p2 m2 m2 z2 ∧ Nf B32 z2 (a % b) ∧ m1 ≤ n ∧ m2 ≤ n ∧ Below w.heap.size w w' := by
  have HA : Hid (At32 w p n c xs) := h
  have HB : Hid (At32 w q m d ys) := k
  have HX : Hid (Nf B32 xs a) := hx
  have HY : Hid (Nf B32 ys b) := hy
  have hm0 : m ≠ 0 := fun e => hb ((hy.zero_iff B32_one).1 (List.eq_nil_of_length_eq_zero (by rw [k.len]; exact e)))
  have hmb : ((m : Int) == 0) = false := by simp; omega
  have hcap := k.cap; have hbig := k.big
  unfold maxLen at hbig
  have HGE : Hid (b ≤ a) := hge
  have hm1 : ((m : Int) == 1) = false := by simp; omega
  have hm1' : ¬ m = 1 := by omega
  obtain ⟨gq, oq, rfl, hcq⟩ := k.cells.resolve_left (by omega)
  obtain ⟨M, rfl⟩ : ∃ M, m = M + 1 := ⟨m - 1, by omega⟩
  obtain ⟨y, hyy⟩ : ∃ y, y = ys.getD M 0 := ⟨_, rfl⟩
  have hc0 : w.cell? ⟨gq, oq + M, none⟩ = some (V y) := by rw [hyy]; exact hcq M (by omega)
  have hyB : y < B32 := by rw [hyy]; exact hy.dig.getD B32_pos _
  have hyp : 0 < y := by
    rcases Nat.eq_zero_or_pos y with e | e
    · exfalso
      have h1 := valB_pos B32_pos (zs := ys) (by intro e2; have := k.len; rw [e2] at this; simp at this) hy.top
      rw [hy.val, k.len, Nat.add_sub_cancel] at h1
      have h2 : b = valB B32 (ys.take M) := by
        rw [← hy.val, valB_split B32 ys M (by rw [k.len]; omega), valB_drop B32 ys M (by rw [k.len]; omega), ← hyy, e, List.drop_of_length_le (by rw [k.len]; omega), valB_nil, Nat.mul_zero, Nat.add_zero, Nat.mul_zero, Nat.add_zero]
      have h3 := valB_lt B32_pos (hy.dig.take M)
      rw [List.length_take, k.len, Nat.min_eq_left (by omega)] at h3
      omega
    · exact e
  have hbN : bitsN y ≤ 32 ∧ 1 ≤ bitsN y := ⟨(lt_pow_bits y 32).1 (by rw [B32_eq] at hyB; omega), bitsN_pos (by omega)⟩
  obtain ⟨s, hs⟩ : ∃ s, s = 32 - bitsN y := ⟨_, rfl⟩
  have hsI : wrap64 (32 - (bitsN y : Int)) = (s : Int) := by simp only [wrap64]; omega
  have hsI2 : (32 : Int) - (bitsN y : Int) = (s : Int) := by omega
  have HS : Hid (s = 32 - bitsN y ∧ s ≤ 31) := ⟨hs, by omega⟩
  have HYY : Hid (y = ys.getD M 0 ∧ 0 < y ∧ y < B32) := ⟨hyy, hyp, hyB⟩
  have HLXY : Hid (xs.length = n ∧ ys.length = M + 1) := ⟨h.len, k.len⟩
  have hMI : (M : Int) + 1 - 1 = (M : Int) := by omega
  clear h k hx hy hb hge hcq hyy hyB hyp hs
  go_enter Tryz.func80, Tryz.ntmps80
  go_wp2_with fail
  refine (rcmp_any HA.out HB.out HX.out HY.out).mono ?_
  rintro e w1 ⟨rfl, r, rfl⟩
  obtain ⟨cm, hcm⟩ : ∃ cm, cm = cmpN a b := ⟨_, rfl⟩
  rw [← hcm]
  have hcm0 : decide (cm < 0) = false := decide_eq_false (by rw [hcm, cmpN_neg]; have := HGE.out; omega)
  have A1 : Hid (At32 (w.drewN r) p n c xs) := HA.out.drewN r
  have B1 : Hid (At32 (w.drewN r) (some ⟨gq, oq, none⟩) (M + 1) d ys) := HB.out.drewN r
  have hb1 : Below w.heap.size w (w.drewN r) := bDrewN (Below.refl _ _) r
  have hc1 : (w.drewN r).cell? ⟨gq, oq + M, none⟩ = some (V y) := hc0
  clear HA HB hcm hc0
  generalize w.drewN r = w1 at *
  go_wp2_with fail
  have NY : Hid (Nf B32 [y] y) := by
    have h9 := HYY.out
    refine ⟨Dig.cons h9.2.2 (Dig.nil _), ?_, by simp [valB]⟩
    intro z hz
    simp at hz
    omega
  have AY : Hid (At32 w1 (some ⟨gq, oq + M, none⟩) 1 (d - M) [y]) := ⟨rfl, by omega, by unfold maxLen; omega, NY.out.dig, .inr ⟨gq, oq + M, rfl, fun j hj => by obtain rfl : j = 0 := (by omega); rw [Nat.add_zero]; exact hc1⟩⟩
  refine (rbits_any AY.out NY.out (by omega)).mono ?_
  rintro e w' ⟨rfl, hw⟩
  obtain rfl := hw.symm
  clear hw AY NY hc1 hcm0
  go_wp2_with fail
  clear hsI hsI2
  have HSL : Hid (b * 2 ^ s < B32 ^ (M + 1) ∧ B32 ^ M ≤ b * 2 ^ s) := shl_len HY.out HLXY.out.2 HYY.out.1 HYY.out.2.1 HS.out.1 hbN.1
  refine (rshl_blk B1.out HY.out (by omega) hm s (by have := HS.out.2; omega)).mono ?_
  rintro e w2 ⟨gv, vs, rfl, hgv, hKv, hNv, hlv, hb2⟩
  obtain ⟨D, hD⟩ : ∃ D, D = b * 2 ^ s := ⟨_, rfl⟩
  rw [← hD] at hNv
  have hvl : vs.length = M + 1 := by
    have h1 := (hNv.len_le B32_one (k := M + 1)).2 (by rw [hD]; exact HSL.out.1)
    have h2 : ¬ vs.length ≤ M := fun e => by have := (hNv.len_le B32_one).1 e; have := HSL.out.2; omega
    omega
  rw [hvl]
  have HVL : Hid (vs.length = M + 1 ∧ D = b * 2 ^ s) := ⟨hvl, hD⟩
  have HNV : Hid (Nf B32 vs D) := hNv
  have hgv2 : gv < w2.heap.size := hKv.lt
  have V2 : Hid (At32 w2 (some ⟨gv, 0, none⟩) (M + 1) (M + 1) vs) := hKv.at_ hNv.dig hvl (by unfold maxLen; omega)
  have A2 : Hid (At32 w2 p n c xs) := A1.out.below hb2
  have HB2 : Hid (Below w.heap.size w w2) := Below.on hb1 hb2
  have HN0 : Hid (0 < n) := by
    have h1 := HGE.out
    rcases Nat.eq_zero_or_pos n with e | e
    · have h2 := (HX.out.zero_iff B32_one).1 (List.eq_nil_of_length_eq_zero (by rw [HLXY.out.1]; exact e))
      have h3 := HSL.out.2
      have h4 : b = 0 := by omega
      rw [h4, Nat.zero_mul] at h3
      have : 0 < B32 ^ M := Nat.pow_pos B32_pos
      omega
    · exact e
  clear hKv hNv hb2 hb1 A1 B1 hD hvl hlv hgv
  go_wp2_with fail
  refine (rshl_blk A2.out HX.out HN0.out hn s (by have := HS.out.2; omega)).mono ?_
  rintro e w3 ⟨gu, u0, rfl, hgu, hKu, hNu, hlu, hb3⟩
  obtain ⟨A', hA'⟩ : ∃ A', A' = a * 2 ^ s := ⟨_, rfl⟩
  rw [← hA'] at hNu
  have hp2 : 0 < 2 ^ s := Nat.pow_pos (by omega)
  have hul : n ≤ u0.length ∧ u0.length ≤ n + 1 := by
    refine ⟨?_, (hNu.len_le B32_one).2 ?_⟩
    · rcases Nat.lt_or_ge u0.length n with e | e
      · exfalso
        have h1 := (hNu.len_le B32_one (k := n - 1)).1 (by omega)
        have h2 : ¬ a < B32 ^ (n - 1) := fun e3 => by have := (HX.out.len_le B32_one).2 e3; have := HLXY.out.1; have := HN0.out; omega
        have h3 : a * 1 ≤ a * 2 ^ s := Nat.mul_le_mul_left _ hp2
        omega
      · exact e
    · have h1 := (HX.out.len_le B32_one (k := n)).1 (by rw [HLXY.out.1]; exact Nat.le_refl _)
      have h2 : 2 ^ s ≤ B32 := by rw [show B32 = 2 ^ 32 from rfl]; exact Nat.pow_le_pow_right (by omega) (by have := HS.out.2; omega)
      rw [hA', Nat.pow_succ]
      exact Nat.lt_of_lt_of_le (Nat.mul_lt_mul_of_pos_right h1 hp2) (Nat.mul_le_mul_left _ h2)
  have HAV : Hid (A' = a * 2 ^ s) := hA'
  have V3 : Hid (At32 w3 (some ⟨gv, 0, none⟩) (M + 1) (M + 1) vs) := V2.out.below hb3
  have HB3 : Hid (Below w2.heap.size w2 w3) := hb3
  have HO : Hid (w3.ownsRow w2.heap.size 50 1 (.slice (some ⟨gu, 0, none⟩) u0.length u0.length) u0.length (cellsV u0)) := hKu.own hgu (by unfold maxLen; omega)
  have HDU : Hid (Dig B32 u0 ∧ valB B32 u0 = A') := ⟨hNu.dig, hNu.val⟩
  obtain ⟨L0, hL0⟩ : ∃ L0, L0 = u0.length := ⟨_, rfl⟩
  rw [← hL0] at HO hul ⊢
  have HL0 : Hid (u0.length = L0) := hL0.symm
  obtain ⟨i0, hi, hz0, hz1, hz2⟩ := info_parts Tryz.infoU32
  clear hKu hNu hb3 hgu hlu hA' hL0 A2
  go_wp2_with fail
  go_loopg [10] (n + 1 - L0) (fun gk uv wr => ∃ (i Nc : Nat) (pp : Option Addr) (ss : List Nat), i + gk = n + 1 ∧ uv = .slice pp i Nc ∧ Hid (wr.ownsRow w2.heap.size 50 1 (.slice pp i Nc) i (cellsV ss) ∧ ss.length = i ∧ Dig B32 ss ∧ valB B32 ss = A' ∧ Below w2.heap.size w2 wr))
  case atStart => exact ⟨L0, L0, _, u0, by omega, rfl, HO.out, HL0.out, HDU.out.1, HDU.out.2, HB3.out⟩
  case round =>
    obtain ⟨i, Nc, pp, ss, hig, rfl, HR⟩ := hrel
    have hbr := HR.out.2.2.2.2
    cases gk with
    | succ gg =>
      have hle : (i : Int) ≤ (n : Int) := by omega
      have hle2 : i ≤ n := by omega
      have hleb : decide (i ≤ n) = true := decide_eq_true hle2
      have HOA : Hid ((wr.alloc (.cells #[V 0] 50)).ownsRow w2.heap.size 50 1 (.slice pp i Nc) i (cellsV ss)) := HR.out.1.alloc _
      have hsz1 : w2.heap.size ≤ (wr.alloc (.cells #[V 0] 50)).heap.size := by have := hbr.size; simp; omega
      go_wp2_with (at_builtin; refine wpList_append_own _ rfl (.tmp 59) (.tmp 60) 30 rfl w2.heap.size 50 i0 (.int .u32 0) 1 4 Tryz.underlying30 hi hz0 hz1 hz2 rfl (by decide) (.slice pp i Nc) i (cellsV ss) rfl HOA.out ⟨wr.heap.size, 0, none⟩ 1 1 [V 0] rfl rfl (one_cell wr 0) (by intro u hu; simp at hu; subst hu; rfl) (by unfold maxLen; omega) (by omega) hsz1 ?_; intro v3 w3 hw3 hgr3 hnil3)
      obtain ⟨p3, N3, rfl⟩ := own_form hw3
      have HR3 : Hid (w3.ownsRow w2.heap.size 50 1 (.slice p3 (i + 1) N3) (i + 1) (cellsV (ss ++ [0])) ∧ (ss ++ [0]).length = i + 1 ∧ Dig B32 (ss ++ [0]) ∧ valB B32 (ss ++ [0]) = A' ∧ Below w2.heap.size w2 w3) := by
        have hR := HR.out
        refine ⟨?_, by simp [hR.2.1], hR.2.2.1.append (Dig.cons B32_pos (Dig.nil _)), by rw [valB_snoc, Nat.mul_zero, Nat.add_zero]; exact hR.2.2.2.1, ?_⟩
        · have e0 : cellsV (ss ++ [0]) = cellsV ss ++ [V 0] := by unfold cellsV; rw [List.map_append]; rfl
          rw [e0]; exact hw3
        · exact (hR.2.2.2.2.alloc hR.2.2.2.2.size _).grown hgr3 (by have := hR.2.2.2.2.size; simp; omega) (own_base HOA.out)
      clear hw3 hgr3 hnil3
      go_roundg gg
      case measure => omega
      case rel => exact ⟨i + 1, N3, p3, ss ++ [0], by omega, rfl, HR3⟩
    | zero =>
      obtain rfl : i = n + 1 := by omega
      obtain ⟨gu2, rfl, hgu2, hrow, hNc, hNcm⟩ := own_row32 HR.out.1 HR.out.2.1 HR.out.2.2.1 (by omega)
      unfold maxLen at hNcm
      have V4 : Hid (At32 wr (some ⟨gv, 0, none⟩) (M + 1) (M + 1) vs) := V2.out.below hbr
      have HROW : Hid (Row32 wr gu2 0 (n + 1) ss ∧ valB B32 ss = A' ∧ w2.heap.size ≤ gu2 ∧ gu2 < wr.heap.size) := ⟨hrow, HR.out.2.2.2.1, hgu2, World.block_lt_of_cell? wr _ (hrow.cell 0 (by omega))⟩
      have HBR : Hid (Below w.heap.size w wr) := Below.on HB2.out hbr
      have hbr2 : Hid (gv < wr.heap.size ∧ gv < w2.heap.size) := ⟨Nat.lt_of_lt_of_le hgv2 hbr.size, hgv2⟩
      clear HR hrow hgu2 hbr HO
      obtain ⟨L, hL⟩ : ∃ L, L = n - M := ⟨_, rfl⟩
      have hMn : M < n := by
        rcases Nat.lt_or_ge M n with e | e
        · exact e
        · exfalso
          have h1 := (HX.out.len_le B32_one (k := n)).1 (by rw [HLXY.out.1]; exact Nat.le_refl _)
          have h2 : B32 ^ n ≤ B32 ^ M := Nat.pow_le_pow_right B32_pos e
          have h3 : ¬ b < B32 ^ M := fun e3 => by have := (HY.out.len_le B32_one).2 e3; have := HLXY.out.2; omega
          have := HGE.out
          omega
      have hLI : (n : Int) + 1 - ((M : Int) + 1) = (L : Int) := by omega
      have hLb : L ≤ 16384 := by omega
      have hLp : 1 ≤ L := by omega
      have HL : Hid (L = n - M ∧ M < n) := ⟨hL, hMn⟩
      obtain ⟨wo, hwo⟩ : ∃ wo, wo = wr := ⟨_, rfl⟩
      subst hwo
      clear hL hMn
      go_wp2_with (at_make; refine wpList_make_full _ rfl _ _ 30 rfl wo.heap.size 50 i0 (.int .u32 0) 1 Tryz.underlying30 hi hz0 hz1 _ _ _ _ L rfl rfl (by omega) (by omega) (by rw [hz2]; omega) (by unfold maxLen; omega) (Nat.le_refl _) ?_; intro w5 hown hgrow; have hb := made_blk32 hown hgrow; clear hown hgrow)
      have HNM : Hid (n + 1 = L + (M + 1)) := by have := HL.out; show _ = _; omega
      have hblt : Below wo.heap.size wo w5 := hb.2
      have HG : Hid (gv ≠ gu2 ∧ gv ≠ wo.heap.size ∧ wo.heap.size ≠ gu2 ∧ w2.heap.size ≤ gu2) := by
        have h1 := HROW.out.2.2
        have h2 := hbr2.out
        exact ⟨by omega, by omega, by omega, h1.1⟩
      have V5 : Hid (At32 w5 (some ⟨gv, 0, none⟩) (M + 1) (M + 1) vs) := V4.out.below hblt
      have HD0 : Hid (DigRel32 w5 wo.heap.size gu2 L (M + 1) A' D 0 (List.replicate L 0) ss w5) := by
        have hr := hb.1.row (Dig.replicate B32 L B32_pos)
        rw [List.length_replicate] at hr
        have hru := HROW.out.1.below2 hblt HROW.out.2.2.2
        rw [HNM.out] at hru
        refine ⟨fun B _ _ => Below.refl _ _, hr, hru, fun _ _ _ _ => rfl, ?_, ?_⟩
        · rw [Nat.sub_zero]
          have hs9 := valB_split B32 ss L (by rw [hru.len]; omega)
          rw [HROW.out.2.1] at hs9
          have hA9 : A' < B32 ^ L * D := by
            have h1 := (HX.out.len_le B32_one (k := n)).1 (by rw [HLXY.out.1]; exact Nat.le_refl _)
            have h3 : B32 ^ M ≤ b := by
              rcases Nat.lt_or_ge b (B32 ^ M) with e | e
              · have := (HY.out.len_le B32_one).2 e; have := HLXY.out.2; omega
              · exact e
            have h4 : B32 ^ n = B32 ^ L * B32 ^ M := by rw [← Nat.pow_add]; congr 1; have := HL.out; omega
            have h5 : B32 ^ L * B32 ^ M ≤ B32 ^ L * b := Nat.mul_le_mul_left _ h3
            rw [HAV.out, HVL.out.2, ← Nat.mul_assoc]
            exact Nat.mul_lt_mul_of_pos_right (by omega) (Nat.pow_pos (by omega))
          have h6 : B32 ^ L * valB B32 (ss.drop L) < B32 ^ L * D := by omega
          exact Nat.lt_of_mul_lt_mul_left h6
        · rw [Nat.sub_zero, List.drop_of_length_le (by rw [List.length_replicate]; exact Nat.le_refl _), valB_nil, Nat.mul_zero, Nat.zero_mul, Nat.add_zero]; exact HROW.out.2.1
      have HB5 : Hid (Below w.heap.size w w5) := Below.on HBR.out hblt
      have HV0 : Hid (0 < vs.getD (M + 1 - 1) 0 ∧ valB B32 vs = D ∧ D < B32 ^ (M + 1) ∧ 0 < D) := by
        have h1 := HNV.out
        have h2 := HVL.out
        have h3 := HSL.out
        have hDlt : D < B32 ^ (M + 1) := by rw [h2.2]; exact h3.1
        have hDge : B32 ^ M ≤ D := by rw [h2.2]; exact h3.2
        have hP9 : 0 < B32 ^ M := Nat.pow_pos B32_pos
        refine ⟨?_, h1.val, hDlt, by omega⟩
        rw [Nat.add_sub_cancel]
        rcases Nat.eq_zero_or_pos (vs.getD M 0) with e | e
        · exfalso
          have h4 : D = valB B32 (vs.take M) := by
            rw [← h1.val, valB_split B32 vs M (by omega), valB_drop B32 vs M (by omega), e, List.drop_of_length_le (by omega), valB_nil, Nat.mul_zero, Nat.add_zero, Nat.mul_zero, Nat.add_zero]
          have h5 := valB_lt B32_pos (h1.dig.take M)
          rw [List.length_take, h2.1, Nat.min_eq_left (by omega)] at h5
          omega
        · exact e
      obtain ⟨gq2, hgq2⟩ : ∃ g, g = wo.heap.size := ⟨_, rfl⟩
      have HGQ : Hid (w.heap.size ≤ gq2 ∧ w.heap.size ≤ gu2) := ⟨by rw [hgq2]; exact HBR.out.size, Nat.le_trans HB2.out.size HG.out.2.2.2⟩
      rw [← hgq2] at HD0 HG ⊢
      clear hb hblt hgq2 HROW V4 hLI
      go_loopg [13] L (fun gk jv wr => ∃ (k : Nat) (z : Int) (qs rs : List Nat), k + gk = L ∧ jv = .int .i64 z ∧ z = (gk : Int) - 1 ∧ Hid (DigRel32 w5 gq2 gu2 L (M + 1) A' D k qs rs wr))
      case atStart => exact ⟨0, _, _, ss, by omega, rfl, by omega, HD0⟩
      case round =>
        obtain ⟨k, z, qs, rs, hkg, rfl, hz, HR⟩ := hrel
        cases gk with
        | zero =>
          obtain rfl : k = L := by omega
          obtain rfl : z = -1 := by omega
          have hsum := HR.out.sum
          have hltD := HR.out.lt
          rw [Nat.sub_self, List.drop_zero] at hltD
          rw [Nat.sub_self, List.drop_zero, Nat.pow_zero, Nat.one_mul] at hsum
          have hquo : valB B32 qs = A' / D ∧ valB B32 rs = A' % D := by
            have h1 := quo_unique (n := A') (q := valB B32 qs) (y := D) (r := valB B32 rs) (by omega) hltD
            exact h1
          have hAD : A' / D = a / b ∧ A' % D = a % b * 2 ^ s := by
            rw [HAV.out, HVL.out.2]
            exact ⟨Nat.mul_div_mul_right a b (Nat.pow_pos (by omega)), by rw [Nat.mul_mod_mul_right]⟩
          have HQU : Hid (valB B32 qs = a / b ∧ valB B32 rs = a % b * 2 ^ s) := ⟨by rw [hquo.1, hAD.1], by rw [hquo.2, hAD.2]⟩
          have HTK : Hid (valB B32 (rs.take (M + 1)) = a % b * 2 ^ s) := by
            show _ = _
            rw [← HQU.out.2]
            have h1 := valB_split B32 rs (M + 1) (by rw [HR.out.rowr.len]; omega)
            rcases Nat.eq_zero_or_pos (valB B32 (rs.drop (M + 1))) with e | e
            · rw [e, Nat.mul_zero, Nat.add_zero] at h1; exact h1.symm
            · exfalso
              have h2 : B32 ^ (M + 1) * 1 ≤ B32 ^ (M + 1) * valB B32 (rs.drop (M + 1)) := Nat.mul_le_mul_left _ e
              have := HV0.out.2.2.1
              omega
          have AQ : Hid (At32 wr (some ⟨gq2, 0, none⟩) k k qs) := HR.out.rowq.at_ (Nat.le_refl _) (by unfold maxLen; omega)
          have AU0 : At32 wr (some ⟨gu2, 0, none⟩) (n + 1) Nc rs := by
            have h1 := HR.out.rowr
            rw [← HNM.out] at h1
            exact h1.at_ hNc (by unfold maxLen; omega)
          have AU : Hid (At32 wr (some ⟨gu2, 0, none⟩) (M + 1) Nc (rs.take (M + 1))) := AU0.take (M + 1) (by have := HL.out; omega) Nc (by have := HL.out; omega) (by unfold maxLen; omega)
          have HBW : Hid (Below w.heap.size w wr) := Below.trans HB5.out (HR.out.bel w.heap.size HGQ.out.1 HGQ.out.2)
          have hMN : M + 1 ≤ n := by have := HL.out; omega
          have hMc : M + 1 ≤ Nc := by have := HL.out; omega
          clear hsum hltD hquo hAD AU0 hz hkg HR
          go_wp2_with fail
          obtain ⟨wq, hwq⟩ : ∃ wq, wq = wr.drew := ⟨_, rfl⟩
          have hbd : Below wr.heap.size wr wq := by rw [hwq]; exact Below.drew (Below.refl _ _)
          have AQ2 : Hid (At32 wq (some ⟨gq2, 0, none⟩) k k qs) := AQ.out.below hbd
          have AU2 : Hid (At32 wq (some ⟨gu2, 0, none⟩) (M + 1) Nc (rs.take (M + 1))) := AU.out.below hbd
          have HBW2 : Hid (Below w.heap.size w wq) := Below.on HBW.out hbd
          clear AQ AU HBW hbd
          have AQ := AQ2
          have AU := AU2
          have HBW := HBW2
          clear AQ2 AU2 HBW2
          refine wp_region_J (fun _ => True) (by kernel_rfl) ?_
          rw [← hwq]
          clear hwq
          refine wpJ_take (i := 0) (v := ?va0) rfl (by kernel_rfl) (by kernel_rfl) (by kernel_rfl) (fun _ _ _ h => h) (by kernel_rfl) ?hya0 trivial ?resta0
          case hya0 => (intro W' hJ; go_simp; first | done | with_reducible rfl)
          refine wpJ_take (i := 2) (v := ?va2) rfl (by kernel_rfl) (by kernel_rfl) (by kernel_rfl) (fun _ _ _ h => h) (by kernel_rfl) ?hya2 trivial ?resta2
          case hya2 => (intro W' hJ; go_simp; first | done | with_reducible rfl)
          refine wpJ_take (i := 3) (v := ?va3) rfl (by kernel_rfl) (by kernel_rfl) (by kernel_rfl) (fun _ _ _ h => h) (by kernel_rfl) ?hya3 trivial ?resta3
          case hya3 => (intro W' hJ; go_simp; first | done | with_reducible rfl)
          refine wpJ_take (i := 4) (v := ?va4) rfl (by kernel_rfl) (by kernel_rfl) (by kernel_rfl) (fun _ _ _ h => h) (by kernel_rfl) ?hya4 trivial ?resta4
          case hya4 => (intro W' hJ; go_simp; first | done | (rw [if_pos ⟨by omega, by omega⟩]) | with_reducible rfl)
          refine wpJ_take (i := 6) (v := ?va6) rfl (by kernel_rfl) (by kernel_rfl) (by kernel_rfl) (fun _ _ _ h => h) (by kernel_rfl) ?hya6 trivial ?resta6
          case hya6 => (intro W' hJ; go_simp; first | done | with_reducible rfl)
          refine wpJ_on 1 rfl fun KJ hK => ?_
          go_simp
          refine (rnorm_any AQ.out (by omega)).mono ?_
          rintro e w7 ⟨g7, rfl, hg7, hblk7, hb7⟩
          have hd7 : Dig B32 (trimL qs) := Dig.trimL AQ.out.dig
          have hl7 := trimL_length_le qs
          rw [AQ.out.len] at hl7
          have A7 : Hid (At32 w7 (some ⟨g7, 0, none⟩) (trimL qs).length (trimL qs).length (trimL qs)) := hblk7.at_ hd7 rfl (by unfold maxLen; omega)
          have N7 : Hid (Nf B32 (trimL qs) (a / b) ∧ (trimL qs).length ≤ n) := ⟨by have h1 := Nf.trim AQ.out.dig; rw [HQU.out.1] at h1; exact h1, by have := HL.out; omega⟩
          have AU7 : Hid (At32 w7 (some ⟨gu2, 0, none⟩) (M + 1) Nc (rs.take (M + 1))) := AU.out.below hb7
          have HB7 : Hid (Below w.heap.size w w7) := Below.on HBW.out hb7
          generalize trimL qs = q7 at *
          refine hK _ _ trivial ?_
          clear hK hblk7 hb7 hg7 hd7 hl7 AQ AU HBW
          refine wpJ_on 5 rfl fun KJ hK => ?_
          go_simp
          refine (rnorm_any AU7.out (by omega)).mono ?_
          rintro e w8 ⟨g8, rfl, hg8, hblk8, hb8⟩
          have hl8 := trimL_length_le (rs.take (M + 1))
          rw [AU7.out.len] at hl8
          have A8 : Hid (At32 w8 (some ⟨g8, 0, none⟩) (trimL (rs.take (M + 1))).length (trimL (rs.take (M + 1))).length (trimL (rs.take (M + 1)))) := hblk8.at_ (Dig.trimL AU7.out.dig) rfl (by unfold maxLen; omega)
          have N8 : Hid (Nf B32 (trimL (rs.take (M + 1))) (a % b * 2 ^ s) ∧ (trimL (rs.take (M + 1))).length ≤ M + 1) := ⟨by have h1 := Nf.trim AU7.out.dig; rw [HTK.out] at h1; exact h1, hl8⟩
          have A78 : Hid (At32 w8 (some ⟨g7, 0, none⟩) q7.length q7.length q7) := A7.out.below hb8
          have HB8 : Hid (Below w.heap.size w w8) := Below.on HB7.out hb8
          generalize trimL (rs.take (M + 1)) = u8 at *
          refine hK _ _ trivial ?_
          clear hK hblk8 hb8 hg8 hl8 A7 AU7 HB7
          refine wpJ_on 7 rfl fun KJ hK => ?_
          go_simp
          refine (rshr_all A8.out N8.out.1 (by have := N8.out.2; omega) s (by have := HS.out.2; omega)).mono ?_
          rintro e w9 ⟨p9, m9, z9, rfl, hA9, hN9, hl9, hb9⟩
          have A9 : Hid (At32 w9 p9 m9 m9 z9) := hA9
          have N9 : Hid (Nf B32 z9 (a % b) ∧ m9 ≤ n) := ⟨by rw [Nat.mul_div_cancel _ (Nat.pow_pos (by omega))] at hN9; exact hN9, by have := N8.out.2; omega⟩
          have A79 : Hid (At32 w9 (some ⟨g7, 0, none⟩) q7.length q7.length q7) := A78.out.below hb9
          have HB9 : Hid (Below w.heap.size w w9) := Below.on HB8.out hb9
          refine hK _ _ trivial ?_
          clear hK hA9 hN9 hl9 hb9 A8 A78 HB8
          refine wpJ_take (i := 8) (v := ?va8) rfl (by kernel_rfl) (by kernel_rfl) (by kernel_rfl) (fun _ _ _ h => h) (by kernel_rfl) ?hya8 trivial ?resta8
          case hya8 => (intro W' hJ; go_simp; first | done | with_reducible rfl)
          refine wpJ_take (i := 9) (v := ?va9) rfl (by kernel_rfl) (by kernel_rfl) (by kernel_rfl) (fun _ _ _ h => h) (by kernel_rfl) ?hya9 trivial ?resta9
          case hya9 => (intro W' hJ; go_simp; first | done | with_reducible rfl)
          refine wpJ_done (by kernel_rfl) ?_ _
          go_wp2_with fail
          go_ret2
          exact ⟨_, _, q7, _, _, z9, rfl, A79.out, N7.out.1, A9.out, N9.out.1, N7.out.2, N9.out.2, HB9.out⟩
        | succ gg =>
          obtain rfl : z = (gg : Int) := by omega
          obtain ⟨wp, hwp⟩ : ∃ wp, wp = wr := ⟨_, rfl⟩
          subst hwp
          obtain ⟨a9, ws, ha9, hws, hrow, hwlt, hrs, hzz⟩ := HR.out.window (by omega) HV0.out.2.2.1
          obtain rfl : a9 = gg := by omega
          have HWIN : Hid (valB B32 rs = valB B32 (rs.take a9) + B32 ^ a9 * valB B32 ws ∧ valB B32 (rs.drop (a9 + (M + 1 + 1))) = 0 ∧ Row32 wp gu2 a9 (M + 1 + 1) ws ∧ valB B32 ws < B32 * D) := ⟨hrs, hzz, hrow, hwlt⟩
          have V6 : Hid (At32 wp (some ⟨gv, 0, none⟩) (M + 1) (M + 1) vs) := V5.out.cells_of (fun o => HR.out.cell gv o HG.out.2.1 HG.out.1)
          have hgL : a9 < L := by omega
          have hcq : wp.cell? ⟨gq2, a9, none⟩ = some (V (qs.getD a9 0)) := by have := HR.out.rowq.cell a9 hgL; rw [Nat.zero_add] at this; exact this
          have hfq : wp.frozen? ⟨gq2, a9, none⟩ = false := by have := HR.out.rowq.frozen a9 hgL; rw [Nat.zero_add] at this; exact this
          have hj1 : a9 + (M + 1) + 1 ≤ n + 1 := by have := HNM.out; omega
          have hj2 : a9 + (M + 1) + 1 ≤ Nc := by omega
          have HAK : Hid (a9 = L - 1 - k ∧ k < L) := ⟨by omega, by omega⟩
          clear hws hrow hwlt hrs hzz ha9 hz hkg
          go_wp2_with fail
          rw [show a9 + (M + 1) + 1 - a9 = M + 1 + 1 by omega]
          refine (rdigit_any HWIN.out.2.2.1 (by omega) (by unfold maxLen; omega) V6.out HG.out.1 (by omega) (by omega) (by rw [HV0.out.2.1]; exact HWIN.out.2.2.2) HV0.out.1).mono ?_
          rintro e w6 ⟨ws', rfl, hwr6, hrow6, hval6⟩
          rw [HV0.out.2.1] at hval6 ⊢
          obtain ⟨q9, hq9⟩ : ∃ q9, q9 = valB B32 ws / D := ⟨_, rfl⟩
          rw [← hq9]
          have hq9b : q9 < B32 := by rw [hq9]; exact Nat.div_lt_of_lt_mul (by rw [Nat.mul_comm]; exact HWIN.out.2.2.2)
          have hcq6 : w6.cell? ⟨gq2, a9, none⟩ = some (V (qs.getD a9 0)) := (hwr6.cell gq2 a9 (.inl HG.out.2.2.1)).trans hcq
          have hfq6 : w6.frozen? ⟨gq2, a9, none⟩ = false := (hwr6.frozen _).trans hfq
          have HNX : Hid (DigRel32 w5 gq2 gu2 L (M + 1) A' D (k + 1) (qs.set a9 q9) (winPut rs ws' a9) (w6.setCell ⟨gq2, a9, none⟩ (V q9))) := HR.out.step HAK.out.2 HG.out.2.2.1 HAK.out.1 HWIN.out.1 HWIN.out.2.1 HV0.out.2.2.2 hq9 hq9b hval6 hwr6 hrow6
          clear hcq hfq hq9 hq9b hwr6 hrow6 hval6
          go_wp2_with fail
          go_roundg a9
          case measure => omega
          case rel => exact ⟨k + 1, _, qs.set a9 q9, winPut rs ws' a9, by have := HAK.out; omega, rfl, by omega, HNX⟩
structure RV (w : World) (p : Option Addr) (m a : Nat) : Prop where
  mem : ∃ zs, At32 w p m m zs ∧ Nf B32 zs a
  len : m ≤ 16384
theorem RV.below {w w' : World} {p : Option Addr} {m a : Nat} (h : RV w p m a) (hb : Below w.heap.size w w') : RV w' p m a := by
  obtain ⟨⟨zs, h1, h2⟩, h3⟩ := h
  exact ⟨⟨zs, h1.below hb, h2⟩, h3⟩
theorem RV.cast {w : World} {p : Option Addr} {m a b : Nat} (h : RV w p m a) (e : a = b) : RV w p m b := e ▸ h
theorem RV.zero {w : World} {p : Option Addr} {m a : Nat} (h : RV w p m a) : m = 0 ↔ a = 0 := by
  obtain ⟨⟨zs, h1, h2⟩, h3⟩ := h
  rw [← h2.zero_iff B32_one, ← h1.len]
  exact List.length_eq_zero_iff
theorem RV.lt {w : World} {p : Option Addr} {m a : Nat} (h : RV w p m a) : a < 2 ^ (32 * m) := by
  obtain ⟨⟨zs, h1, h2⟩, h3⟩ := h
  have h4 := (h2.len_le B32_one (k := m)).1 (by rw [h1.len]; exact Nat.le_refl _)
  rw [show B32 = 2 ^ 32 from rfl, ← Nat.pow_mul] at h4
  exact h4
theorem RV.mk2 {w : World} {p : Option Addr} {m a K : Nat} {zs : List Nat} (h : At32 w p m m zs) (hN : Nf B32 zs a) (hK : K ≤ 524288) (hb : a < 2 ^ K) : RV w p m a := by
  refine ⟨⟨zs, h, hN⟩, ?_⟩
  obtain ⟨Q, hQ⟩ : ∃ Q : Nat, Q = 16384 := ⟨_, rfl⟩
  have h1 := (hN.len_le B32_one (k := Q)).2 (by
    rw [show B32 = 2 ^ 32 from rfl, ← Nat.pow_mul]
    exact Nat.lt_of_lt_of_le hb (Nat.pow_le_pow_right (by decide) (by omega)))
  rw [h.len] at h1
  omega
def RVs (w w' : World) (e : Ending) (a : Nat) : Prop := ∃ p m, e = .returned (.slice p m m) ∧ RV w' p m a ∧ Below w.heap.size w w'
theorem rv_bits {w : World} {p : Option Addr} {m a : Nat} (h : RV w p m a) : Calls Tryz.prog 104 #[.slice p m m] w fun e w' => e = .returned (.int .i64 (bitsN a)) ∧ w' = w := by
  obtain ⟨⟨zs, h1, h2⟩, h3⟩ := h
  exact rbits_any h1 h2 (by omega)
theorem rv_cmp {w : World} {p q : Option Addr} {m n a b : Nat} (h : RV w p m a) (k : RV w q n b) : Calls Tryz.prog 102 #[.slice p m m, .slice q n n] w fun e w' => e = .returned (.int .i64 (cmpN a b)) ∧ Below w.heap.size w w' := by
  obtain ⟨⟨zs, h1, h2⟩, h3⟩ := h
  obtain ⟨⟨us, k1, k2⟩, k3⟩ := k
  refine (rcmp_any h1 k1 h2 k2).mono ?_
  rintro e w' ⟨rfl, r, rfl⟩
  exact ⟨rfl, bDrewN (Below.refl _ _) r⟩
theorem rv_add {w : World} {p q : Option Addr} {m n a b : Nat} (h : RV w p m a) (k : RV w q n b) {K : Nat} (hK : K ≤ 524288) (hb : a + b < 2 ^ K) : Calls Tryz.prog 8 #[.slice p m m, .slice q n n] w fun e w' => RVs w w' e (a + b) := by
  obtain ⟨⟨zs, h1, h2⟩, h3⟩ := h
  obtain ⟨⟨us, k1, k2⟩, k3⟩ := k
  refine (radd_any h1 k1 h2 k2 (by omega) (by omega)).mono ?_
  rintro e w' ⟨p', m', vs, rfl, g1, g2, g4⟩
  exact ⟨_, _, rfl, RV.mk2 g1 g2 hK hb, g4⟩
theorem rv_sub {w : World} {p q : Option Addr} {m n a b : Nat} (h : RV w p m a) (k : RV w q n b) (hle : b ≤ a) : Calls Tryz.prog 109 #[.slice p m m, .slice q n n] w fun e w' => RVs w w' e (a - b) := by
  have hlt := h.lt
  have hlen := h.len
  obtain ⟨⟨zs, h1, h2⟩, h3⟩ := h
  obtain ⟨⟨us, k1, k2⟩, k3⟩ := k
  refine (rsub_any h1 k1 h2 k2 (by omega) hle).mono ?_
  rintro e w' ⟨p', m', vs, rfl, g1, g2, g3, g4⟩
  exact ⟨_, _, rfl, RV.mk2 g1 g2 (K := 32 * m) (by omega) (Nat.lt_of_le_of_lt (Nat.sub_le _ _) hlt), g4⟩
theorem rv_mul {w : World} {p q : Option Addr} {m n a b : Nat} (h : RV w p m a) (k : RV w q n b) {K : Nat} (hK : K ≤ 524288) (hb : a * b < 2 ^ K) : Calls Tryz.prog 110 #[.slice p m m, .slice q n n] w fun e w' => RVs w w' e (a * b) := by
  obtain ⟨⟨zs, h1, h2⟩, h3⟩ := h
  obtain ⟨⟨us, k1, k2⟩, k3⟩ := k
  refine (rmul_any h1 k1 h2 k2 (by omega) (by omega)).mono ?_
  rintro e w' ⟨p', m', vs, rfl, g1, g2, g3, g4⟩
  exact ⟨_, _, rfl, RV.mk2 g1 g2 hK hb, g4⟩
theorem rv_word (x : Nat) (hx : x < B64) (w : World) : Calls Tryz.prog 10 #[U x] w fun e w' => RVs w w' e x := by
  refine (rword x hx w).mono ?_
  rintro e w' ⟨g, zs, rfl, h1, h2, h3, h4⟩
  exact ⟨_, _, rfl, ⟨⟨zs, h2, h3⟩, by omega⟩, h4⟩
theorem rv_shl {w : World} {p : Option Addr} {m a : Nat} (h : RV w p m a) (h0 : a ≠ 0) (N : Nat) (hN : N ≤ 524288) {K : Nat} (hK : K ≤ 524288) (hb : a * 2 ^ N < 2 ^ K) : Calls Tryz.prog 105 #[.slice p m m, .int .i64 N] w fun e w' => RVs w w' e (a * 2 ^ N) := by
  have hz := h.zero
  obtain ⟨⟨zs, h1, h2⟩, h3⟩ := h
  refine (rshl_any h1 h2 (by omega) (by omega) N (by omega)).mono ?_
  rintro e w' ⟨p', m', z, rfl, g1, g2, _, hb2⟩
  exact ⟨_, _, rfl, RV.mk2 g1 g2 hK hb, hb2⟩
theorem rv_div {w : World} {p q : Option Addr} {n m a b : Nat} (h : RV w p n a) (k : RV w q m b) (hb : b ≠ 0) : Calls Tryz.prog 80 #[.slice p n n, .slice q m m] w fun e w' => ∃ p1 m1 p2 m2, e = .returned (.tuple #[.slice p1 m1 m1, .slice p2 m2 m2]) ∧ RV w' p1 m1 (a / b) ∧ RV w' p2 m2 (a % b) ∧ Below w.heap.size w w' := by
  obtain ⟨⟨xs, h1, hx⟩, hn⟩ := h
  obtain ⟨⟨ys, k1, hy⟩, hm⟩ := k
  have go : Calls Tryz.prog 80 #[.slice p n n, .slice q m m] w fun e w' => ∃ p1 m1 z1 p2 m2 z2, e = .returned (.tuple #[.slice p1 m1 m1, .slice p2 m2 m2]) ∧ At32 w' p1 m1 m1 z1 ∧ Nf B32 z1 (a / b) ∧ At32 w' p2 m2 m2 z2 ∧ Nf B32 z2 (a % b) ∧ m1 ≤ n ∧ m2 ≤ n ∧ Below w.heap.size w w' := by
    rcases Nat.lt_or_ge a b with hlt | hge
    · exact rdivmod_lt h1 k1 hx hy hn (by omega) hb hlt
    · by_cases hm1 : m = 1
      · exact rdivmod_one h1 k1 hx hy hn (by omega) hb hge hm1
      · have hm0 : m ≠ 0 := fun e => hb ((hy.zero_iff B32_one).1 (List.eq_nil_of_length_eq_zero (by rw [k1.len]; exact e)))
        exact rdivmod_big h1 k1 hx hy hn (by omega) hb hge (by omega)
  refine go.mono ?_
  rintro e w' ⟨p1, m1, z1, p2, m2, z2, rfl, g1, g2, g3, g4, g5, g6, hb2⟩
  exact ⟨_, _, _, _, rfl, ⟨⟨z1, g1, g2⟩, by omega⟩, ⟨⟨z2, g3, g4⟩, by omega⟩, hb2⟩
theorem rv_pow2 (N : Nat) (hN : N < 524288) (w : World) : Calls Tryz.prog 108 #[.int .i64 N] w fun e w' => RVs w w' e (2 ^ N) := by
  have HN : Hid (N < 524288) := hN
  clear hN
  go_enter Tryz.func108, Tryz.ntmps108
  go_wp2_with fail
  refine (rv_word 1 (by decide) w).mono ?_
  rintro e v1 ⟨p, m, rfl, hR, hb1⟩
  have HR : Hid (RV v1 p m 1 ∧ Below w.heap.size w v1) := ⟨hR, hb1⟩
  clear hR hb1
  go_wp2_with fail
  refine (rv_shl HR.out.1 (by decide) N (by have := HN.out; omega) (K := N + 1) (by have := HN.out; omega) (by rw [Nat.one_mul]; exact Nat.pow_lt_pow_right (by decide) (by omega))).mono ?_
  rintro e v2 ⟨p2, m2, rfl, hR2, hb2⟩
  have HR2 : Hid (RV v2 p2 m2 (1 * 2 ^ N) ∧ Below w.heap.size w v2) := ⟨hR2, Below.on HR.out.2 hb2⟩
  clear hR2 hb2
  go_wp2_with fail
  go_ret
  exact ⟨_, _, rfl, HR2.out.1.cast (Nat.one_mul _), HR2.out.2⟩
def IsRt (a r : Nat) : Prop := r * r ≤ a ∧ a < (r + 1) * (r + 1)
theorem rt_mean {a r s : Nat} (h : IsRt a r) (hs : r ≤ s) (h1 : 1 ≤ s) : r ≤ (s + a / s) / 2 := by
  have h2 : 2 * r ≤ s + a / s := by
    rcases Nat.lt_or_ge (s + a / s) (2 * r) with h3 | h3
    · exfalso
      have h4 : a / s < 2 * r - s := by omega
      have h3b : s < 2 * r := Nat.lt_of_le_of_lt (Nat.le_add_right _ _) h3
      clear h3
      have h5 : a < s * (2 * r - s) := by rw [Nat.mul_comm]; exact (Nat.div_lt_iff_lt_mul h1).1 h4
      clear h4
      obtain ⟨d, rfl⟩ : ∃ d, s = r + d := ⟨s - r, by omega⟩
      have hd : d ≤ r := by omega
      have h6 : (r + d) * (2 * r - (r + d)) + d * d = r * r := by
        obtain ⟨e, rfl⟩ : ∃ e, r = d + e := ⟨r - d, by omega⟩
        rw [show 2 * (d + e) - (d + e + d) = e by omega]
        simp only [Nat.add_mul, Nat.mul_add]
        rw [Nat.mul_comm e d]
        omega
      have := h.1
      omega
    · exact h3
  omega
theorem rt_stop {a r s : Nat} (h : IsRt a r) (hs : r ≤ s) (h1 : 1 ≤ s) (hm : s ≤ (s + a / s) / 2) : s = r := by
  have h2 : s ≤ a / s := by omega
  have h3 : s * s ≤ a := (Nat.le_div_iff_mul_le h1).1 h2
  rcases Nat.lt_or_ge r s with h4 | h4
  · exfalso
    have h5 : (r + 1) * (r + 1) ≤ s * s := Nat.mul_le_mul h4 h4
    have := h.2
    omega
  · omega
theorem rt_uniq {a r s : Nat} (h : IsRt a r) (k : IsRt a s) : r = s := by
  rcases Nat.lt_trichotomy r s with h1 | h1 | h1
  · exfalso
    have h5 : (r + 1) * (r + 1) ≤ s * s := Nat.mul_le_mul h1 h1
    have := h.2; have := k.1; omega
  · exact h1
  · exfalso
    have h5 : (s + 1) * (s + 1) ≤ r * r := Nat.mul_le_mul h1 h1
    have := k.2; have := h.1; omega
theorem rt_le {a r s : Nat} (h : IsRt a r) (hs : a < s * s) : r ≤ s := by
  rcases Nat.lt_or_ge s r with h1 | h1
  · exfalso
    have h5 : s * s ≤ r * r := Nat.mul_le_mul (Nat.le_of_lt h1) (Nat.le_of_lt h1)
    have := h.1; omega
  · exact h1
theorem rt_ex (a : Nat) : ∃ r, IsRt a r := by
  induction a with
  | zero => exact ⟨0, by decide, by decide⟩
  | succ a ih =>
    obtain ⟨r, h1, h2⟩ := ih
    by_cases h : (r + 1) * (r + 1) ≤ a + 1
    · refine ⟨r + 1, h, ?_⟩
      have : (r + 1 + 1) * (r + 1 + 1) = (r + 1) * (r + 1) + 2 * r + 3 := by simp only [Nat.add_mul, Nat.mul_add]; omega
      omega
    · exact ⟨r, by omega, by omega⟩
theorem rt_quo {a r s : Nat} (h : IsRt a r) (hs : r ≤ s) (h1 : 1 ≤ r) : a / s ≤ s + 2 := by
  have h2 : a / s ≤ a / r := Nat.div_le_div_left hs h1
  have h3 : a / r < r + 3 := (Nat.div_lt_iff_lt_mul h1).2 (by have := h.2; simp only [Nat.add_mul, Nat.mul_add] at this ⊢; omega)
  omega
theorem rt_big {a r : Nat} (h : IsRt a r) (ha : a ≠ 0) : 1 ≤ r := by
  rcases Nat.eq_zero_or_pos r with h0 | h0
  · rw [h0] at h; have := h.2; simp at this; omega
  · exact h0
theorem rt_start {a n : Nat} (hn : n = bitsN a) (_ha : a ≠ 0) : a < 2 ^ ((n + 1) / 2) * 2 ^ ((n + 1) / 2) := by
  rw [← Nat.pow_add]
  exact Nat.lt_of_lt_of_le (bitsN_lt a) (Nat.pow_le_pow_right (by decide) (by omega))
theorem rt_half {a k t : Nat} (h : IsRt (a / 2 ^ (2 * k)) t) : a < ((t + 1) * 2 ^ k) * ((t + 1) * 2 ^ k) := by
  have h1 := h.2
  have h2 : a < (a / 2 ^ (2 * k) + 1) * 2 ^ (2 * k) := by
    have := Nat.lt_div_mul_add (a := a) (b := 2 ^ (2 * k)) (Nat.pow_pos (by decide))
    rw [Nat.add_mul, Nat.one_mul]; omega
  have h3 : (a / 2 ^ (2 * k) + 1) * 2 ^ (2 * k) ≤ ((t + 1) * (t + 1)) * 2 ^ (2 * k) := Nat.mul_le_mul_right _ h1
  rw [Nat.mul_mul_mul_comm, ← Nat.pow_add, show k + k = 2 * k by omega]
  omega
theorem rv_shr {w : World} {p : Option Addr} {m a : Nat} (h : RV w p m a) (N : Nat) (e : Int) (he : e = (N : Int)) (hN : N ≤ 9223372036854775807) : Calls Tryz.prog 107 #[.slice p m m, .int .i64 e] w fun e w' => RVs w w' e (a / 2 ^ N) := by
  obtain ⟨⟨zs, h1, h2⟩, h3⟩ := h
  subst he
  refine (rshr_all h1 h2 (by omega) N hN).mono ?_
  rintro e w' ⟨p', m', z, rfl, g1, g2, g3, hb2⟩
  exact ⟨_, _, rfl, ⟨⟨z, g1, g2⟩, by omega⟩, hb2⟩
def RtA (w w' : World) (e : Ending) (a : Nat) : Prop := ∃ p1 m1 p2 m2 s, e = .returned (.tuple #[.slice p1 m1 m1, .slice p2 m2 m2]) ∧ IsRt a s ∧ RV w' p1 m1 s ∧ RV w' p2 m2 (a - s * s) ∧ Below w.heap.size w w'
theorem pw_a {n : Nat} (h : n ≤ 524288) : (n + 1) / 2 < 524288 := by omega
theorem rt_bd {s K : Nat} (h : s ≤ 2 ^ K) : s + (s + 2) < 2 ^ (K + 3) := by
  have h1 : 2 ^ (K + 3) = 8 * 2 ^ K := by rw [Nat.pow_add]; omega
  have h2 : 1 ≤ 2 ^ K := Nat.one_le_two_pow
  omega
theorem rt_top {a n k t : Nat} (hn : n = bitsN a) (hk : k = n / 4) (_ha : a ≠ 0) (h : IsRt (a / 2 ^ (2 * k)) t) : (t + 1) * 2 ^ k ≤ 2 ^ (n / 2 + 2) := by
  have h1 : a / 2 ^ (2 * k) < 2 ^ (n - 2 * k) := by
    rw [Nat.div_lt_iff_lt_mul (Nat.pow_pos (by decide)), ← Nat.pow_add, show n - 2 * k + 2 * k = n by omega, hn]
    exact bitsN_lt a
  have h2 : t < 2 ^ ((n - 2 * k + 1) / 2) := by
    rcases Nat.lt_or_ge t (2 ^ ((n - 2 * k + 1) / 2)) with h3 | h3
    · exact h3
    · exfalso
      have h4 := Nat.mul_le_mul h3 h3
      rw [← Nat.pow_add] at h4
      have h5 : (2 : Nat) ^ (n - 2 * k) ≤ 2 ^ ((n - 2 * k + 1) / 2 + (n - 2 * k + 1) / 2) := Nat.pow_le_pow_right (by decide) (by omega)
      have := h.1
      omega
  have h3 : (t + 1) * 2 ^ k ≤ 2 ^ ((n - 2 * k + 1) / 2) * 2 ^ k := Nat.mul_le_mul_right _ h2
  rw [← Nat.pow_add] at h3
  exact Nat.le_trans h3 (Nat.pow_le_pow_right (by decide) (by omega))
theorem rt_top1 {a n k t : Nat} (hn : n = bitsN a) (hk : k = n / 4) (ha : a ≠ 0) (h : IsRt (a / 2 ^ (2 * k)) t) : t + 1 < 2 ^ (n / 2 + 3) := by
  have h1 := rt_top hn hk ha h
  have h2 : t + 1 ≤ (t + 1) * 2 ^ k := Nat.le_mul_of_pos_right _ (Nat.pow_pos (by decide))
  have h3 : 2 ^ (n / 2 + 2) < 2 ^ (n / 2 + 3) := Nat.pow_lt_pow_right (by decide) (by omega)
  omega
theorem sh_lt {a k : Nat} (ha : a ≠ 0) (hk : 1 ≤ k) : a / 2 ^ (2 * k) < a := Nat.div_lt_self (by omega) (Nat.one_lt_two_pow (by omega))
theorem td2 {n : Nat} (h : n ≤ 524288) : wrap64 (((n : Int) + 1).tdiv 2) = (((n + 1) / 2 : Nat) : Int) := by
  rw [Int.tdiv_eq_ediv_of_nonneg (by omega)]; simp only [wrap64]; omega
theorem wr_2k {k : Nat} (h : k ≤ 200000) : wrap64 (2 * (k : Int)) = ((2 * k : Nat) : Int) := by simp only [wrap64]; omega
theorem droot_ok : ∀ (N a : Nat), a ≤ N → ∀ {p : Option Addr} {m : Nat} {w : World}, RV w p m a → Calls Tryz.prog 81 #[.slice p m m] w fun en w' => RtA w w' en a := by
  intro N
  induction N with
  | zero =>
    intro a ha p m w h
    obtain rfl : a = 0 := by omega
    obtain rfl : m = 0 := h.zero.2 rfl
    clear h ha
    go_enter Tryz.func81, Tryz.ntmps81
    go_wp2_with fail
    have hbw : Below w.heap.size w w := Below.refl _ _
    refine (rv_word 0 (by decide) _).mono ?_
    rintro e v1 ⟨p1, m1, rfl, hR, hb1⟩
    have R1 : Hid (RV v1 p1 m1 (0)) := hR
    clear hR
    replace hbw := Below.on hbw hb1
    clear hb1
    go_wp2_with fail
    refine (rv_word 0 (by decide) _).mono ?_
    rintro e v2 ⟨p2, m2, rfl, hR, hb2⟩
    have R2 : Hid (RV v2 p2 m2 (0)) := hR
    clear hR
    replace R1 : Hid (RV v2 p1 m1 (0)) := R1.out.below hb2
    replace hbw := Below.on hbw hb2
    clear hb2
    go_wp2_with fail
    go_ret2
    exact ⟨_, _, _, _, 0, rfl, ⟨by decide, by decide⟩, R1.out, R2.out, hbw⟩
  | succ N ih =>
    intro a ha p m w h
    by_cases h0 : a = 0
    · exact (ih a (by omega) h)
    have hm0 : m ≠ 0 := fun e => h0 (h.zero.1 e)
    have hm1 : ((m : Int) == 0) = false := by simp; omega
    obtain ⟨n, hn⟩ : ∃ n, n = bitsN a := ⟨_, rfl⟩
    have hn5 : n ≤ 524288 := by
      have h1 := h.lt; have h2 := h.len; have h3 := bitsN_le a h0
      have h4 := (Nat.pow_lt_pow_iff_right (by decide : 1 < 2)).1 (Nat.lt_of_le_of_lt h3 h1)
      omega
    have hn1 : 1 ≤ n := by rw [hn]; unfold bitsN; rw [if_neg h0]; omega
    obtain ⟨r, hr⟩ := rt_ex a
    have HA : Hid (a ≤ N + 1 ∧ a ≠ 0 ∧ n = bitsN a ∧ n ≤ 524288 ∧ 1 ≤ n ∧ IsRt a r ∧ 1 ≤ r) := ⟨ha, h0, hn, hn5, hn1, hr, rt_big hr h0⟩
    have HIH : Hid (∀ (a : Nat), a ≤ N → ∀ {p : Option Addr} {m : Nat} {w : World}, RV w p m a → Calls Tryz.prog 81 #[.slice p m m] w fun en w' => RtA w w' en a) := ih
    have RA : Hid (RV w p m a) := h
    clear h ih ha h0 hr hn1 hn5
    go_enter Tryz.func81, Tryz.ntmps81
    go_wp2_with fail
    have hbw : Below w.heap.size w w := Below.refl _ _
    clear hm1 hm0
    refine (rv_bits RA.out).mono ?_
    rintro e v0 ⟨rfl, hw⟩
    obtain rfl := hw.symm
    clear hw
    rw [← hn]
    clear hn
    obtain ⟨k0, hk0⟩ : ∃ k, Hid (k = (n + 1) / 2) := ⟨_, rfl⟩
    have wa : wrap64 ((n : Int) + 1) = ((n + 1 : Nat) : Int) := by have := HA.out; simp only [wrap64]; omega
    go_wp2_with fail
    clear wa
    rw [show wrap64 (((n : Int) + 1).tdiv 2) = (k0 : Int) from by rw [hk0.out]; exact td2 HA.out.2.2.2.1]
    refine (rv_pow2 k0 (by rw [hk0.out]; exact pw_a HA.out.2.2.2.1) _).mono ?_
    rintro e v1 ⟨p1, m1, rfl, hR, hb1⟩
    have R1 : Hid (RV v1 p1 m1 (2 ^ k0)) := hR
    clear hR
    replace RA : Hid (RV v1 p m a) := RA.out.below hb1
    replace hbw := Below.on hbw hb1
    clear hb1
    go_wp2_with fail
    refine (rv_bits RA.out).mono ?_
    rintro e v2 ⟨rfl, hw⟩
    obtain rfl := hw.symm
    clear hw
    rw [← HA.out.2.2.1]
    by_cases h128 : 128 < n
    · have hd1 : decide ((128 : Int) < (n : Int)) = true := decide_eq_true (by omega)
      have hd2 : decide (128 < n) = true := decide_eq_true h128
      have H128 : Hid (128 < n) := h128
      clear h128
      go_wp2_with fail
      clear hd1 hd2
      refine (rv_bits RA.out).mono ?_
      rintro e v2 ⟨rfl, hw⟩
      obtain rfl := hw.symm
      clear hw
      rw [← HA.out.2.2.1]
      obtain ⟨k, hk⟩ : ∃ k, Hid (k = n / 4) := ⟨_, rfl⟩
      have HK : Hid (k ≤ 200000 ∧ 32 ≤ k) := by have := hk.out; have := HA.out; have := H128.out; exact ⟨by omega, by omega⟩
      go_wp2_with fail
      have q4 : wrap64 ((n : Int) / 4) = (k : Int) := by rw [hk.out]; have := HA.out; simp only [wrap64]; omega
      rw [q4, wr_2k HK.out.1]
      clear q4
      refine (rv_shr RA.out (2 * k) _ rfl (by have := HK.out; omega)).mono ?_
      rintro e v3 ⟨p3, m3, rfl, hR, hb3⟩
      have R3 : Hid (RV v3 p3 m3 (a / 2 ^ (2 * k))) := hR
      clear hR
      replace RA : Hid (RV v3 p m a) := RA.out.below hb3
      replace R1 : Hid (RV v3 p1 m1 (2 ^ k0)) := R1.out.below hb3
      replace hbw := Below.on hbw hb3
      clear hb3
      go_wp2_with fail
      refine (HIH.out (a / 2 ^ (2 * k)) (by have h1 := HA.out; have h2 := sh_lt h1.2.1 (show 1 ≤ k by have := HK.out; omega); omega) R3.out).mono ?_
      rintro e v4 ⟨p4, m4, p5, m5, t, rfl, hI, hR, hR2, hb4⟩
      have R4 : Hid (RV v4 p4 m4 t) := hR
      have HT : Hid (IsRt (a / 2 ^ (2 * k)) t) := hI
      clear hR hR2 hI
      replace RA : Hid (RV v4 p m a) := RA.out.below hb4
      replace R1 : Hid (RV v4 p1 m1 (2 ^ k0)) := R1.out.below hb4
      replace R3 : Hid (RV v4 p3 m3 (a / 2 ^ (2 * k))) := R3.out.below hb4
      replace hbw := Below.on hbw hb4
      clear hb4
      go_wp2_with fail
      refine (rv_word 1 (by decide) _).mono ?_
      rintro e v6 ⟨p6, m6, rfl, hR, hb6⟩
      have R6 : Hid (RV v6 p6 m6 (1)) := hR
      clear hR
      replace RA : Hid (RV v6 p m a) := RA.out.below hb6
      replace R1 : Hid (RV v6 p1 m1 (2 ^ k0)) := R1.out.below hb6
      replace R3 : Hid (RV v6 p3 m3 (a / 2 ^ (2 * k))) := R3.out.below hb6
      replace R4 : Hid (RV v6 p4 m4 t) := R4.out.below hb6
      replace hbw := Below.on hbw hb6
      clear hb6
      go_wp2_with fail
      refine (rv_add R4.out R6.out (K := n / 2 + 3) (by have := HA.out; omega) (rt_top1 HA.out.2.2.1 hk.out HA.out.2.1 HT.out)).mono ?_
      rintro e v7 ⟨p7, m7, rfl, hR, hb7⟩
      have R7 : Hid (RV v7 p7 m7 (t + 1)) := hR
      clear hR
      replace RA : Hid (RV v7 p m a) := RA.out.below hb7
      replace R1 : Hid (RV v7 p1 m1 (2 ^ k0)) := R1.out.below hb7
      replace R3 : Hid (RV v7 p3 m3 (a / 2 ^ (2 * k))) := R3.out.below hb7
      replace R4 : Hid (RV v7 p4 m4 t) := R4.out.below hb7
      replace R6 : Hid (RV v7 p6 m6 (1)) := R6.out.below hb7
      replace hbw := Below.on hbw hb7
      clear hb7
      go_wp2_with fail
      refine (rv_shl R7.out (by omega) k (by have := HK.out; omega) (K := n / 2 + 3) (by have := HA.out; omega) (Nat.lt_of_le_of_lt (rt_top HA.out.2.2.1 hk.out HA.out.2.1 HT.out) (Nat.pow_lt_pow_right (by decide) (by omega)))).mono ?_
      rintro e v8 ⟨p8, m8, rfl, hR, hb8⟩
      have R8 : Hid (RV v8 p8 m8 ((t + 1) * 2 ^ k)) := hR
      clear hR
      replace RA : Hid (RV v8 p m a) := RA.out.below hb8
      replace R1 : Hid (RV v8 p1 m1 (2 ^ k0)) := R1.out.below hb8
      replace R3 : Hid (RV v8 p3 m3 (a / 2 ^ (2 * k))) := R3.out.below hb8
      replace R4 : Hid (RV v8 p4 m4 t) := R4.out.below hb8
      replace R6 : Hid (RV v8 p6 m6 (1)) := R6.out.below hb8
      replace R7 : Hid (RV v8 p7 m7 (t + 1)) := R7.out.below hb8
      replace hbw := Below.on hbw hb8
      clear hb8
      go_wp2_with fail
      go_loopg [4] ((t + 1) * 2 ^ k) (fun gk sv wr => ∃ (m9 s : Nat) (p9 : Option Addr), sv = .slice p9 m9 m9 ∧ RV wr p9 m9 s ∧ s = gk ∧ r ≤ s ∧ s ≤ 2 ^ (n / 2 + 2) ∧ RV wr p m a ∧ Below w.heap.size w wr)
      case atStart => exact ⟨m8, _, p8, rfl, R8.out, rfl, rt_le HA.out.2.2.2.2.2.1 (rt_half HT.out), rt_top HA.out.2.2.1 hk.out HA.out.2.1 HT.out, RA.out, hbw⟩
      case round =>
        obtain ⟨m9, s, p9, rfl, xr, rfl, xle, xb, xa, hbr⟩ := hrel
        clear hbw RA R1 R3 R4 R6 R7 R8
        have hbw := hbr
        have RS : Hid (RV wr p9 m9 s) := xr
        have RA : Hid (RV wr p m a) := xa
        have HS : Hid (r ≤ s ∧ s ≤ 2 ^ (n / 2 + 2) ∧ 1 ≤ s) := ⟨xle, xb, by have := HA.out; omega⟩
        clear xr xa xle xb hbr
        go_wp2_with fail
        refine (rv_div RA.out RS.out (by have := HS.out; omega)).mono ?_
        rintro e v11 ⟨p11, m11, p12, m12, rfl, hR, hR2, hb11⟩
        have R11 : Hid (RV v11 p11 m11 (a / s)) := hR
        clear hR hR2
        replace RS : Hid (RV v11 p9 m9 s) := RS.out.below hb11
        replace RA : Hid (RV v11 p m a) := RA.out.below hb11
        replace hbw := Below.on hbw hb11
        clear hb11
        go_wp2_with fail
        refine (rv_add RS.out R11.out (K := n / 2 + 2 + 3) (by have := HA.out; omega) (Nat.lt_of_le_of_lt (Nat.add_le_add_left (rt_quo HA.out.2.2.2.2.2.1 HS.out.1 HA.out.2.2.2.2.2.2) _) (rt_bd HS.out.2.1))).mono ?_
        rintro e v13 ⟨p13, m13, rfl, hR, hb13⟩
        have R13 : Hid (RV v13 p13 m13 (s + a / s)) := hR
        clear hR
        replace RS : Hid (RV v13 p9 m9 s) := RS.out.below hb13
        replace RA : Hid (RV v13 p m a) := RA.out.below hb13
        replace R11 : Hid (RV v13 p11 m11 (a / s)) := R11.out.below hb13
        replace hbw := Below.on hbw hb13
        clear hb13
        go_wp2_with fail
        refine (rv_shr R13.out 1 1 rfl (by decide)).mono ?_
        rintro e v14 ⟨p14, m14, rfl, hR, hb14⟩
        have R14 : Hid (RV v14 p14 m14 ((s + a / s) / 2 ^ 1)) := hR
        clear hR
        replace RS : Hid (RV v14 p9 m9 s) := RS.out.below hb14
        replace RA : Hid (RV v14 p m a) := RA.out.below hb14
        replace R11 : Hid (RV v14 p11 m11 (a / s)) := R11.out.below hb14
        replace R13 : Hid (RV v14 p13 m13 (s + a / s)) := R13.out.below hb14
        replace hbw := Below.on hbw hb14
        clear hb14
        go_wp2_with fail
        refine (rv_cmp R14.out RS.out).mono ?_
        rintro e v15 ⟨rfl, hb15⟩
        replace RS : Hid (RV v15 p9 m9 s) := RS.out.below hb15
        replace RA : Hid (RV v15 p m a) := RA.out.below hb15
        replace R11 : Hid (RV v15 p11 m11 (a / s)) := R11.out.below hb15
        replace R13 : Hid (RV v15 p13 m13 (s + a / s)) := R13.out.below hb15
        replace R14 : Hid (RV v15 p14 m14 ((s + a / s) / 2 ^ 1)) := R14.out.below hb15
        replace hbw := Below.on hbw hb15
        clear hb15
        by_cases hst : s ≤ (s + a / s) / 2 ^ 1
        · obtain ⟨cv, hcv⟩ : ∃ c, c = cmpN ((s + a / s) / 2 ^ 1) s := ⟨_, rfl⟩
          have hc0 : decide (0 ≤ cv) = true := by rw [hcv]; refine decide_eq_true ?_; unfold cmpN; split <;> (try split) <;> omega
          rw [← hcv]
          have HRT : Hid (s = r) := rt_stop HA.out.2.2.2.2.2.1 HS.out.1 HS.out.2.2 hst
          clear hcv hst
          go_wp2_with fail
          refine (rv_mul RS.out RS.out (K := n) HA.out.2.2.2.1 (by rw [HRT.out]; exact Nat.lt_of_le_of_lt HA.out.2.2.2.2.2.1.1 (by rw [HA.out.2.2.1]; exact bitsN_lt a))).mono ?_
          rintro e v16 ⟨p16, m16, rfl, hR, hb16⟩
          have R16 : Hid (RV v16 p16 m16 (s * s)) := hR
          clear hR
          replace RS : Hid (RV v16 p9 m9 s) := RS.out.below hb16
          replace RA : Hid (RV v16 p m a) := RA.out.below hb16
          replace R11 : Hid (RV v16 p11 m11 (a / s)) := R11.out.below hb16
          replace R13 : Hid (RV v16 p13 m13 (s + a / s)) := R13.out.below hb16
          replace R14 : Hid (RV v16 p14 m14 ((s + a / s) / 2 ^ 1)) := R14.out.below hb16
          replace hbw := Below.on hbw hb16
          clear hb16
          go_wp2_with fail
          refine (rv_sub RA.out R16.out (by rw [HRT.out]; exact HA.out.2.2.2.2.2.1.1)).mono ?_
          rintro e v17 ⟨p17, m17, rfl, hR, hb17⟩
          have R17 : Hid (RV v17 p17 m17 (a - s * s)) := hR
          clear hR
          replace RS : Hid (RV v17 p9 m9 s) := RS.out.below hb17
          replace RA : Hid (RV v17 p m a) := RA.out.below hb17
          replace R11 : Hid (RV v17 p11 m11 (a / s)) := R11.out.below hb17
          replace R13 : Hid (RV v17 p13 m13 (s + a / s)) := R13.out.below hb17
          replace R14 : Hid (RV v17 p14 m14 ((s + a / s) / 2 ^ 1)) := R14.out.below hb17
          replace R16 : Hid (RV v17 p16 m16 (s * s)) := R16.out.below hb17
          replace hbw := Below.on hbw hb17
          clear hb17
          go_wp2_with fail
          go_ret2
          exact ⟨_, _, _, _, s, rfl, by rw [HRT.out]; exact HA.out.2.2.2.2.2.1, RS.out, R17.out, hbw⟩
        · obtain ⟨cv, hcv⟩ : ∃ c, c = cmpN ((s + a / s) / 2 ^ 1) s := ⟨_, rfl⟩
          have hc0 : decide (0 ≤ cv) = false := by rw [hcv]; refine decide_eq_false ?_; unfold cmpN; split <;> (try split) <;> omega
          rw [← hcv]
          have HLT : Hid ((s + a / s) / 2 ^ 1 < s) := by show _ < _; omega
          clear hcv hst
          go_wp2_with fail
          go_roundg ((s + a / s) / 2 ^ 1)
          case measure => exact HLT.out
          case rel => exact ⟨m14, _, p14, rfl, R14.out, rfl, rt_mean HA.out.2.2.2.2.2.1 HS.out.1 HS.out.2.2, Nat.le_of_lt (Nat.lt_of_lt_of_le HLT.out HS.out.2.1), RA.out, hbw⟩
    · have hd1 : decide ((128 : Int) < (n : Int)) = false := decide_eq_false (by omega)
      have hd2 : decide (128 < n) = false := decide_eq_false h128
      clear h128
      go_wp2_with fail
      clear hd1 hd2
      go_loopg [4] (2 ^ k0) (fun gk sv wr => ∃ (m9 s : Nat) (p9 : Option Addr), sv = .slice p9 m9 m9 ∧ RV wr p9 m9 s ∧ s = gk ∧ r ≤ s ∧ s ≤ 2 ^ (n / 2 + 2) ∧ RV wr p m a ∧ Below w.heap.size w wr)
      case atStart => exact ⟨m1, _, p1, rfl, R1.out, rfl, rt_le HA.out.2.2.2.2.2.1 (by rw [hk0.out]; exact rt_start HA.out.2.2.1 HA.out.2.1), by rw [hk0.out]; exact Nat.pow_le_pow_right (by decide) (by omega), RA.out, hbw⟩
      case round =>
        obtain ⟨m9, s, p9, rfl, xr, rfl, xle, xb, xa, hbr⟩ := hrel
        clear hbw RA R1
        have hbw := hbr
        have RS : Hid (RV wr p9 m9 s) := xr
        have RA : Hid (RV wr p m a) := xa
        have HS : Hid (r ≤ s ∧ s ≤ 2 ^ (n / 2 + 2) ∧ 1 ≤ s) := ⟨xle, xb, by have := HA.out; omega⟩
        clear xr xa xle xb hbr
        go_wp2_with fail
        refine (rv_div RA.out RS.out (by have := HS.out; omega)).mono ?_
        rintro e v11 ⟨p11, m11, p12, m12, rfl, hR, hR2, hb11⟩
        have R11 : Hid (RV v11 p11 m11 (a / s)) := hR
        clear hR hR2
        replace RS : Hid (RV v11 p9 m9 s) := RS.out.below hb11
        replace RA : Hid (RV v11 p m a) := RA.out.below hb11
        replace hbw := Below.on hbw hb11
        clear hb11
        go_wp2_with fail
        refine (rv_add RS.out R11.out (K := n / 2 + 2 + 3) (by have := HA.out; omega) (Nat.lt_of_le_of_lt (Nat.add_le_add_left (rt_quo HA.out.2.2.2.2.2.1 HS.out.1 HA.out.2.2.2.2.2.2) _) (rt_bd HS.out.2.1))).mono ?_
        rintro e v13 ⟨p13, m13, rfl, hR, hb13⟩
        have R13 : Hid (RV v13 p13 m13 (s + a / s)) := hR
        clear hR
        replace RS : Hid (RV v13 p9 m9 s) := RS.out.below hb13
        replace RA : Hid (RV v13 p m a) := RA.out.below hb13
        replace R11 : Hid (RV v13 p11 m11 (a / s)) := R11.out.below hb13
        replace hbw := Below.on hbw hb13
        clear hb13
        go_wp2_with fail
        refine (rv_shr R13.out 1 1 rfl (by decide)).mono ?_
        rintro e v14 ⟨p14, m14, rfl, hR, hb14⟩
        have R14 : Hid (RV v14 p14 m14 ((s + a / s) / 2 ^ 1)) := hR
        clear hR
        replace RS : Hid (RV v14 p9 m9 s) := RS.out.below hb14
        replace RA : Hid (RV v14 p m a) := RA.out.below hb14
        replace R11 : Hid (RV v14 p11 m11 (a / s)) := R11.out.below hb14
        replace R13 : Hid (RV v14 p13 m13 (s + a / s)) := R13.out.below hb14
        replace hbw := Below.on hbw hb14
        clear hb14
        go_wp2_with fail
        refine (rv_cmp R14.out RS.out).mono ?_
        rintro e v15 ⟨rfl, hb15⟩
        replace RS : Hid (RV v15 p9 m9 s) := RS.out.below hb15
        replace RA : Hid (RV v15 p m a) := RA.out.below hb15
        replace R11 : Hid (RV v15 p11 m11 (a / s)) := R11.out.below hb15
        replace R13 : Hid (RV v15 p13 m13 (s + a / s)) := R13.out.below hb15
        replace R14 : Hid (RV v15 p14 m14 ((s + a / s) / 2 ^ 1)) := R14.out.below hb15
        replace hbw := Below.on hbw hb15
        clear hb15
        by_cases hst : s ≤ (s + a / s) / 2 ^ 1
        · obtain ⟨cv, hcv⟩ : ∃ c, c = cmpN ((s + a / s) / 2 ^ 1) s := ⟨_, rfl⟩
          have hc0 : decide (0 ≤ cv) = true := by rw [hcv]; refine decide_eq_true ?_; unfold cmpN; split <;> (try split) <;> omega
          rw [← hcv]
          have HRT : Hid (s = r) := rt_stop HA.out.2.2.2.2.2.1 HS.out.1 HS.out.2.2 hst
          clear hcv hst
          go_wp2_with fail
          refine (rv_mul RS.out RS.out (K := n) HA.out.2.2.2.1 (by rw [HRT.out]; exact Nat.lt_of_le_of_lt HA.out.2.2.2.2.2.1.1 (by rw [HA.out.2.2.1]; exact bitsN_lt a))).mono ?_
          rintro e v16 ⟨p16, m16, rfl, hR, hb16⟩
          have R16 : Hid (RV v16 p16 m16 (s * s)) := hR
          clear hR
          replace RS : Hid (RV v16 p9 m9 s) := RS.out.below hb16
          replace RA : Hid (RV v16 p m a) := RA.out.below hb16
          replace R11 : Hid (RV v16 p11 m11 (a / s)) := R11.out.below hb16
          replace R13 : Hid (RV v16 p13 m13 (s + a / s)) := R13.out.below hb16
          replace R14 : Hid (RV v16 p14 m14 ((s + a / s) / 2 ^ 1)) := R14.out.below hb16
          replace hbw := Below.on hbw hb16
          clear hb16
          go_wp2_with fail
          refine (rv_sub RA.out R16.out (by rw [HRT.out]; exact HA.out.2.2.2.2.2.1.1)).mono ?_
          rintro e v17 ⟨p17, m17, rfl, hR, hb17⟩
          have R17 : Hid (RV v17 p17 m17 (a - s * s)) := hR
          clear hR
          replace RS : Hid (RV v17 p9 m9 s) := RS.out.below hb17
          replace RA : Hid (RV v17 p m a) := RA.out.below hb17
          replace R11 : Hid (RV v17 p11 m11 (a / s)) := R11.out.below hb17
          replace R13 : Hid (RV v17 p13 m13 (s + a / s)) := R13.out.below hb17
          replace R14 : Hid (RV v17 p14 m14 ((s + a / s) / 2 ^ 1)) := R14.out.below hb17
          replace R16 : Hid (RV v17 p16 m16 (s * s)) := R16.out.below hb17
          replace hbw := Below.on hbw hb17
          clear hb17
          go_wp2_with fail
          go_ret2
          exact ⟨_, _, _, _, s, rfl, by rw [HRT.out]; exact HA.out.2.2.2.2.2.1, RS.out, R17.out, hbw⟩
        · obtain ⟨cv, hcv⟩ : ∃ c, c = cmpN ((s + a / s) / 2 ^ 1) s := ⟨_, rfl⟩
          have hc0 : decide (0 ≤ cv) = false := by rw [hcv]; refine decide_eq_false ?_; unfold cmpN; split <;> (try split) <;> omega
          rw [← hcv]
          have HLT : Hid ((s + a / s) / 2 ^ 1 < s) := by show _ < _; omega
          clear hcv hst
          go_wp2_with fail
          go_roundg ((s + a / s) / 2 ^ 1)
          case measure => exact HLT.out
          case rel => exact ⟨m14, _, p14, rfl, R14.out, rfl, rt_mean HA.out.2.2.2.2.2.1 HS.out.1 HS.out.2.2, Nat.le_of_lt (Nat.lt_of_lt_of_le HLT.out HS.out.2.1), RA.out, hbw⟩
theorem no_over {P X c Y : Nat} (h : X + P * c = Y) (hY : Y < P) : X = Y := by
  rcases Nat.eq_zero_or_pos c with e | e
  · subst e; omega
  · have : P * 1 ≤ P * c := Nat.mul_le_mul_left _ e
    omega
theorem moved_any {p : Option Addr} {m c : Nat} {xs : List Nat} {w : World} (h : At w p m c xs) (n s : Nat) (hmn : m ≤ n) (hn : n ≤ 10000) (hs : s < 64) (hfit : 2 ^ s * valB B64 xs < B64 ^ n) :
    Calls Tryz.prog 45 #[.slice p m c, .int .i64 n, .int .i64 s] w fun e w' =>
      ∃ g zs, e = .returned (.slice (some ⟨g, 0, none⟩) n n) ∧ w.heap.size ≤ g ∧ g < w'.heap.size ∧ Row w' g 0 n zs ∧ valB B64 zs = 2 ^ s * valB B64 xs ∧ Below w.heap.size w w' := by
  obtain ⟨i0, hi, hz0, hz1, hz2⟩ := info_parts Tryz.infoU64
  have hl := h.len
  have HF : Hid (2 ^ s * valB B64 xs < B64 ^ n) := hfit
  clear hfit
  go_enter Tryz.func45, Tryz.ntmps45
  go_wp2_with (first
    | (at_make; refine wpList_make_full _ rfl _ _ 23 rfl w.heap.size 34 i0 (.int .u64 0) 1 Tryz.underlying23 hi hz0 hz1 _ _ _ _ n rfl rfl (by omega) (by omega) (by rw [hz2]; omega) (by unfold maxLen; omega) (Nat.le_refl _) ?_; intro w1 hown hgrow; have hb := made_blk hown hgrow; clear hown hgrow)
    | (refine wpList_copy_splice rfl (.tmp 10) (.tmp 11) 23 23 rfl 34 Tryz.underlying23 Tryz.sizeU64 (some ⟨w.heap.size, 0, none⟩) p n n m c rfl rfl w.heap.size 0 (cellsU (List.replicate n 0)) 34 hb.1 (cellsU xs) (by rw [cellsU_length, hl]; exact (Nat.min_eq_left hmn).symm) (fun h0 => ⟨rfl, (h.below hb.2).src (by rw [cellsU_length] at h0; omega)⟩) (by simp [cellsU_length]; omega) (cellsU_one xs) w.heap.size w hb.2 (Nat.le_refl _) ?_; intro w2 hg2 hb2))
  have hg3 : Blk w2 w.heap.size (xs ++ List.replicate (n - m) 0) := by
    have := hg2
    rw [splice_cellsU, hl] at this; exact this
  clear hg2 hb
  have hdz : Dig B64 (xs ++ List.replicate (n - m) 0) := dig_pad h.dig _
  have hr := hg3.row hdz
  have hlz : (xs ++ List.replicate (n - m) 0).length = n := by simp; omega
  rw [hlz] at hr
  refine (sup_gen w.heap.size n n s _ _ hr (Nat.le_refl _) (by omega) hs).mono ?_
  rintro e w3 ⟨zs, rfl, hwr, hrow, hval⟩
  rw [valB_append_zeros] at hval
  have HV : Hid (valB B64 zs = 2 ^ s * valB B64 xs) := no_over hval HF.out
  have hb3 : Below w.heap.size w w3 := hb2.trans (hwr.below (Nat.le_refl _))
  have hlt3 : w.heap.size < w3.heap.size := by rw [hwr.size]; exact hg3.lt
  clear hval hg3 hdz hr hlz hb2 hwr
  go_wp2_with fail
  go_ret
  exact ⟨_, zs, rfl, Nat.le_refl _, hlt3, hrow, HV.out, hb3⟩

theorem top_ne {ys : List Nat} {b n : Nat} (hy : Nf B64 ys b) (hl : ys.length = n) (h0 : 0 < n) : ys.getD (n - 1) 0 ≠ 0 := by
  refine hy.top _ ?_
  rw [List.getLast?_eq_getElem?, hl, List.getD_eq_getElem?_getD, List.getElem?_eq_getElem (by omega)]; rfl
theorem div_fit {ys : List Nat} {b n s : Nat} (hy : Nf B64 ys b) (hl : ys.length = n) (h0 : 0 < n) (hs : s + bitsN (ys.getD (n - 1) 0) = 64) : 2 ^ s * b < B64 ^ n := by
  obtain ⟨k, rfl⟩ : ∃ k, n = k + 1 := ⟨n - 1, by omega⟩
  rw [Nat.add_sub_cancel] at hs
  have h1 := valB_top hl
  have h2 := take_len_lt hy.dig (n := k) (by omega)
  rw [hy.val] at h1
  have h3 := bitsN_lt (ys.getD k 0)
  have h4 : 2 ^ s * (ys.getD k 0 + 1) ≤ 2 ^ s * 2 ^ bitsN (ys.getD k 0) := Nat.mul_le_mul_left _ h3
  rw [← Nat.pow_add, hs, show (2:Nat) ^ 64 = B64 from rfl] at h4
  have h5 : b < B64 ^ k * (ys.getD k 0 + 1) := by rw [Nat.mul_add, Nat.mul_one]; omega
  have h6 : 2 ^ s * b < 2 ^ s * (B64 ^ k * (ys.getD k 0 + 1)) := Nat.mul_lt_mul_of_pos_left h5 (Nat.two_pow_pos s)
  have h7 : B64 ^ k * (2 ^ s * (ys.getD k 0 + 1)) ≤ B64 ^ k * B64 := Nat.mul_le_mul_left _ h4
  rw [Nat.pow_succ]
  rw [Nat.mul_left_comm] at h6
  omega
theorem div_room {xs : List Nat} {a m s : Nat} (hx : Nf B64 xs a) (hl : xs.length = m) (hs : s < 64) : 2 ^ s * a < B64 ^ (m + 1) := by
  have h1 := valB_lt B64_pos hx.dig
  rw [hx.val, hl] at h1
  have h2 : (2:Nat) ^ s ≤ B64 := by rw [show B64 = 2 ^ 64 from rfl]; exact Nat.pow_le_pow_right (by omega) (by omega)
  have h3 : 2 ^ s * a ≤ B64 * a := Nat.mul_le_mul_right _ h2
  have h4 : B64 * a < B64 * B64 ^ m := Nat.mul_lt_mul_of_pos_left h1 B64_pos
  rw [Nat.pow_succ, Nat.mul_comm (B64 ^ m)]
  omega
theorem div_start {xs ys rs : List Nat} {a b m n s L : Nat} (hx : Nf B64 xs a) (hy : Nf B64 ys b) (hl : xs.length = m) (hm : ys.length = n) (h0 : 0 < n) (hL : L + n = m + 1) (hr : rs.length = m + 1) (hv : valB B64 rs = 2 ^ s * a) : valB B64 (rs.drop L) < 2 ^ s * b := by
  have h1 := valB_lt B64_pos hx.dig
  rw [hx.val, hl] at h1
  have h2 := valB_pos B64_pos (show ys ≠ [] by intro e; subst e; simp at hm; omega) hy.top
  rw [hy.val, hm] at h2
  have h3 := valB_split B64 rs L (by omega)
  have h4 : B64 ^ L * B64 ^ (n - 1) ≤ B64 ^ L * b := Nat.mul_le_mul_left _ h2
  rw [← Nat.pow_add, show L + (n - 1) = m by omega] at h4
  have h5 : 2 ^ s * a < 2 ^ s * (B64 ^ L * b) := Nat.mul_lt_mul_of_pos_left (by omega) (Nat.two_pow_pos s)
  rw [Nat.mul_left_comm] at h5
  exact Nat.lt_of_mul_lt_mul_left (a := B64 ^ L) (by omega)
theorem div_end {a b s Q r : Nat} (h : r + Q * (2 ^ s * b) = 2 ^ s * a) (hr : r < 2 ^ s * b) : Q = a / b ∧ r / 2 ^ s = a % b := by
  have hp := Nat.two_pow_pos s
  have e1 : Q * (2 ^ s * b) = 2 ^ s * (Q * b) := by rw [Nat.mul_left_comm]
  rw [e1] at h
  obtain ⟨r', hr'⟩ : ∃ r', r = 2 ^ s * r' := by
    refine ⟨a - Q * b, ?_⟩
    rw [Nat.mul_sub]; omega
  subst hr'
  have h2 : r' + Q * b = a := by
    rw [← Nat.mul_add] at h
    exact Nat.eq_of_mul_eq_mul_left hp h
  have h3 : r' < b := Nat.lt_of_mul_lt_mul_left hr
  have h4 := quo_unique (n := a) (q := Q) (y := b) (r := r') (by omega) h3
  refine ⟨h4.1, ?_⟩
  rw [Nat.mul_div_cancel_left _ hp]; exact h4.2

structure DivTo (w : World) (a b : Nat) (v1 v2 : Value) (w' : World) : Prop where
  quo : ∃ p m zs, v1 = .slice p m m ∧ Own w.heap.size w' p m zs ∧ Nf B64 zs (a / b) ∧ m ≤ 8192
  rem : ∃ p m zs, v2 = .slice p m m ∧ Own w.heap.size w' p m zs ∧ Nf B64 zs (a % b) ∧ m ≤ 8192
  bel : Below w.heap.size w w'

theorem divide_any {gp op gq oq : Nat} {m n c d : Nat} {xs ys : List Nat} {a b : Nat} {w : World} (h : At w (some ⟨gp, op, none⟩) m c xs) (k : At w (some ⟨gq, oq, none⟩) n d ys) (hx : Nf B64 xs a) (hy : Nf B64 ys b) (hm : m ≤ 8192) (hn : 2 ≤ n) (hnm : n ≤ m) :
    Calls Tryz.prog 24 #[.slice (some ⟨gp, op, none⟩) m c, .slice (some ⟨gq, oq, none⟩) n d] w fun e w' => ∃ v1 v2, e = .returned (.tuple #[v1, v2]) ∧ DivTo w a b v1 v2 w' := by
  obtain ⟨y, hyy⟩ : ∃ y, y = ys.getD (n - 1) 0 := ⟨_, rfl⟩
  have hyb : y < B64 := by rw [hyy]; exact hy.dig.getD B64_pos _
  have hy0 : y ≠ 0 := by rw [hyy]; exact top_ne hy k.len (by omega)
  have hb64 := bits64 hyb
  have hbp : 0 < bitsN y := by
    rcases Nat.eq_zero_or_pos (bitsN y) with e | e
    · exfalso
      have := bitsN_lt y
      rw [e] at this; simp at this; omega
    · exact e
  obtain ⟨s, hs⟩ : ∃ s, s + bitsN y = 64 := ⟨64 - bitsN y, by omega⟩
  have hs64 : s < 64 := by omega
  have cy : w.cell? ⟨gq, oq + (n - 1), none⟩ = some (U y) := by rw [hyy]; exact k.cellAt (n - 1) (by omega)
  have F1 : Hid (2 ^ s * valB B64 ys < B64 ^ n) := by
    have := div_fit hy k.len (by omega) (by rw [← hyy]; exact hs)
    rw [← hy.val] at this; exact this
  have F2 : Hid (2 ^ s * valB B64 xs < B64 ^ (m + 1)) := by
    have := div_room hx h.len hs64
    rw [← hx.val] at this; exact this
  have HX : Hid (Nf B64 xs a) := hx
  have HY : Hid (Nf B64 ys b) := hy
  have HS : Hid (s + bitsN y = 64) := hs
  have hlx := h.len; have hly := k.len
  have HLX : Hid (xs.length = m) := hlx
  have HLY : Hid (ys.length = n) := hly
  have kcap := k.cap; have kbig := k.big
  unfold maxLen at kbig
  have hwn : IntKind.i64.wrap ((n : Int) - 1) = (n : Int) - 1 := wrap_sub n 1 (by omega) (by omega)
  clear hx hy hyy hs hbp hb64 hlx hly
  go_enter Tryz.func24, Tryz.ntmps24
  go_wp2_with fail
  refine (lz_any y s w hyb HS.out).mono ?_
  rintro e w' ⟨rfl, hw⟩
  obtain rfl := hw.symm
  clear hw
  go_wp2_with fail
  refine (moved_any k n s (Nat.le_refl _) (by omega) hs64 F1.out).mono ?_
  rintro e w1 ⟨g1, zs1, rfl, hg1, hgl1, hrow1, hv1, hb1⟩
  have h1 := h.below hb1
  have HV1 : Hid (valB B64 zs1 = 2 ^ s * valB B64 ys) := hv1
  clear hv1 h k
  go_wp2_with fail
  rw [show ((m : Int) + 1) = ((m + 1 : Nat) : Int) by omega]
  refine (moved_any h1 (m + 1) s (by omega) (by omega) hs64 F2.out).mono ?_
  rintro e w2 ⟨g2, zs2, rfl, hg2, hgl2, hrow2, hv2, hb2⟩
  have hr1 := hrow1.below hb2 hgl1
  have HV2 : Hid (valB B64 zs2 = 2 ^ s * valB B64 xs) := hv2
  have hw2 := Below.on hb1 hb2
  clear hv2 h1 hrow1 hb1 hb2
  obtain ⟨i0, hi, hz0, hz1, hz2⟩ := info_parts Tryz.infoU64
  obtain ⟨L, hL⟩ : ∃ L, L = m - n + 1 := ⟨_, rfl⟩
  have HL : Hid (L = m - n + 1) := hL
  have hLi : (m : Int) - (n : Int) + 1 = (L : Int) := by omega
  have hLb : L ≤ 8192 := by omega
  clear hL
  go_wp2_with (at_make; refine wpList_make_full _ rfl _ _ 23 rfl w2.heap.size 34 i0 (.int .u64 0) 1 Tryz.underlying23 hi hz0 hz1 _ _ _ _ L rfl rfl (by omega) (by omega) (by rw [hz2]; omega) (by unfold maxLen; omega) (Nat.le_refl _) ?_; intro w3 hown hgrow; have hb := made_blk hown hgrow; clear hown hgrow)
  have hq3 : Row w3 w2.heap.size 0 L (List.replicate L 0) := by
    have := hb.1.row (Dig.replicate B64 L B64_pos)
    rw [List.length_replicate] at this; exact this
  have hlt12 : g1 < w2.heap.size := Nat.lt_of_lt_of_le hgl1 (by have := hw2.size; omega)
  have hr13 := hr1.below hb.2 hlt12
  have hr23 := hrow2.below hb.2 hgl2
  have hw3 := Below.on hw2 hb.2
  have hne12 : g1 ≠ g2 := by omega
  have hLn : L + n = m + 1 := by have := HL.out; omega
  rw [← hLn] at hr23
  have TD := takedig_any hq3 hr23 (hr13.at_ (Nat.le_refl _) (by unfold maxLen; omega)) (by omega) (by omega) hne12 hn (by omega) (by omega) (by
    rw [HV1.out, HY.out.val]
    exact div_start HX.out HY.out HLX.out HLY.out (by omega) hLn (by rw [hrow2.len]) (by rw [HV2.out, HX.out.val]))
  rw [hLn] at TD
  have HLN : Hid (L + n = m + 1) := hLn
  clear hLn hq3 hr13 hr23 hr1 hrow2 hLi
  refine TD.mono ?_
  rintro e w4 ⟨qs, rs, rfl, hbel, hrq, hrr, hlt, hsum⟩
  rw [HV1.out, HY.out.val] at hlt
  rw [HV1.out, HV2.out, HY.out.val, HX.out.val] at hsum
  have hend := div_end hsum hlt
  have hsp := valB_split B64 rs n (by rw [hrr.len]; omega)
  have hfit : valB B64 (rs.take n) = valB B64 rs := no_over hsp.symm (Nat.lt_trans hlt (by have := F1.out; rw [HY.out.val] at this; exact this))
  have HQ : Hid (valB B64 qs = a / b) := hend.1
  have HREM : Hid (valB B64 (rs.take n) / 2 ^ s = a % b) := by rw [hfit]; exact hend.2
  have hrt := hrr.take n (by omega)
  have hw4 : Below w.heap.size w w4 := hw3.trans (hbel w.heap.size (by have := hw2.size; omega) (by omega))
  have hgq4 : w2.heap.size ≠ g2 := by omega
  have hgqb : w.heap.size ≤ w2.heap.size := hw2.size
  generalize w2.heap.size = gz at *
  clear hsum hlt hend hsp hfit hrr hbel TD hw3 hw2 hb hlt12 hne12
  go_wp2_with fail
  refine (cut_row g2 0 (m + 1) (m + 1) n w4 (Nat.le_refl _) (by omega)).mono ?_
  rintro e w5 ⟨rfl, r5, hw5⟩
  have hrt5 : Row w5 g2 0 n (rs.take n) := by rw [hw5]; exact hrt.drewN r5
  have hrq5 : Row w5 gz 0 L qs := by rw [hw5]; exact hrq.drewN r5
  have hbw5 : Below w.heap.size w w5 := by rw [hw5]; exact bDrewN hw4 r5
  clear hw5 hrt hrq hw4
  go_wp2_with fail
  refine (sdn_any g2 n n s (rs.take n) w5 hrt5 (Nat.le_refl _) (by omega) hs64).mono ?_
  rintro e w6 ⟨us, rfl, hwr6, hrow6, hval6⟩
  rw [HREM.out] at hval6
  have hrq6 := hrq5.wr hwr6 hgq4
  have hbw6 : Below w.heap.size w w6 := hbw5.trans (hwr6.below (by omega))
  have AQ := hrq6.at_ (Nat.le_refl _) (by unfold maxLen; omega)
  have AR := hrow6.at_ (Nat.le_refl _) (by unfold maxLen; omega)
  have NQ : Hid (Nf B64 (trimL qs) (a / b)) := by have := Nf.trim hrq6.dig; rw [HQ.out] at this; exact this
  have NR : Hid (Nf B64 (trimL us) (a % b)) := by have := Nf.trim hrow6.dig; rw [hval6] at this; exact this
  clear hval6 hrt5 hrq5 hbw5 hwr6
  go_wp2_with fail
  refine (trim_any AQ).mono ?_
  rintro e w' ⟨p1, m1, rfl, hm1, hp1, hw⟩
  obtain rfl := hw.symm
  have HM1 : Hid (m1 = (trimL qs).length) := hm1
  clear hw hm1
  go_wp2_with fail
  refine (trim_any AR).mono ?_
  rintro e w' ⟨p2, m2, rfl, hm2, hp2, hw⟩
  obtain rfl := hw.symm
  have HM2 : Hid (m2 = (trimL us).length) := hm2
  clear hw hm2
  go_wp2_with fail
  go_ret2
  have hl1 := trimL_length_le qs; have hl2 := trimL_length_le us
  have e1 := HM1.out; have e2 := HM2.out; have e3 := hrq6.len; have e4 := hrow6.len
  exact ⟨_, _, rfl, ⟨p1, m1, _, rfl, hrq6.own hgqb e1 hp1, NQ.out, by omega⟩, ⟨p2, m2, _, rfl, hrow6.own (by omega) e2 hp2, NR.out, by omega⟩, hbw6⟩
end Go.Proofs.YtpebgjpfgfimgaaGreatDoor
