import Derived.Test.YtclhfdedjjghhaaDoorShiftDn
namespace Go.Proofs.YtclhfdedjjghhaaDoor
open Go.RowKit

theorem bitsN_pos {a : Nat} (h : a ≠ 0) : 0 < bitsN a := by unfold bitsN; rw [if_neg h]; omega
theorem lt_pow_bits (x K : Nat) : x < 2 ^ K ↔ bitsN x ≤ K := by
  constructor
  · intro h
    by_cases h0 : x = 0
    · subst h0; simp [bitsN]
    · have h1 := bitsN_le x h0
      have h2 : bitsN x - 1 < K := (Nat.pow_lt_pow_iff_right (by decide : 1 < 2)).1 (Nat.lt_of_le_of_lt h1 h)
      omega
  · intro h
    exact Nat.lt_of_lt_of_le (bitsN_lt x) (Nat.pow_le_pow_right (by decide) h)
theorem bitsN_shl (a n : Nat) (h : a ≠ 0) : bitsN (2 ^ n * a) = n + bitsN a := by
  have := bitsN_top (lo := 0) (k := n) (Nat.two_pow_pos n) (bitsN_lt a) (bitsN_le a h) (by have := bitsN_pos h; omega)
  rw [Nat.zero_add] at this; exact this
theorem LIM_two (k : Nat) (hk : k = 524288) : LIM = 2 ^ k := by
  obtain ⟨K, hK⟩ : ∃ K, K = 8192 := ⟨_, rfl⟩
  rw [LIM_eq K hK, B64_pow, show 64 * K = k by omega]
theorem lim_bits (x : Nat) : x < LIM ↔ bitsN x ≤ 524288 := by
  obtain ⟨K, hK⟩ : ∃ K, K = 524288 := ⟨_, rfl⟩
  rw [LIM_two K hK, lt_pow_bits, hK]
theorem lim_shl (a n : Nat) (h : a ≠ 0) : 2 ^ n * a < LIM ↔ n + bitsN a ≤ 524288 := by rw [lim_bits, bitsN_shl a n h]
theorem splice_mid (L o : Nat) (xs : List Nat) (h : o + xs.length ≤ L) : splice (cellsU (List.replicate L 0)) o (cellsU xs) = cellsU (List.replicate o 0 ++ xs ++ List.replicate (L - (o + xs.length)) 0) := by
  unfold splice cellsU
  simp only [List.map_append, List.map_replicate, List.take_replicate, List.drop_replicate, List.length_map, List.append_assoc]
  rw [Nat.min_eq_left (by omega)]
theorem valB_shifted (o r : Nat) (xs : List Nat) : valB B64 (List.replicate o 0 ++ xs ++ List.replicate r 0) = B64 ^ o * valB B64 xs := by
  rw [valB_append_zeros, valB_append, valB_replicate, List.length_replicate, Nat.zero_add]
theorem shl_split (n a : Nat) : 2 ^ (n % 64) * (B64 ^ (n / 64) * a) = 2 ^ n * a := by
  rw [B64_pow, ← Nat.mul_assoc, ← Nat.pow_add, Nat.mod_add_div]

set_option maxRecDepth 20000 in
set_option maxHeartbeats 1000000 in
theorem shl_nf {p : Option Addr} {m c : Nat} {xs : List Nat} {a : Nat} {w : World} (h : At w p m c xs) (hx : Nf B64 xs a) (hm : m ≤ 8192) (n : Nat) (hn : n ≤ 9223372036854775807) :
    Calls Tryd.prog 4 #[.slice p m c, .int .i64 n] w fun e w' => Ans w.heap.size w' e (2 ^ n * a) ∧ Below w.heap.size w w' := by
  have fx := hx.form (by rw [h.len]; exact hm)
  have hl := h.len
  have HX : Hid (Nf B64 xs a) := hx
  clear hx
  by_cases h0 : m = 0
  · subst h0
    have hxe : xs = [] := List.eq_nil_of_length_eq_zero hl
    have ha : a = 0 := (HX.out.zero_iff B64_one).1 hxe
    have HA : Hid (2 ^ n * a = 0) := by rw [ha]; exact Nat.mul_zero _
    clear ha hxe hl
    go_enter Tryd.func4, Tryd.ntmps4
    go_wp2_with fail
    refine (form_true h fx).mono ?_
    rintro e w' ⟨rfl, hw⟩
    obtain rfl := hw.symm
    clear hw fx
    go_wp2_with fail
    go_ret2
    refine ⟨.inl ⟨?_, none, 0, [], rfl, ⟨rfl, Dig.nil _, .inl rfl⟩, ?_, by omega⟩, Below.refl _ _⟩
    · rw [HA.out]; exact (Nf.nil B64).lim.1 (by simp)
    · rw [HA.out]; exact Nf.nil _
  · have ha : a ≠ 0 := by
      intro e
      have := (HX.out.zero_iff B64_one).2 e
      rw [this] at hl; simp at hl; omega
    have h0' : ((m : Int) == 0) = false := by simp; omega
    have hls := lim_shl a n ha
    have hbl : bitsN a ≤ 524288 := by rw [← lim_bits]; exact HX.out.lim.1 (by omega)
    have HL : Hid (2 ^ n * a < LIM ↔ n + bitsN a ≤ 524288) := hls
    clear hls ha
    go_enter Tryd.func4, Tryd.ntmps4
    go_wp2_with fail
    refine (form_true h fx).mono ?_
    rintro e w' ⟨rfl, hw⟩
    obtain rfl := hw.symm
    clear hw fx
    go_wp2_with fail
    refine (bits_any h (by omega)).mono ?_
    rintro e w' ⟨rfl, hw⟩
    obtain rfl := hw.symm
    clear hw
    rw [HX.out.val]
    by_cases hbig : n + bitsN a ≤ 524288
    · obtain ⟨i0, hi, hz0, hz1, hz2⟩ := info_parts Tryd.infoU64
      go_wp2_with (first
        | (at_make; refine wpList_make_full _ rfl _ _ 23 rfl w.heap.size 27 i0 (.int .u64 0) 1 Tryd.underlying23 hi hz0 hz1 _ _ _ _ (m + n / 64 + 1) rfl rfl (by omega) (by omega) (by rw [hz2]; omega) (by unfold maxLen; omega) (Nat.le_refl _) ?_; intro w1 hown hgrow; have hb := made_blk hown hgrow; clear hown hgrow)
        | (refine wpList_copy_splice rfl (.tmp 30) (.tmp 31) 23 23 rfl 27 Tryd.underlying23 Tryd.sizeU64 (some ⟨w.heap.size, n / 64, none⟩) p (m + n / 64 + 1 - n / 64) (m + n / 64 + 1 - n / 64) m c rfl rfl w.heap.size (n / 64) (cellsU (List.replicate (m + n / 64 + 1) 0)) 27 hb.1 (cellsU xs) (by rw [cellsU_length, hl]; exact (Nat.min_eq_left (by omega)).symm) (fun h0 => ⟨rfl, (h.below hb.2).src (by rw [cellsU_length] at h0; omega)⟩) (by simp [cellsU_length]; omega) (cellsU_one xs) w.heap.size w hb.2 (Nat.le_refl _) ?_; intro w2 hg2 hb2))
      have hg3 : Blk w2 w.heap.size (List.replicate (n / 64) 0 ++ xs ++ List.replicate (m + n / 64 + 1 - (n / 64 + xs.length)) 0) := by
        have := hg2.out
        rw [splice_mid _ _ _ (by omega)] at this; exact this
      clear hg2 hb
      have hdz : Dig B64 (List.replicate (n / 64) 0 ++ xs ++ List.replicate (m + n / 64 + 1 - (n / 64 + xs.length)) 0) := dig_pad ((Dig.replicate _ _ B64_pos).append HX.out.dig) _
      have hr := hg3.row hdz
      have hlz : (List.replicate (n / 64) 0 ++ xs ++ List.replicate (m + n / 64 + 1 - (n / 64 + xs.length)) 0).length = m + n / 64 + 1 := by simp; omega
      rw [hlz] at hr
      refine (sup_any w.heap.size (m + n / 64 + 1) (m + n / 64 + 1) (n % 64) _ _ hr (Nat.le_refl _) (by omega) (by omega) (.inr ?_)).mono ?_
      · rw [Nat.add_sub_cancel, List.getD_eq_getElem?_getD, List.getElem?_append_right (by simp; omega), List.getElem?_replicate]
        split <;> rfl
      rintro e w3 ⟨zs, rfl, hwr, hrow, hval⟩
      rw [valB_shifted, HX.out.val, shl_split] at hval
      have A3 := hrow.at_ (Nat.le_refl _) (by unfold maxLen; omega)
      have hN := Nf.trim hrow.dig
      rw [hval] at hN
      have HV : Hid (Nf B64 (trimL zs) (2 ^ n * a)) := hN
      have hb3 : Below w.heap.size w w3 := hb2.trans (hwr.below (Nat.le_refl _))
      clear hval hN hg3 hdz hr hlz hb2
      go_wp2_with fail
      refine (trim_any A3).mono ?_
      rintro e w4 ⟨p', m', rfl, hm', hp', hw⟩
      obtain rfl := hw.symm
      have HM : Hid (m' = (trimL zs).length) := hm'
      clear hw hm'
      go_wp2_with fail
      go_ret2
      have e1 := HM.out
      have e2 := HL.out.2 hbig
      exact ⟨.inl ⟨e2, p', m', trimL zs, rfl, hrow.own (Nat.le_refl _) e1 hp', HV.out, by have := HV.out.lim.2 e2; omega⟩, hb3⟩
    · go_wp2_with fail
      go_ret2
      refine ⟨.inr ⟨?_, rfl⟩, Below.refl _ _⟩
      have := mt HL.out.1 hbig
      omega
end Go.Proofs.YtclhfdedjjghhaaDoor
