import Derived.Test.YtpebgjpfgfimgaaDoorJ9
import Derived.Test.YtpebgjpfgfimgaaDoorJ8
namespace Go.Proofs.YtpebgjpfgfimgaaDoor
open Go.RowKit Go.Shelf
set_option maxRecDepth 20000
set_option maxHeartbeats 0
def TxA (xs : List Nat) (s : ByteArray) (e : Int) : Prop := (formB xs = true ∧ valB B64 xs < TXL ∧ s = ⟨(Lib.decDigits (valB B64 xs)).toArray⟩ ∧ e = 0) ∨ (formB xs = true ∧ ¬ valB B64 xs < TXL ∧ s = ⟨#[]⟩ ∧ e = 5) ∨ (formB xs = false ∧ s = ⟨#[]⟩ ∧ e = 2)
theorem TxA.uniq {xs : List Nat} {s t : ByteArray} {e f : Int} (h : TxA xs s e) (k : TxA xs t f) : s = t ∧ e = f := by
  rcases h with ⟨h1, h2, rfl, rfl⟩ | ⟨h1, h2, rfl, rfl⟩ | ⟨h1, rfl, rfl⟩ <;> rcases k with ⟨k1, k2, rfl, rfl⟩ | ⟨k1, k2, rfl, rfl⟩ | ⟨k1, rfl, rfl⟩
  · exact ⟨rfl, rfl⟩
  · exact absurd h2 k2
  · rw [h1] at k1; cases k1
  · exact absurd k2 h2
  · exact ⟨rfl, rfl⟩
  · rw [h1] at k1; cases k1
  · rw [h1] at k1; cases k1
  · rw [h1] at k1; cases k1
  · exact ⟨rfl, rfl⟩
theorem txl_bits {a : Nat} (h : 19600 < bitsN a) : ¬ a < TXL := by
  have h0 : a ≠ 0 := fun e => by rw [e, bitsN_zero] at h; omega
  have h1 := bitsN_le a h0
  have h2 : (10 : Nat) ^ TXN ≤ 2 ^ (bitsN a - 1) := ten_pow (by unfold TXN; omega)
  unfold TXL
  omega
theorem bits_kk {a : Nat} (h : ¬ 19600 < bitsN a) : a < 2 ^ KKN := Nat.lt_of_lt_of_le (bitsN_lt a) (Nat.pow_le_pow_right (by decide) (by unfold KKN; omega))
theorem text_ok {p : Option Addr} {m c : Nat} {xs : List Nat} {w : World} (h : At w p m c xs) (ht : TbP w) :
    Calls Tryd.prog 6 #[.slice p m c] w fun en w' => ∃ s er, en = .returned (.tuple #[.string s, .int .i64 er]) ∧ TxA xs s er ∧ Below w.heap.size w w' := by
  have AT : Hid (At w p m c xs ∧ TbP w) := ⟨h, ht⟩
  have hl := h.len
  clear ht
  cases hf : formB xs with
  | false =>
    have HF : Hid (formB xs = false) := hf
    go_enter Tryd.func6, Tryd.ntmps6
    go_wp2_with fail
    refine (form_false AT.out.1 hf).mono ?_
    rintro e w1 ⟨rfl, rfl⟩
    clear h
    go_wp2_with fail
    go_ret2
    exact ⟨_, _, rfl, .inr (.inr ⟨HF.out, rfl, rfl⟩), Below.refl _ _⟩
  | true =>
    have hnf := formB_nf hf h.dig
    have HF : Hid (formB xs = true ∧ Nf B64 xs (valB B64 xs) ∧ xs.length ≤ 8192 ∧ xs.length = m) := ⟨hf, hnf.1, hnf.2, hl⟩
    have hmz : m = 0 ↔ valB B64 xs = 0 := by rw [← hnf.1.zero_iff B64_one, ← hl]; exact List.length_eq_zero_iff
    clear h hnf
    by_cases hm0 : m = 0
    · have HV : Hid (valB B64 xs = 0) := hmz.1 hm0
      subst hm0
      clear hmz
      go_enter Tryd.func6, Tryd.ntmps6
      go_wp2_with fail
      refine (form_true AT.out.1 hf).mono ?_
      rintro e w1 ⟨rfl, rfl⟩
      clear hf
      go_wp2_with fail
      go_ret2
      refine ⟨_, _, rfl, .inl ⟨HF.out.1, by rw [HV.out]; exact txl_pos, ?_, rfl⟩, Below.refl _ _⟩
      rw [HV.out, Lib.decDigits_one (by decide)]; rfl
    · have hm1 : ((m : Int) == 0) = false := by simp; omega
      obtain ⟨bn, hbn⟩ : ∃ b, b = bitsN (valB B64 xs) := ⟨_, rfl⟩
      have HBN : Hid (bn = bitsN (valB B64 xs)) := hbn
      have HVZ : Hid (valB B64 xs ≠ 0) := fun e => hm0 (hmz.2 e)
      clear hmz
      go_enter Tryd.func6, Tryd.ntmps6
      go_wp2_with fail
      refine (form_true AT.out.1 hf).mono ?_
      rintro e w1 ⟨rfl, rfl⟩
      clear hf
      go_wp2_with fail
      refine (bits_any AT.out.1 (by have := HF.out; omega)).mono ?_
      rintro e w1 ⟨rfl, rfl⟩
      rw [← hbn]
      clear hbn
      by_cases hb : 19600 < bn
      · have hd1 : decide ((19600 : Int) < (bn : Int)) = true := decide_eq_true (by omega)
        have hd2 : decide (19600 < bn) = true := decide_eq_true hb
        have HNL : Hid (¬ valB B64 xs < TXL) := txl_bits (HBN.out ▸ hb)
        go_wp2_with fail
        go_ret2
        exact ⟨_, _, rfl, .inr (.inl ⟨HF.out.1, HNL.out, rfl, rfl⟩), Below.refl _ _⟩
      · have hd1 : decide ((19600 : Int) < (bn : Int)) = false := decide_eq_false (by omega)
        have hd2 : decide (19600 < bn) = false := decide_eq_false hb
        have HKK : Hid (valB B64 xs < 2 ^ KKN) := bits_kk (HBN.out ▸ hb)
        clear hb
        go_wp2_with fail
        clear hd1 hd2
        refine (padded_ok AT.out.1 HF.out.2.1 (by have := HF.out; omega) HKK.out AT.out.2).mono ?_
        rintro e v1 ⟨l, rfl, hdg, hdv, hb1⟩
        have HL : Hid ((∀ c, c ∈ l → IsDg c) ∧ dval l = valB B64 xs) := ⟨hdg, hdv⟩
        clear hdg hdv
        go_wp2_with fail
        refine (trim_c ⟨l.toArray⟩ 48 (by decide) v1).mono ?_
        rintro e v2 ⟨rfl, rfl⟩
        have htr : Lib.trimLeftB (⟨l.toArray⟩ : ByteArray).data.toList 48 = Lib.decDigits (valB B64 xs) := by have h1 := trim_dec l HL.out.1 (by rw [HL.out.2]; exact HVZ.out); rw [HL.out.2] at h1; exact h1
        rw [htr]
        clear htr
        obtain ⟨ds, hds⟩ : ∃ ds : ByteArray, ds = ⟨(Lib.decDigits (valB B64 xs)).toArray⟩ := ⟨_, rfl⟩
        rw [← hds]
        have hsz : ds.size = (Lib.decDigits (valB B64 xs)).length := by rw [hds]; rfl
        have HD : Hid (ds = ⟨(Lib.decDigits (valB B64 xs)).toArray⟩) := hds
        clear hds
        by_cases hlt : valB B64 xs < TXL
        · have hs : ds.size ≤ 4900 := by rw [hsz]; exact txl_le hlt
          have hd1 : decide ((4900 : Int) < (ds.size : Int)) = false := decide_eq_false (by omega)
          have hd2 : decide (4900 < ds.size) = false := decide_eq_false (by omega)
          have HLT : Hid (valB B64 xs < TXL) := hlt
          clear hsz hlt hs
          go_wp2_with fail
          go_ret2
          exact ⟨_, _, rfl, .inl ⟨HF.out.1, HLT.out, HD.out, rfl⟩, hb1⟩
        · have hs : 4900 < ds.size := by rw [hsz]; exact txl_gt hlt
          have hd1 : decide ((4900 : Int) < (ds.size : Int)) = true := decide_eq_true (by omega)
          have hd2 : decide (4900 < ds.size) = true := decide_eq_true hs
          have HLT : Hid (¬ valB B64 xs < TXL) := hlt
          clear hsz hlt hs
          go_wp2_with fail
          go_ret2
          exact ⟨_, _, rfl, .inr (.inl ⟨HF.out.1, HLT.out, rfl, rfl⟩), hb1⟩
theorem rdivsmall3 {p : Option Addr} {n c : Nat} {xs : List Nat} {w : World} (h : At32 w p n c xs) (hn : n ≤ 1099511627776) (d : Nat) (hd : 1 ≤ d) (hdb : d < B32) :
    Calls Tryd.prog 51 #[.slice p n c, .int .u32 d] w fun e w' => ∃ g m' zs r, e = .returned (.tuple #[.slice (some ⟨g, 0, none⟩) m' m', .int .u32 r]) ∧ w.heap.size ≤ g ∧ g < w'.heap.size ∧ At32 w' (some ⟨g, 0, none⟩) m' m' zs ∧ Nf B32 zs (valB B32 xs / d) ∧ m' ≤ n ∧ r = ((valB B32 xs % d : Nat) : Int) ∧ Below w.heap.size w w' := by
  obtain ⟨i0, hi, hz0, hz1, hz2⟩ := info_parts Tryd.infoU32
  have HLX : Hid (xs.length = n) := h.len
  have hcap := h.cap; have hbig := h.big
  unfold maxLen at hbig
  have hd0 : ((d : Int) == 0) = false := by simp; omega
  have HDB : Hid (1 ≤ d ∧ d < B32) := ⟨hd, hdb⟩
  have hdw : IntKind.u64.wrap (d : Int) = (d : Int) := wrap_mod _ _ (by rw [B32_eq] at hdb; omega)
  clear hdb
  go_enter Tryd.func51, Tryd.ntmps51
  go_wp2_with (at_make; refine wpList_make_full _ rfl _ _ 69 rfl w.heap.size 89 i0 (.int .u32 0) 1 Tryd.underlying69 hi hz0 hz1 _ _ _ _ n rfl rfl (by omega) (by omega) (by rw [hz2]; omega) (by unfold maxLen; omega) (Nat.le_refl _) ?_; intro w1 hown hgrow; have hb := made_blk32 hown hgrow; clear hown hgrow)
  have HO : Hid (DSm w w.heap.size n d xs n 0 (List.replicate n 0) w1) := by
    have hr := hb.1.row (Dig.replicate B32 n B32_pos)
    rw [List.length_replicate] at hr
    refine ⟨hb.2, hr, by omega, ?_⟩
    rw [List.drop_of_length_le (by rw [List.length_replicate]; exact Nat.le_refl _), List.drop_of_length_le (by rw [HLX.out]; exact Nat.le_refl _)]
    simp [valB]
  clear hb
  go_loopg [7, 8] n (fun gk lv iv wr => ∃ (L : Nat) (z : Int) (qs : List Nat), lv = U L ∧ iv = .int .i64 z ∧ z = (gk : Int) - 1 ∧ gk ≤ n ∧ Hid (DSm w w.heap.size n d xs gk L qs wr))
  case atStart => exact ⟨0, (n : Int) - 1, _, rfl, rfl, rfl, Nat.le_refl _, HO⟩
  case round =>
    obtain ⟨L, z, qs, rfl, rfl, hz, hgn, HR⟩ := hrel
    cases gk with
    | zero =>
      obtain rfl : z = -1 := by omega
      have hR := HR.out
      have A32 : At32 wr (some ⟨w.heap.size, 0, none⟩) n n qs := hR.row.at_ (Nat.le_refl _) (by unfold maxLen; omega)
      have hv := hR.val
      rw [List.drop_zero, List.drop_zero] at hv
      have HV : Hid (valB B32 qs = valB B32 xs / d) := by
        show _ = _
        have h1 := hR.lt
        rw [← hv, Nat.mul_comm, Nat.mul_add_div (by omega), Nat.div_eq_of_lt h1, Nat.add_zero]
      have HRM : Hid (L = valB B32 xs % d) := by
        show _ = _
        have h1 := hR.lt
        rw [← hv, Nat.mul_comm, Nat.mul_add_mod, Nat.mod_eq_of_lt h1]
      have HNF : Hid (Nf B32 (trimL qs) (valB B32 xs / d)) := by
        have := Nf.trim hR.row.dig
        rw [HV.out] at this; exact this
      have hle := trimL_length_le qs
      have HLE : Hid ((trimL qs).length ≤ n) := by have := hR.row.len; show _ ≤ _; omega
      have hLw : IntKind.u32.wrap (L : Int) = (L : Int) := wrap32 L (by have := hR.lt; have := HDB.out.2; omega)
      have hbx := hR.bel
      clear hR hv hle hz HR
      go_wp2_with fail
      refine (rnorm_any A32 (by omega)).mono ?_
      rintro e w5 ⟨g5, rfl, hg5, hblk5, hb5⟩
      have hd5 := HNF.out.dig
      generalize trimL qs = us at *
      go_wp2_with fail
      go_ret2
      exact ⟨_, _, us, _, rfl, Nat.le_trans hbx.size hg5, hblk5.lt, hblk5.at_ hd5 rfl (by have := HLE.out; unfold maxLen; omega), HNF.out, HLE.out, by rw [← HRM.out], Below.on hbx hb5⟩
    | succ j =>
      obtain rfl : z = (j : Int) := by omega
      obtain ⟨g, off, rfl, hc⟩ := h.cells.resolve_left (by omega)
      obtain ⟨x, hx⟩ : ∃ x, x = xs.getD j 0 := ⟨_, rfl⟩
      have hcx0 : w.cell? ⟨g, off + j, none⟩ = some (V x) := by rw [hx]; exact hc j (by omega)
      have hcx : wr.cell? ⟨g, off + j, none⟩ = some (V x) := (HR.out.bel.cell (p := ⟨g, off + j, none⟩) (World.block_lt_of_cell? w _ hcx0)).trans hcx0
      have hxb : x < B32 := by rw [hx]; exact h.dig.getD B32_pos j
      have hjn : j < n := by omega
      have hct : wr.cell? ⟨w.heap.size, j, none⟩ = some (V (qs.getD j 0)) := by
        have := HR.out.row.cell j hjn
        rw [Nat.zero_add] at this; exact this
      have hft : wr.frozen? ⟨w.heap.size, j, none⟩ = false := by
        have := HR.out.row.frozen j hjn
        rw [Nat.zero_add] at this; exact this
      have hL := HR.out.lt
      have hdB := HDB.out.2
      rw [B32_eq] at hdB hxb
      obtain ⟨T, hT⟩ : ∃ T, T = L * 4294967296 + x := ⟨_, rfl⟩
      obtain ⟨lh, hlh⟩ : ∃ lh, lh = L * 4294967296 := ⟨_, rfl⟩
      have f1 : IntKind.u64.wrap ((L : Int) * 4294967296) = (lh : Int) := wrap_mod _ _ (by omega)
      have f2 : IntKind.u64.wrap ((lh : Int) + (x : Int)) = (T : Int) := wrap_mod _ _ (by omega)
      have fx : IntKind.u64.wrap (x : Int) = (x : Int) := wrap_mod _ _ (by omega)
      obtain ⟨Q, hQ⟩ : ∃ Q, Q = T / d := ⟨_, rfl⟩
      obtain ⟨R, hRr⟩ : ∃ R, R = T % d := ⟨_, rfl⟩
      have q1 : (T : Int).tdiv (d : Int) = (Q : Int) := by rw [hQ, Int.tdiv_eq_ediv_of_nonneg (Int.natCast_nonneg T)]; norm_cast
      have q2 : (T : Int) / (d : Int) = (Q : Int) := by rw [hQ]; norm_cast
      have r1 : (T : Int).tmod (d : Int) = (R : Int) := by rw [hRr, Int.tmod_eq_emod_of_nonneg (Int.natCast_nonneg T)]; norm_cast
      have r2 : (T : Int) % (d : Int) = (R : Int) := by rw [hRr]; norm_cast
      have hRd : R < d := by rw [hRr]; exact Nat.mod_lt _ hd
      have hQB : Q < B32 := by
        rw [hQ, B32_eq]
        refine Nat.div_lt_of_lt_mul ?_
        have : L * 4294967296 + 4294967296 ≤ d * 4294967296 := by
          have := Nat.mul_le_mul_right 4294967296 (show L + 1 ≤ d by omega)
          rw [Nat.add_mul] at this; omega
        omega
      have fq : IntKind.u32.wrap (Q : Int) = (Q : Int) := wrap32 Q hQB
      have fq2 : IntKind.u64.wrap (Q : Int) = (Q : Int) := wrap_mod _ _ (by rw [B32_eq] at hQB; omega)
      have fq3 : (Q : Int) % 4294967296 = (Q : Int) := by rw [B32_eq] at hQB; omega
      have hQR : L * B32 + x = Q * d + R := by rw [B32_eq, ← hT, hQ, hRr, Nat.mul_comm]; exact (Nat.div_add_mod T d).symm
      have HS : Hid (DSm w w.heap.size n d xs j R (qs.set j Q) (wr.setCell ⟨w.heap.size, j, none⟩ (V Q))) := by
        have hR := HR.out
        have hs := hR.row.set j Q hjn hQB
        rw [Nat.zero_add] at hs
        refine ⟨bSet0 hR.bel _ _ _ (Nat.le_refl _), hs, hRd, ?_⟩
        rw [drop_set_self qs j Q (by rw [hR.row.len]; exact hjn), valB_cons, valB_drop B32 xs j (by rw [HLX.out]; exact hjn), ← hx]
        exact divsmall_abs hR.val hQR
      clear hz HR hc hx hcx0 hQ hRr hT hlh hQR hL hdB hxb hRd hQB
      go_wp2_with fail
      go_roundg j
      case measure => omega
      case rel => exact ⟨R, (j : Int) - 1, qs.set j Q, rfl, rfl, rfl, by omega, HS⟩
theorem At32.growN {w w' : World} {p : Option Addr} {n c : Nat} {xs : List Nat} {row : Option Nat} (h : At32 w p n c xs) (hg : w.grownBy w' row) (hne : ∀ g off, p = some ⟨g, off, none⟩ → n ≠ 0 → some g ≠ row) : At32 w' p n c xs := by
  refine ⟨h.len, h.cap, h.big, h.dig, ?_⟩
  rcases h.cells with h1 | ⟨g', off, h1, h2⟩
  · exact .inl h1
  · by_cases h0 : n = 0
    · exact .inl h0
    · exact .inr ⟨g', off, h1, fun j hj => hg.cell (h2 j hj) (hne g' off h1 h0)⟩
theorem Tryd.infoU8 : (Tryd.prog.info? 5).map (fun i => (i.zero, i.size, i.bytes)) = some (some (.int .u8 0), 1, 1) := by kernel_rfl
structure OwB8 (w : World) (hB : Nat) (lv : Value) (k : Nat) (l : List UInt8) : Prop where
  row : w.ownsRow hB 5 1 lv k (Lib.byteCells l)
theorem OwB8.below {w w' : World} {hB k : Nat} {lv : Value} {l : List UInt8} (h : OwB8 w hB lv k l) (hb : Below w.heap.size w w') : OwB8 w' hB lv k l := by
  refine ⟨⟨h.row.1, ?_⟩⟩
  rcases h.row.2 with h2 | ⟨g, cap, cur, h2, h3, h4, h5⟩
  · exact .inl h2
  · have hg : g < w.heap.size := by
      rcases Nat.lt_or_ge g w.heap.size with h6 | h6
      · exact h6
      · rw [Array.getElem?_eq_none h6] at h4; cases h4
    exact .inr ⟨g, cap, cur, h2, h3, (hb.block _ hg).trans h4, h5⟩
theorem OwB8.len {w : World} {hB k : Nat} {lv : Value} {l : List UInt8} (h : OwB8 w hB lv k l) : l.length = k := by
  have h1 := h.row.1
  rw [Lib.byteCells_length] at h1; omega
theorem OwB8.cells {w : World} {hB k : Nat} {lv : Value} {l : List UInt8} (h : OwB8 w hB lv k l) : ∃ p cap, lv = .slice p k cap ∧ k ≤ cap ∧ cap ≤ maxLen ∧ ∀ j, j < k → ∃ g, p = some ⟨g, 0, none⟩ ∧ w.cell? ⟨g, j, none⟩ = some (.int .u8 ((l.getD j 0).toNat : Int)) := by
  rcases h.row.2 with ⟨h1, h2⟩ | ⟨g, cap, cur, h1, h2, h3, h4, h4b, h5⟩
  · exact ⟨none, 0, by rw [h1, h2], by omega, by unfold maxLen; omega, fun j hj => by omega⟩
  · refine ⟨_, cap, h1, h4, h4b, fun j hj => ⟨g, rfl, ?_⟩⟩
    have h6 := h.row
    have hl := h.len
    rw [h1] at h6
    rw [h6.cellAt j (by omega)]
    unfold Lib.byteCells
    rw [List.getElem?_map, List.getElem?_eq_getElem (by omega), List.getD_eq_getElem?_getD, List.getElem?_eq_getElem (by omega)]
    rfl
theorem ten_lt {k a K : Nat} (h : 10 ^ k ≤ a) (hK : a < 2 ^ K) : k < K := by
  have h1 : (2 : Nat) ^ k ≤ 10 ^ k := Nat.pow_le_pow_left (by decide) k
  exact (Nat.pow_lt_pow_iff_right (by decide : 1 < 2)).1 (Nat.lt_of_le_of_lt (Nat.le_trans h1 h) hK)
theorem takeB (l : List UInt8) (n : Nat) (h : n < l.length) : l.take (n + 1) = l.take n ++ [l.getD n 0] := by
  rw [List.take_add_one, List.getD_eq_getElem?_getD, List.getElem?_eq_getElem h]; rfl
theorem dropB (l : List UInt8) (n g : Nat) (h : g < n) (hn : n ≤ l.length) : ((l.take n).drop g).reverse = ((l.take n).drop (g + 1)).reverse ++ [l.getD g 0] := by
  have hl : g < (l.take n).length := by rw [List.length_take]; omega
  rw [List.drop_eq_getElem_cons hl, List.reverse_cons, List.getD_eq_getElem?_getD, List.getElem?_eq_getElem (by omega), List.getElem_take]; rfl
theorem dstep {T r U s a : Nat} (h : s + T * (r + 10 * U) = a) : r % 10 * T + s + T * 10 * (r / 10 + U) = a := by
  have e : r + 10 * U = r % 10 + 10 * (r / 10 + U) := by omega
  rw [e, Nat.mul_add, ← Nat.mul_assoc] at h
  rw [Nat.mul_comm (r % 10) T]
  omega
theorem rev_snoc (l : List UInt8) (c : UInt8) : dval (l ++ [c]).reverse = (c.toNat - 48) * 10 ^ l.length + dval l.reverse := by
  rw [List.reverse_append, List.reverse_singleton, List.singleton_append, dval_cons, List.length_reverse]
theorem digits_ok {p : Option Addr} {m c a K : Nat} {zs : List Nat} {w : World} (h : At32 w p m c zs) (hN : Nf B32 zs a) (h0 : a ≠ 0) (hm : m ≤ 100000) (hK : K ≤ 100000) (ha : a < 2 ^ K) :
    Calls Tryd.prog 34 #[.slice p m c] w fun en w' => en = .returned (.string ⟨(Lib.decDigits a).toArray⟩) ∧ Below w.heap.size w w' := by
  obtain ⟨i0, hi, hz0, hz1, hz2⟩ := info_parts Tryd.infoU8
  have hm0 : m ≠ 0 := fun e => h0 (by rw [← hN.zero_iff B32_one, ← List.length_eq_zero_iff, h.len, e])
  have hm1 : ((m : Int) == 0) = false := by simp; omega
  have HA : Hid (a ≠ 0 ∧ m ≤ 100000 ∧ K ≤ 100000 ∧ a < 2 ^ K) := ⟨h0, hm, hK, ha⟩
  have AT0 : Hid (At32 w p m c zs ∧ Nf B32 zs a) := ⟨h, hN⟩
  clear h hN h0 hm hK ha
  go_enter Tryd.func34, Tryd.ntmps34
  go_wp2_with fail
  clear hm1 hm0
  refine (rnorm_any AT0.out.1 (by have := HA.out; omega)).mono ?_
  rintro e v1 ⟨g5, rfl, hg5, hblk, hb1⟩
  have hN5 := Nf.trim AT0.out.1.dig
  rw [AT0.out.2.val] at hN5
  have hl5 := trimL_length_le zs
  rw [AT0.out.1.len] at hl5
  have hA5 : At32 v1 (some ⟨g5, 0, none⟩) (trimL zs).length (trimL zs).length (trimL zs) := hblk.at_ hN5.dig rfl (by have := HA.out; unfold maxLen; omega)
  generalize trimL zs = us at *
  obtain ⟨mu, hmu⟩ : ∃ m, m = us.length := ⟨_, rfl⟩
  rw [← hmu] at hl5 hA5
  rw [← hmu]
  have AT1 : Hid (At32 v1 (some ⟨g5, 0, none⟩) mu mu us ∧ Nf B32 us a ∧ mu ≤ 100000 ∧ g5 < v1.heap.size) := ⟨hA5, hN5, by have := HA.out; omega, hblk.lt⟩
  clear hblk hN5 hl5 hA5 hmu hg5 AT0
  go_wp2_with fail
  have hbw := hb1
  clear hb1
  go_loopg [3, 4] a (fun gk lowv dv wr => ∃ (g m1 k : Nat) (l : List UInt8) (zs1 : List Nat), dv = .slice (some ⟨g, 0, none⟩) m1 m1 ∧ At32 wr (some ⟨g, 0, none⟩) m1 m1 zs1 ∧ Nf B32 zs1 gk ∧ m1 ≤ 100000 ∧ OwB8 wr w.heap.size lowv k l ∧ (∀ c, c ∈ l → IsDg c) ∧ dval l.reverse + 10 ^ k * gk = a ∧ k ≤ 100100 ∧ some g ≠ lowv.ownBlock ∧ g < wr.heap.size ∧ Below w.heap.size w wr)
  case atStart => exact ⟨g5, mu, 0, [], us, rfl, AT1.out.1, AT1.out.2.1, AT1.out.2.2.1, ⟨⟨rfl, .inl ⟨rfl, rfl⟩⟩⟩, fun c hc => absurd hc (by simp), by show 0 + 10 ^ 0 * a = a; rw [Nat.pow_zero]; omega, by omega, fun h => (by cases h), AT1.out.2.2.2, hbw⟩
  case round =>
    obtain ⟨g, m1, k, l, zs1, rfl, xA, xN, xm, xO, xd, xv, xk, xs2, xg, hbr⟩ := hrel
    clear hbw AT1
    have hbw := hbr
    have AT1 : Hid (At32 wr (some ⟨g, 0, none⟩) m1 m1 zs1 ∧ Nf B32 zs1 gk ∧ m1 ≤ 100000) := ⟨xA, xN, xm⟩
    have OW : Hid (OwB8 wr w.heap.size u3 k l) := xO
    have HE : Hid ((∀ c, c ∈ l → IsDg c) ∧ dval l.reverse + 10 ^ k * gk = a ∧ k ≤ 100100) := ⟨xd, xv, xk⟩
    have hmx : m1 = 0 ↔ gk = 0 := by rw [← xN.zero_iff B32_one, ← xA.len]; exact List.length_eq_zero_iff
    clear xA xN xO xd xv xs2 hbr xm xk xg
    by_cases hm1 : m1 = 0
    · obtain rfl : gk = 0 := hmx.1 hm1
      clear hmx
      subst hm1
      obtain ⟨pp, cc, rfl, hcc, hcm, hcl⟩ := OW.out.cells
      have HC : Hid (∀ j, j < k → ∃ g, pp = some ⟨g, 0, none⟩ ∧ wr.cell? ⟨g, j, none⟩ = some (.int .u8 ((l.getD j 0).toNat : Int))) := hcl
      have HLL : Hid (l.length = k ∧ k ≤ cc ∧ cc ≤ maxLen) := ⟨OW.out.len, hcc, hcm⟩
      clear hcl AT1 OW hcc hcm
      go_wp2_with fail
      obtain ⟨V0, hV0⟩ : ∃ V, V = wr := ⟨_, rfl⟩
      subst hV0
      have hbw0 := hbw
      clear hbw
      go_loopg [3] k (fun gk lowv wr => lowv = .slice pp gk cc ∧ gk ≤ k ∧ dval (l.take gk).reverse = a ∧ wr = V0)
      case atStart => exact ⟨rfl, Nat.le_refl _, by rw [List.take_of_length_le (by rw [HLL.out.1]; exact Nat.le_refl _)]; have := HE.out.2.1; omega, rfl⟩
      case round =>
        obtain ⟨rfl, hgk, hval, rfl⟩ := hrel
        have hg0 : gk ≠ 0 := fun e => HA.out.1 (by rw [← hval, e]; rfl)
        obtain ⟨g1, rfl⟩ : ∃ g, gk = g + 1 := ⟨gk - 1, by omega⟩
        obtain ⟨gl, rfl, hcj⟩ := HC.out g1 (by omega)
        obtain ⟨cb, hcb⟩ : ∃ c, c = l.getD g1 0 := ⟨_, rfl⟩
        rw [← hcb] at hcj
        have hdcb : IsDg cb := by rw [hcb, List.getD_eq_getElem?_getD, List.getElem?_eq_getElem (by rw [HLL.out.1]; omega)]; exact HE.out.1 _ (List.getElem_mem _)
        have hvt : dval (l.take (g1 + 1)).reverse = (cb.toNat - 48) * 10 ^ g1 + dval (l.take g1).reverse := by rw [takeB l g1 (by rw [HLL.out.1]; omega), rev_snoc, ← hcb, List.length_take, HLL.out.1, Nat.min_eq_left (by omega)]
        have HVT : Hid (dval (l.take (g1 + 1)).reverse = a ∧ dval (l.take (g1 + 1)).reverse = (cb.toNat - 48) * 10 ^ g1 + dval (l.take g1).reverse ∧ IsDg cb ∧ cb = l.getD g1 0) := ⟨hval, hvt, hdcb, hcb⟩
        have hcc2 : g1 + 1 ≤ cc := by have := HLL.out; omega
        have hcc3 : cc ≤ 9223372036854775807 := HLL.out.2.2
        obtain ⟨tb, htb⟩ : ∃ t, t = cb.toNat := ⟨_, rfl⟩
        rw [← htb] at hcj
        have hk100 := HE.out.2.2
        clear hvt hval hdcb hg0 hcb
        by_cases h48 : tb = 48
        · have hq : ((tb : Int) == 48) = true := by simp; omega
          have hq2 : (tb == 48) = true := by simp; omega
          have H48 : Hid (tb = 48 ∧ tb = cb.toNat) := ⟨h48, htb⟩
          clear h48 htb
          go_wp2_with fail
          go_roundg g1
          case measure => omega
          case rel => exact ⟨rfl, by omega, by have h1 := HVT.out; have h2 := H48.out; rw [h1.2.1, ← h2.2, h2.1] at h1; simpa using h1.1, rfl⟩
        · have hq : ((tb : Int) == 48) = false := by simp; omega
          have hq2 : (tb == 48) = false := by simp; omega
          have H48 : Hid (tb ≠ 48 ∧ tb = cb.toNat) := ⟨h48, htb⟩
          clear h48 htb
          obtain ⟨B0, HB0⟩ : ∃ B, Hid (B = wr.heap.size) := ⟨_, rfl⟩
          go_wp2_with (at_make; refine wpList_make_room _ rfl _ _ 58 rfl wr.heap.size 5 i0 (.int .u8 0) 1 Tryd.underlying58 hi hz0 hz1 _ _ _ _ 0 (g1 + 1) rfl rfl (by omega) (by omega) (by omega) (by rw [hz2]; omega) (by unfold maxLen; omega) (Nat.le_refl _) ?_; intro W1 hown hgrow)
          have OS : Hid (OwB8 W1 B0 (.slice (some ⟨wr.heap.size, 0, none⟩) 0 (g1 + 1)) 0 []) := by rw [HB0.out]; exact ⟨hown⟩
          have HBW : Hid (Below B0 wr W1) := by rw [HB0.out]; exact ⟨hgrow.os, hgrow.tape, hgrow.output, hgrow.size, fun k hk => hgrow.block k hk (by simp)⟩
          clear hown hgrow
          obtain ⟨V1, hV1⟩ : ∃ V, V = wr := ⟨_, rfl⟩
          subst hV1
          go_wp2_with fail
          go_loopg [8, 9] (g1 + 1) (fun gk sv iv wr => ∃ z : Int, iv = .int .i64 z ∧ z = (gk : Int) - 1 ∧ gk ≤ g1 + 1 ∧ OwB8 wr B0 sv (g1 + 1 - gk) ((l.take (g1 + 1)).drop gk).reverse ∧ Below B0 V1 wr)
          case atStart => exact ⟨(g1 : Int), rfl, by omega, Nat.le_refl _, by rw [Nat.sub_self, List.drop_of_length_le (by rw [List.length_take]; omega)]; exact OS.out, HBW.out⟩
          case round =>
            obtain ⟨z, rfl, hz, hgk2, xO, hbr⟩ := hrel
            clear OS HBW hcj
            have OS : Hid (OwB8 wr B0 u8 (g1 + 1 - gk) ((l.take (g1 + 1)).drop gk).reverse) := xO
            have hbw := hbr
            clear xO hbr
            cases gk with
            | zero =>
              obtain rfl : z = -1 := by omega
              obtain ⟨ps, cs, rfl, hcs1, hcs2, hcs3⟩ := OS.out.cells
              obtain ⟨gs, rfl, -⟩ := hcs3 0 (by omega)
              obtain ⟨R, hR⟩ : ∃ R, R = ((l.take (g1 + 1)).drop 0).reverse := ⟨_, rfl⟩
              rw [← hR] at hcs3
              have hRl : R.length = g1 + 1 := by have := OS.out.len; rw [← hR] at this; omega
              have hR2 : R = Lib.decDigits a := by
                rw [hR, List.drop_zero]
                have h1 := HVT.out
                rw [← h1.1]
                refine (dec_of _ _ rfl ?_ ?_ ?_).symm
                · intro c hc; exact HE.out.1 c (List.mem_of_mem_take (List.mem_reverse.1 hc))
                · intro c r e; rw [takeB l g1 (by rw [HLL.out.1]; omega), List.reverse_append, ← h1.2.2.2] at e; simp at e; rw [← e.1]; intro e2; exact H48.out.1 (by rw [H48.out.2, e2]; rfl)
                · intro e; have := congrArg List.length e; rw [List.length_reverse, List.length_take, HLL.out.1] at this; simp at this; omega
              rw [Nat.sub_zero] at hcs1 hcs3 OS
              have HRR : Hid (R = Lib.decDigits a) := hR2
              have hcv : (convert 58 9 (.slice (some ⟨gs, 0, none⟩) (g1 + 1) cs)).run Tryd.prog wr = .ok (.string ⟨R.toArray⟩) wr := by
                have h := run_convert_bytes_back (P := Tryd.prog) wr 58 9 5 ⟨gs, 0, none⟩ cs R Tryd.underlying58 Tryd.underlying5 Tryd.underlying9 (fun j hj => by
                  rw [Lib.add_plain, Nat.zero_add]
                  obtain ⟨g9, e9, h9⟩ := hcs3 j (by omega)
                  simp only [Option.some.injEq, Addr.mk.injEq] at e9
                  rw [← e9.1] at h9
                  rw [h9, List.getD_eq_getElem?_getD, List.getElem?_eq_getElem hj]; rfl)
                rw [hRl] at h
                exact h
              clear hR hR2 hRl hcs1 hcs2 hcs3 OS hz hgk2
              rw [Nat.sub_zero]
              go_wp2_with fail
              go_ret
              exact ⟨by rw [← HRR.out]; rfl, Below.on hbw0 (HB0.out ▸ hbw)⟩
            | succ g0 =>
              obtain rfl : z = (g0 : Int) := by omega
              obtain ⟨g9, e9, h9⟩ := HC.out g0 (by omega)
              simp only [Option.some.injEq, Addr.mk.injEq, and_true] at e9
              subst e9
              obtain ⟨tg, htg⟩ : ∃ t, t = (l.getD g0 0).toNat := ⟨_, rfl⟩
              rw [← htg] at h9
              have hcg : wr.cell? ⟨gl, g0, none⟩ = some (.int .u8 (tg : Int)) := (hbw.cell (p := ⟨gl, g0, none⟩) (by rw [HB0.out]; exact World.block_lt_of_cell? V1 _ h9)).trans h9
              have HTG : Hid (tg = (l.getD g0 0).toNat) := htg
              have HBK : Hid (∀ b, u8.ownBlock = some b → B0 ≤ b ∧ b < wr.heap.size) := OS.out.row.lt
              have OWA : Hid ((wr.alloc (.cells #[.int .u8 (tg : Int)] 5)).ownsRow B0 5 1 u8 (g1 + 1 - (g0 + 1)) (Lib.byteCells ((l.take (g1 + 1)).drop (g0 + 1)).reverse)) := OS.out.row.alloc _
              have HSZ : Hid (B0 ≤ (wr.alloc (.cells #[.int .u8 (tg : Int)] 5)).heap.size) := by have := hbw.size; have := HB0.out; show _ ≤ _; simp; omega
              clear h9 htg
              have hd1 : decide ((0 : Int) ≤ (g0 : Int)) = true := decide_eq_true (by omega)
              have hg0b : g0 < g1 + 1 := by omega
              clear hz
              go_wp2_with (at_builtin; refine wpList_append_own_at _ rfl _ _ 58 rfl B0 5 i0 (.int .u8 0) 1 1 Tryd.underlying58 hi hz0 hz1 hz2 rfl (by decide) _ _ _ rfl OWA.out ⟨wr.heap.size, 0, none⟩ 1 1 [.int .u8 (tg : Int)] rfl rfl (cell_one_new _ _ _) (by intro u hu; simp at hu; subst hu; rfl) (by unfold maxLen; omega) (by omega) HSZ.out ?_; intro v6 w6 hown6 hgr6 hnil6 hat6)
              go_roundg g0
              case measure => omega
              case rel =>
                have hbwa : Below B0 V1 (wr.alloc (.cells #[.int .u8 (tg : Int)] 5)) := hbw.trans ((below1 wr _).mono (by rw [HB0.out]; have := hbw.size; omega))
                refine ⟨(g0 : Int) - 1, by first | rfl | go_num, rfl, by omega, ⟨?_⟩, hbwa.grown hgr6 HSZ.out fun b hb => (HBK.out b hb).1⟩
                rw [dropB l (g1 + 1) g0 (by omega) (by rw [HLL.out.1]; omega), Lib.byteCells_append]
                rw [show g1 + 1 - g0 = g1 + 1 - (g0 + 1) + 1 by omega]
                unfold Lib.byteCells at hown6 ⊢
                rw [List.map_singleton, ← HTG.out]; exact hown6
    · have hx0 : 1 ≤ gk := by omega
      have hk1 : k ≤ 100000 := by have h1 := HE.out.2.1; have h2 := HA.out; have h3 : 10 ^ k * 1 ≤ 10 ^ k * gk := Nat.mul_le_mul_left _ hx0; have h4 := ten_lt (k := k) (a := a) (K := K) (by omega) h2.2.2.2; omega
      have hd1 : decide ((0 : Int) < (m1 : Int)) = true := decide_eq_true (by omega)
      have hd2 : decide (0 < m1) = true := decide_eq_true (by omega)
      clear hmx hm1
      go_wp2_with fail
      clear hd1 hd2
      have HBK : Hid (∀ b, u3.ownBlock = some b → w.heap.size ≤ b ∧ b < wr.heap.size) := OW.out.row.lt
      refine (rdivsmall3 AT1.out.1 (by have := AT1.out.2.2; omega) 1000000000 (by decide) (by decide)).mono ?_
      rintro e v1 ⟨g2, m2, zs2, rr, rfl, hg2, hg2l, hA2, hN2, hm2, hrr, hb1⟩
      rw [AT1.out.2.1.val] at hN2 hrr
      obtain ⟨r, hr⟩ : ∃ r, r = gk % 1000000000 := ⟨_, rfl⟩
      obtain ⟨q, hq⟩ : ∃ q, q = gk / 1000000000 := ⟨_, rfl⟩
      rw [← hr] at hrr
      rw [← hq] at hN2
      subst hrr
      have HQ : Hid (r < 10 ^ 9 ∧ gk = r + 10 ^ 9 * q ∧ 1 ≤ gk ∧ q < gk) := ⟨by rw [hr]; exact Nat.mod_lt _ (by decide), by rw [hr, hq]; exact (Nat.mod_add_div _ _).symm, hx0, by rw [hq]; exact Nat.div_lt_self hx0 (by decide)⟩
      have AT2 : Hid (At32 v1 (some ⟨g2, 0, none⟩) m2 m2 zs2 ∧ Nf B32 zs2 q ∧ m2 ≤ 100000 ∧ g2 < v1.heap.size) := ⟨hA2, hN2, by have := AT1.out.2.2; omega, hg2l⟩
      have OW1 : Hid (OwB8 v1 w.heap.size u3 k l) := OW.out.below hb1
      have HNE : Hid (some g2 ≠ u3.ownBlock) := fun h => by have := HBK.out g2 h.symm; omega
      have hbw1 := Below.on hbw hb1
      clear hA2 hN2 hm2 AT1 OW hbw hb1 HBK hg2 hg2l hr hq hx0
      obtain ⟨x, hx⟩ : ∃ x, x = gk := ⟨_, rfl⟩
      subst hx
      obtain ⟨V0, hV0⟩ : ∃ V, V = wr := ⟨_, rfl⟩
      subst hV0
      go_wp2_with fail
      go_loopg [3, 6, 7] 9 (fun gk lowv rv iv wr => ∃ (i k1 r1 : Nat) (l1 : List UInt8), i + gk = 9 ∧ rv = .int .u32 (r1 : Int) ∧ iv = .int .i64 (i : Int) ∧ OwB8 wr w.heap.size lowv k1 l1 ∧ (∀ c, c ∈ l1 → IsDg c) ∧ dval l1.reverse + 10 ^ k1 * (r1 + 10 ^ gk * q) = a ∧ r1 < 10 ^ gk ∧ k1 + gk = k + 9 ∧ At32 wr (some ⟨g2, 0, none⟩) m2 m2 zs2 ∧ some g2 ≠ lowv.ownBlock ∧ g2 < wr.heap.size ∧ Below w.heap.size w wr)
      case atStart => exact ⟨0, k, r, l, by omega, rfl, rfl, OW1.out, HE.out.1, by rw [← HQ.out.2.1]; exact HE.out.2.1, HQ.out.1, rfl, AT2.out.1, HNE.out, AT2.out.2.2.2, hbw1⟩
      case round =>
        obtain ⟨i, k1, r1, l1, hig, rfl, rfl, xO, xd, xv, xr, xk, xA, xs2, xg, hbr⟩ := hrel
        clear OW1 hbw1 HNE
        have hbw := hbr
        have OW : Hid (OwB8 wr w.heap.size u3 k1 l1) := xO
        have AT3 : Hid (At32 wr (some ⟨g2, 0, none⟩) m2 m2 zs2 ∧ g2 < wr.heap.size ∧ some g2 ≠ u3.ownBlock) := ⟨xA, xg, xs2⟩
        have HI : Hid ((∀ c, c ∈ l1 → IsDg c) ∧ dval l1.reverse + 10 ^ k1 * (r1 + 10 ^ gk * q) = a ∧ r1 < 10 ^ gk ∧ k1 + gk = k + 9 ∧ i + gk = 9) := ⟨xd, xv, xr, xk, hig⟩
        clear xO xd xv xr xk xA xs2 xg hbr
        by_cases hi9 : i < 9
        · obtain ⟨g1, rfl⟩ : ∃ g, gk = g + 1 := ⟨gk - 1, by omega⟩
          have hr32 : r1 < 1000000000 := Nat.lt_of_lt_of_le HI.out.2.2.1 (Nat.pow_le_pow_right (by decide) (by omega : g1 + 1 ≤ 9))
          have hk1b : k1 ≤ 100009 := by have := HI.out.2.2.2.1; omega
          have HBK : Hid (∀ b, u3.ownBlock = some b → w.heap.size ≤ b ∧ b < wr.heap.size) := OW.out.row.lt
          have OWA : Hid ((wr.alloc (.cells #[.int .u8 ((48 + r1 % 10 : Nat) : Int)] 5)).ownsRow w.heap.size 5 1 u3 k1 (Lib.byteCells l1)) := OW.out.row.alloc _
          have HSZ : Hid (w.heap.size ≤ (wr.alloc (.cells #[.int .u8 ((48 + r1 % 10 : Nat) : Int)] 5)).heap.size ∧ (wr.alloc (.cells #[.int .u8 ((48 + r1 % 10 : Nat) : Int)] 5)).heap.size = wr.heap.size + 1) := ⟨by have := hbw.size; simp; omega, by simp⟩
          have hd1 : decide ((i : Int) < 9) = true := decide_eq_true (by omega)
          have hd2 : decide (i < 9) = true := decide_eq_true hi9
          have wa : IntKind.u32.wrap (48 + (r1 : Int) % 10) = ((48 + r1 % 10 : Nat) : Int) := by rw [IntKind.wrap_u32]; omega
          have wb : IntKind.u8.wrap ((48 + r1 % 10 : Nat) : Int) = ((48 + r1 % 10 : Nat) : Int) := by rw [IntKind.wrap_u8]; omega
          go_wp2_with (at_builtin; refine wpList_append_own_at _ rfl _ _ 58 rfl w.heap.size 5 i0 (.int .u8 0) 1 1 Tryd.underlying58 hi hz0 hz1 hz2 rfl (by decide) _ _ _ rfl OWA.out ⟨wr.heap.size, 0, none⟩ 1 1 [.int .u8 ((48 + r1 % 10 : Nat) : Int)] rfl rfl (cell_one_new _ _ _) (by intro u hu; simp at hu; subst hu; rfl) (by unfold maxLen; omega) (by omega) HSZ.out.1 ?_; intro v6 w6 hown6 hgr6 hnil6 hat6)
          go_roundg g1
          case measure => omega
          case rel =>
            have hii := HI.out
            have hs := HSZ.out
            have hbk := HBK.out
            have hc : (UInt8.ofNat (48 + r1 % 10)).toNat = 48 + r1 % 10 := dg_nat (Nat.mod_lt _ (by decide))
            have hbwa : Below w.heap.size w (wr.alloc (.cells #[.int .u8 ((48 + r1 % 10 : Nat) : Int)] 5)) := Below.on hbw (below1 wr _)
            have hll := OW.out.len
            refine ⟨i + 1, k1 + 1, r1 / 10, l1 ++ [UInt8.ofNat (48 + r1 % 10)], by omega, by first | rfl | go_num, by first | rfl | go_num, ⟨?_⟩, ?_, ?_, ?_, by omega, (AT3.out.1.below (below1 wr _)).growN hgr6 ?_, ?_, ?_, ?_⟩
            · rw [Lib.byteCells_append]; unfold Lib.byteCells at hown6 ⊢; rw [List.map_singleton, hc]; exact hown6
            · intro c hc1; rcases List.mem_append.1 hc1 with h1 | h1
              · exact hii.1 c h1
              · rw [List.mem_singleton.1 h1]; unfold IsDg; rw [hc]; have := Nat.mod_lt r1 (by decide : 10 > 0); omega
            · rw [rev_snoc, hc, hll, Nat.pow_succ, show 48 + r1 % 10 - 48 = r1 % 10 by omega]
              refine dstep ?_
              have h1 := hii.2.1
              rw [Nat.pow_succ, Nat.mul_comm (10 ^ g1) 10, Nat.mul_assoc] at h1
              exact h1
            · have h1 := hii.2.2.1; rw [Nat.pow_succ] at h1; omega
            · intro g off e0 _; simp only [Option.some.injEq, Addr.mk.injEq] at e0; rw [← e0.1]; exact AT3.out.2.2
            · intro h; rcases hat6 with h3 | h3
              · rw [h3] at h; exact AT3.out.2.2 h
              · rw [h3] at h; simp at h; have := AT3.out.2.1; omega
            · have h1 := hgr6.size; simp at h1; have h2 := AT3.out.2.1; omega
            · exact hbwa.grown hgr6 hbwa.size fun b hb => (hbk b hb).1
        · obtain rfl : i = 9 := by have := HI.out; omega
          obtain rfl : gk = 0 := by omega
          have hi1 := HI.out
          obtain rfl : r1 = 0 := by have h1 := hi1.2.2.1; rw [Nat.pow_zero] at h1; omega
          have HF : Hid ((∀ c, c ∈ l1 → IsDg c) ∧ dval l1.reverse + 10 ^ k1 * q = a ∧ k1 = k + 9) := ⟨hi1.1, by have h1 := hi1.2.1; rw [Nat.pow_zero, Nat.one_mul, Nat.zero_add] at h1; exact h1, by omega⟩
          clear hi1 hi9 hig HI
          go_wp2_with fail
          go_roundg q
          case measure => exact HQ.out.2.2.2
          case rel => exact ⟨g2, m2, k1, l1, zs2, rfl, AT3.out.1, AT2.out.2.1, AT2.out.2.2.1, OW.out, HF.out.1, HF.out.2.1, by have := HF.out.2.2; omega, AT3.out.2.2, AT3.out.2.1, hbw⟩
theorem twin3_any {p : Option Addr} {n c : Nat} {xs : List Nat} {w : World} (h : At w p n c xs) (hn : n ≤ 35184372088832) :
    Calls Tryd.prog 10 #[.slice p n c] w fun e w' =>
      ∃ g, e = .returned (.slice (some ⟨g, 0, none⟩) n n) ∧ w.heap.size ≤ g ∧ Blk w' g xs ∧ Below w.heap.size w w' := by
  obtain ⟨i0, hi, hz0, hz1, hz2⟩ := info_parts Tryd.infoU64
  have hl := h.len
  go_enter Tryd.func10, Tryd.ntmps10
  go_wp2_with (first
    | (at_make; refine wpList_make_full _ rfl _ _ 22 rfl w.heap.size 26 i0 (.int .u64 0) 1 Tryd.underlying22 hi hz0 hz1 _ _ _ _ n rfl rfl (by omega) (by omega) (by rw [hz2]; omega) (by unfold maxLen; omega) (Nat.le_refl _) ?_; intro w1 hown hgrow; have hb := made_blk hown hgrow; clear hown hgrow)
    | (refine wpList_copy_splice rfl (.tmp 7) (.tmp 8) 22 22 rfl 26 Tryd.underlying22 Tryd.sizeU64 (some ⟨w.heap.size, 0, none⟩) p n n n c rfl rfl w.heap.size 0 (cellsU (List.replicate n 0)) 26 hb.1 (cellsU xs) (by rw [cellsU_length, hl]; exact (Nat.min_self n).symm) (fun h0 => ⟨rfl, (h.below hb.2).src (by rw [cellsU_length] at h0; omega)⟩) (by simp [cellsU_length]; omega) (cellsU_one xs) w.heap.size w hb.2 (Nat.le_refl _) ?_; intro w2 hg2 hb2))
  go_ret
  refine ⟨_, rfl, Nat.le_refl _, ?_, hb2⟩
  rw [splice_cellsU, hl, Nat.sub_self, List.replicate_zero, List.append_nil] at hg2
  exact hg2
def K260 : Nat := 16640
theorem ten3 : (10 : Nat) ^ TXN ≤ 2 ^ K260 := by
  obtain ⟨q, hq⟩ : ∃ q : Nat, q = 1634 := ⟨_, rfl⟩
  have h1 : (10 : Nat) ^ TXN ≤ 10 ^ (3 * q) := Nat.pow_le_pow_right (by decide) (by unfold TXN; omega)
  have h2 : ((10 : Nat) ^ 3) ^ q ≤ (2 ^ 10) ^ q := Nat.pow_le_pow_left (by decide) _
  rw [← Nat.pow_mul, ← Nat.pow_mul] at h2
  exact Nat.le_trans h1 (Nat.le_trans h2 (Nat.pow_le_pow_right (by decide) (by unfold K260; omega)))
theorem txl_260 {xs : List Nat} (hf : formB xs = true) (h : 260 < xs.length) (hd : Dig B64 xs) : ¬ valB B64 xs < TXL := by
  have h1 := valB_pos B64_pos (zs := xs) (fun e => by rw [e] at h; simp at h) (formB_nf hf hd).1.top
  rw [B64_pow] at h1
  have h2 : (2 : Nat) ^ K260 ≤ 2 ^ (64 * (xs.length - 1)) := Nat.pow_le_pow_right (by decide) (by unfold K260; omega)
  have h3 := ten3
  unfold TXL
  generalize (2 : Nat) ^ K260 = A at *
  generalize (2 : Nat) ^ (64 * (xs.length - 1)) = B at *
  generalize (10 : Nat) ^ TXN = C at *
  omega
theorem digits_z {p : Option Addr} {c : Nat} {w : World} :
    Calls Tryd.prog 34 #[.slice p 0 c] w fun en w' => en = .returned (.string ⟨(Lib.decDigits 0).toArray⟩) ∧ Below w.heap.size w w' := by
  go_enter Tryd.func34, Tryd.ntmps34
  go_wp2_with fail
  go_ret
  refine ⟨?_, Below.refl _ _⟩
  rw [Lib.decDigits_one (by decide)]; rfl
theorem doctext_ok {p : Option Addr} {m c : Nat} {xs : List Nat} {w : World} (h : At w p m c xs) :
    Calls Tryd.prog 20 #[.slice p m c] w fun en w' => ∃ s er, en = .returned (.tuple #[.string s, .int .i64 er]) ∧ TxA xs s er ∧ Below w.heap.size w w' := by
  have AT : Hid (At w p m c xs) := h
  have hl := h.len
  cases hf : formB xs with
  | false =>
    have HF : Hid (formB xs = false) := hf
    go_enter Tryd.func20, Tryd.ntmps20
    go_wp2_with fail
    refine (docform_any AT.out).mono ?_
    rintro e w1 ⟨rfl, rfl⟩
    clear h
    go_wp2_with fail
    go_ret2
    exact ⟨_, _, rfl, .inr (.inr ⟨HF.out, rfl, rfl⟩), Below.refl _ _⟩
  | true =>
    have hnf := formB_nf hf h.dig
    have HF : Hid (formB xs = true ∧ Nf B64 xs (valB B64 xs) ∧ xs.length ≤ 8192 ∧ xs.length = m ∧ Dig B64 xs) := ⟨hf, hnf.1, hnf.2, hl, h.dig⟩
    clear h hnf
    by_cases hm2 : 260 < m
    · have hd1 : decide ((260 : Int) < (m : Int)) = true := decide_eq_true (by omega)
      have hd2 : decide (260 < m) = true := decide_eq_true hm2
      have HNL : Hid (¬ valB B64 xs < TXL) := txl_260 hf (by omega) HF.out.2.2.2.2
      go_enter Tryd.func20, Tryd.ntmps20
      go_wp2_with fail
      refine (docform_any AT.out).mono ?_
      rintro e w1 ⟨rfl, rfl⟩
      go_wp2_with fail
      go_ret2
      exact ⟨_, _, rfl, .inr (.inl ⟨HF.out.1, HNL.out, rfl, rfl⟩), Below.refl _ _⟩
    · have hd1 : decide ((260 : Int) < (m : Int)) = false := decide_eq_false (by omega)
      have hd2 : decide (260 < m) = false := decide_eq_false hm2
      have HM : Hid (m ≤ 260) := by show _ ≤ _; omega
      go_enter Tryd.func20, Tryd.ntmps20
      go_wp2_with fail
      refine (docform_any AT.out).mono ?_
      rintro e w1 ⟨rfl, rfl⟩
      go_wp2_with fail
      clear hd1 hd2 hm2 hf
      refine (from_any AT.out (by have := HM.out; omega)).mono ?_
      rintro e v1 ⟨g1, zs, rfl, hg1, hblk, hN, hlz, hb1⟩
      have HZ : Hid (At32 v1 (some ⟨g1, 0, none⟩) zs.length zs.length zs ∧ Nf B32 zs (valB B64 xs) ∧ zs.length ≤ 520) := ⟨hblk.at_ hN.dig rfl (by have := HM.out; unfold maxLen; omega), hN, by have := HM.out; omega⟩
      clear hblk hN hlz hg1
      obtain ⟨mz, hmz2⟩ : ∃ m, Hid (m = zs.length) := ⟨_, rfl⟩
      rw [← hmz2.out] at HZ
      rw [← hmz2.out]
      clear hl
      go_wp2_with fail
      have HDG : Hid (Calls Tryd.prog 34 #[.slice (some ⟨g1, 0, none⟩) mz mz] v1 fun en w' => en = .returned (.string ⟨(Lib.decDigits (valB B64 xs)).toArray⟩) ∧ Below v1.heap.size v1 w') := by
        by_cases h0 : valB B64 xs = 0
        · have h1 : mz = 0 := by rw [hmz2.out, List.length_eq_zero_iff, HZ.out.2.1.zero_iff B32_one]; exact h0
          rw [h1, h0]; exact digits_z
        · obtain ⟨KZ, hKZ⟩ : ∃ K : Nat, K = 16640 := ⟨_, rfl⟩
          refine digits_ok (K := KZ) HZ.out.1 HZ.out.2.1 h0 (by have := HZ.out.2.2; omega) (by omega) ?_
          have h1 := valB_lt B64_pos HF.out.2.2.2.2
          rw [B64_pow] at h1
          exact Nat.lt_of_lt_of_le h1 (Nat.pow_le_pow_right (by decide) (by have := HM.out; have := HF.out; omega))
      clear hmz2
      refine HDG.out.mono ?_
      rintro e v2 ⟨rfl, hb2⟩
      have hbw := Below.on hb1 hb2
      clear hb1 hb2 HDG HZ
      obtain ⟨ds, hds⟩ : ∃ ds : ByteArray, ds = ⟨(Lib.decDigits (valB B64 xs)).toArray⟩ := ⟨_, rfl⟩
      rw [← hds]
      have hsz : ds.size = (Lib.decDigits (valB B64 xs)).length := by rw [hds]; rfl
      have HD : Hid (ds = ⟨(Lib.decDigits (valB B64 xs)).toArray⟩) := hds
      clear hds
      by_cases hlt : valB B64 xs < TXL
      · have hs : ds.size ≤ 4900 := by rw [hsz]; exact txl_le hlt
        have hd1 : decide ((4900 : Int) < (ds.size : Int)) = false := decide_eq_false (by omega)
        have hd2 : decide (4900 < ds.size) = false := decide_eq_false (by omega)
        have HLT : Hid (valB B64 xs < TXL) := hlt
        clear hsz hlt hs
        go_wp2_with fail
        go_ret2
        exact ⟨_, _, rfl, .inl ⟨HF.out.1, HLT.out, HD.out, rfl⟩, hbw⟩
      · have hs : 4900 < ds.size := by rw [hsz]; exact txl_gt hlt
        have hd1 : decide ((4900 : Int) < (ds.size : Int)) = true := decide_eq_true (by omega)
        have hd2 : decide (4900 < ds.size) = true := decide_eq_true hs
        have HLT : Hid (¬ valB B64 xs < TXL) := hlt
        clear hsz hlt hs
        go_wp2_with fail
        go_ret2
        exact ⟨_, _, rfl, .inr (.inl ⟨HF.out.1, HLT.out, rfl, rfl⟩), hbw⟩
theorem textlaw_ok {p : Option Addr} {m c : Nat} {xs : List Nat} {w : World} (h : At w p m c xs) (hn : m ≤ 35184372088832) (ht : TbP w) :
    Calls Tryd.prog 7 #[.slice p m c] w fun en w' => en = .returned (.bool true) ∧ Below w.heap.size w w' := by
  have AT : Hid (At w p m c xs ∧ TbP w ∧ m ≤ 35184372088832) := ⟨h, ht, hn⟩
  clear h ht hn
  go_enter Tryd.func7, Tryd.ntmps7
  go_wp2_with fail
  refine (twin3_any AT.out.1 AT.out.2.2).mono ?_
  rintro e v1 ⟨g1, rfl, hg1, hblk, hb1⟩
  have A1 : Hid (At v1 (some ⟨g1, 0, none⟩) m m xs) := hblk.at_ AT.out.1.dig AT.out.1.len (by have := AT.out.2.2; unfold maxLen; omega)
  clear hblk hg1
  go_wp2_with fail
  refine (text_ok A1.out (AT.out.2.1.below hb1)).mono ?_
  rintro e v2 ⟨s, er, rfl, hT, hb2⟩
  have HT : Hid (TxA xs s er) := hT
  have hbw := Below.on hb1 hb2
  clear hT hb1 hb2 A1
  go_wp2_with fail
  refine (doctext_ok (AT.out.1.below hbw)).mono ?_
  rintro e v3 ⟨s2, er2, rfl, hT, hb3⟩
  obtain ⟨rfl, rfl⟩ := HT.out.uniq hT
  have hbw2 := Below.on hbw hb3
  clear hT hb3 hbw AT HT
  go_wp2_with fail
  go_ret
  exact ⟨rfl, hbw2⟩
def lit20 : List UInt8 := [49, 56, 52, 52, 54, 55, 52, 52, 48, 55, 51, 55, 48, 57, 53, 53, 49, 54, 49, 54]
theorem lit20_dec : Lib.decDigits 18446744073709551616 = lit20 := by
  rw [show (18446744073709551616 : Nat) = dval lit20 from by decide +kernel]
  refine dec_of _ _ rfl ?_ (fun c r e => by cases e; decide) (by decide)
  have h : ∀ c ∈ lit20, 48 ≤ c.toNat ∧ c.toNat ≤ 57 := by decide +kernel
  exact h
theorem lit20_tx {s : ByteArray} {e : Int} (h : TxA [0, 1] s e) : s = ⟨lit20.toArray⟩ ∧ e = 0 := by
  have hv : valB B64 [0, 1] = 18446744073709551616 := by decide +kernel
  refine h.uniq (.inl ⟨by decide +kernel, ?_, ?_, rfl⟩)
  · rw [hv]; unfold TXL
    have h1 : (10 : Nat) ^ 20 ≤ 10 ^ TXN := Nat.pow_le_pow_right (by decide) (by decide)
    exact Nat.lt_of_lt_of_le (by decide) h1
  · rw [hv, lit20_dec]
theorem natdivTexts_w {p : Option Addr} {m c : Nat} {xs : List Nat} {w : World} (h : At w p m c xs) (hn : m ≤ 35184372088832) (ht : TbP w) :
    Calls Tryd.prog 3 #[.slice p m c] w fun en w' => en = .returned (.bool true) ∧ Below w.heap.size w w' := by
  have AT : Hid (At w p m c xs ∧ TbP w ∧ m ≤ 35184372088832) := ⟨h, ht, hn⟩
  clear h ht hn
  go_enter Tryd.func3, Tryd.ntmps3
  go_wp2_with fail
  have AT2 : Hid (At (w.alloc (.cells #[.int .u64 0, .int .u64 1] 26)) (some ⟨w.heap.size, 0, none⟩) 2 2 [0, 1]) := lit_at w _ [0, 1] 2 rfl rfl (dig2 (by decide) (by decide)) (by decide)
  have hb0 := below1 w (.cells #[.int .u64 0, .int .u64 1] 26)
  refine (text_ok AT2.out (AT.out.2.1.below hb0)).mono ?_
  rintro e v1 ⟨s, er, rfl, hT, hb1⟩
  obtain ⟨rfl, rfl⟩ := lit20_tx hT
  have hbw := Below.on hb0 hb1
  clear hT hb0 hb1 AT2
  go_wp2_with fail
  refine (textlaw_ok (AT.out.1.below hbw) AT.out.2.2 (AT.out.2.1.below hbw)).mono ?_
  rintro e v2 ⟨rfl, hb2⟩
  have hbw2 := Below.on hbw hb2
  clear hbw hb2
  go_wp2_with fail
  go_ret
  exact ⟨rfl, hbw2⟩
end Go.Proofs.YtpebgjpfgfimgaaDoor
