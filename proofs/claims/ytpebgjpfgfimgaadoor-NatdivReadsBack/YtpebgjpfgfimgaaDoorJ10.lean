import Derived.Lib.OthersKept
import Derived.Test.YtpebgjpfgfimgaaDoorJ9
import Derived.Test.YtpebgjpfgfimgaaDoorJ8
namespace Go.Proofs.YtpebgjpfgfimgaaDoor
open Go.RowKit Go.Shelf
set_option maxRecDepth 20000
set_option maxHeartbeats 0
def sb (s : ByteArray) (i : Nat) : Nat := if h : i < s.size then (s[i]'h).toNat else 0
theorem sb_eq {s : ByteArray} {i : Nat} (h : i < s.size) : (s[i]'h).toNat = sb s i := by unfold sb; rw [dif_pos h]
def IsD (s : ByteArray) (i : Nat) : Prop := 48 ≤ sb s i ∧ sb s i ≤ 57
def dN (s : ByteArray) : Nat → Nat
  | 0 => 0
  | i + 1 => dN s i * 10 + (sb s i - 48)
theorem dN_succ (s : ByteArray) (i : Nat) : dN s (i + 1) = dN s i * 10 + (sb s i - 48) := rfl
theorem dN_lt {s : ByteArray} : ∀ {i : Nat}, (∀ j, j < i → IsD s j) → dN s i < 10 ^ i
  | 0, _ => by show 0 < 1; decide
  | i + 1, h => by
    have h1 := dN_lt (fun j hj => h j (by omega) : ∀ j, j < i → IsD s j)
    have h2 := h i (by omega)
    rw [dN_succ, Nat.pow_succ]
    unfold IsD at h2
    omega
theorem ten_pow {n K : Nat} (h : 4 * n ≤ K) : (10 : Nat) ^ n ≤ 2 ^ K := by
  refine Nat.le_trans (Nat.pow_le_pow_left (by decide : 10 ≤ 2 ^ 4) n) ?_
  rw [← Nat.pow_mul]
  exact Nat.pow_le_pow_right (by decide) (by omega)
def RdOk (s : ByteArray) : Prop := s.size ≤ 4900 ∧ s.size ≠ 0 ∧ ∀ j, j < s.size → IsD s j
def rdErr (s : ByteArray) : Int := if 4900 < s.size then 7 else 8
theorem extended_ok {p : Option Addr} {m a : Nat} {w : World} (h : GN w p m a) (v x : Nat) (hv : v < B64) (hx : x < B64) {K : Nat} (hK : K ≤ 100000) (hb : a * v + x < 2 ^ K) :
    Calls Tryd.prog 21 #[.slice p m m, U v, U x] w fun en w' => ∃ q l, en = .returned (.slice q l l) ∧ GO w.heap.size w' q l (a * v + x) ∧ Below w.heap.size w w' := by
  have HA : Hid (GN w p m a) := h
  have HX : Hid (v < B64 ∧ x < B64 ∧ K ≤ 100000 ∧ a * v + x < 2 ^ K ∧ a * v < 2 ^ K) := ⟨hv, hx, hK, hb, by omega⟩
  clear h hv hx hb hK
  go_enter Tryd.func21, Tryd.ntmps21
  go_wp2_with fail
  have hbw : Below w.heap.size w w := Below.refl _ _
  refine (gn_mulw HA.out v HX.out.1 HX.out.2.2.1 HX.out.2.2.2.2).mono ?_
  rintro e v1 ⟨p1, m1, rfl, hR, hb1⟩
  have GN1 : Hid (GN v1 p1 m1 (a * v)) := hR.gn
  clear hR
  replace HA : Hid (GN v1 p m a) := HA.out.below hb1
  replace hbw := Below.on hbw hb1
  clear hb1
  clear HA
  go_wp2_with fail
  refine (gn_word x HX.out.2.1).mono ?_
  rintro e v2 ⟨p2, m2, rfl, hR, hb2⟩
  have GN2 : Hid (GN v2 p2 m2 x) := hR
  clear hR
  replace GN1 : Hid (GN v2 p1 m1 (a * v)) := GN1.out.below hb2
  replace hbw := Below.on hbw hb2
  clear hb2
  go_wp2_with fail
  have HS1 : Hid (w.heap.size ≤ v2.heap.size) := hbw.size
  refine (gn_add GN1.out GN2.out HX.out.2.2.1 HX.out.2.2.2.1).mono ?_
  rintro e v3 ⟨p3, m3, rfl, hR, hb3⟩
  have GO3 : Hid (GO v2.heap.size v3 p3 m3 (a * v + x)) := hR
  clear hR
  replace GN1 : Hid (GN v3 p1 m1 (a * v)) := GN1.out.below hb3
  replace GN2 : Hid (GN v3 p2 m2 x) := GN2.out.below hb3
  replace hbw := Below.on hbw hb3
  clear hb3
  go_wp2_with fail
  go_ret
  exact ⟨_, _, rfl, GO3.out.mono HS1.out, hbw⟩
def TxA (xs : List Nat) (s : ByteArray) (e : Int) : Prop := (formB xs = true ∧ valB B64 xs < TXL ∧ s = ⟨(Lib.decDigits (valB B64 xs)).toArray⟩ ∧ e = 0) ∨ (formB xs = true ∧ ¬ valB B64 xs < TXL ∧ s = ⟨#[]⟩ ∧ e = 5) ∨ (formB xs = false ∧ s = ⟨#[]⟩ ∧ e = 2)
theorem TxA.uniq {xs : List Nat} {s t : ByteArray} {e f : Int} (h : TxA xs s e) (k : TxA xs t f) : s = t ∧ e = f := by
  rcases h with ⟨h1, h2, rfl, rfl⟩ | ⟨h1, h2, rfl, rfl⟩ | ⟨h1, rfl, rfl⟩ <;> rcases k with ⟨k1, k2, rfl, rfl⟩ | ⟨k1, k2, rfl, rfl⟩ | ⟨k1, rfl, rfl⟩
  · exact ⟨rfl, rfl⟩
  · exact absurd h2 k2
  · rw [h1] at k1; cases k1
  · exact absurd k2 h2
  · exact ⟨rfl, rfl⟩
  · rw [h1] at k1; cases k1
  · rw [h1] at k1; cases k1
  · rw [h1] at k1; cases k1
  · exact ⟨rfl, rfl⟩
theorem txl_bits {a : Nat} (h : 19600 < bitsN a) : ¬ a < TXL := by
  have h0 : a ≠ 0 := fun e => by rw [e, bitsN_zero] at h; omega
  have h1 := bitsN_le a h0
  have h2 : (10 : Nat) ^ TXN ≤ 2 ^ (bitsN a - 1) := ten_pow (by unfold TXN; omega)
  unfold TXL
  omega
theorem bits_kk {a : Nat} (h : ¬ 19600 < bitsN a) : a < 2 ^ KKN := Nat.lt_of_lt_of_le (bitsN_lt a) (Nat.pow_le_pow_right (by decide) (by unfold KKN; omega))
theorem text_ok {p : Option Addr} {m c : Nat} {xs : List Nat} {w : World} (h : At w p m c xs) (ht : TbP w) :
    Calls Tryd.prog 6 #[.slice p m c] w fun en w' => ∃ s er, en = .returned (.tuple #[.string s, .int .i64 er]) ∧ TxA xs s er ∧ Below w.heap.size w w' := by
  have AT : Hid (At w p m c xs ∧ TbP w) := ⟨h, ht⟩
  have hl := h.len
  clear ht
  cases hf : formB xs with
  | false =>
    have HF : Hid (formB xs = false) := hf
    go_enter Tryd.func6, Tryd.ntmps6
    go_wp2_with fail
    refine (form_false AT.out.1 hf).mono ?_
    rintro e w1 ⟨rfl, rfl⟩
    clear h
    go_wp2_with fail
    go_ret2
    exact ⟨_, _, rfl, .inr (.inr ⟨HF.out, rfl, rfl⟩), Below.refl _ _⟩
  | true =>
    have hnf := formB_nf hf h.dig
    have HF : Hid (formB xs = true ∧ Nf B64 xs (valB B64 xs) ∧ xs.length ≤ 8192 ∧ xs.length = m) := ⟨hf, hnf.1, hnf.2, hl⟩
    have hmz : m = 0 ↔ valB B64 xs = 0 := by rw [← hnf.1.zero_iff B64_one, ← hl]; exact List.length_eq_zero_iff
    clear h hnf
    by_cases hm0 : m = 0
    · have HV : Hid (valB B64 xs = 0) := hmz.1 hm0
      subst hm0
      clear hmz
      go_enter Tryd.func6, Tryd.ntmps6
      go_wp2_with fail
      refine (form_true AT.out.1 hf).mono ?_
      rintro e w1 ⟨rfl, rfl⟩
      clear hf
      go_wp2_with fail
      go_ret2
      refine ⟨_, _, rfl, .inl ⟨HF.out.1, by rw [HV.out]; exact txl_pos, ?_, rfl⟩, Below.refl _ _⟩
      rw [HV.out, Lib.decDigits_one (by decide)]; rfl
    · have hm1 : ((m : Int) == 0) = false := by simp; omega
      obtain ⟨bn, hbn⟩ : ∃ b, b = bitsN (valB B64 xs) := ⟨_, rfl⟩
      have HBN : Hid (bn = bitsN (valB B64 xs)) := hbn
      have HVZ : Hid (valB B64 xs ≠ 0) := fun e => hm0 (hmz.2 e)
      clear hmz
      go_enter Tryd.func6, Tryd.ntmps6
      go_wp2_with fail
      refine (form_true AT.out.1 hf).mono ?_
      rintro e w1 ⟨rfl, rfl⟩
      clear hf
      go_wp2_with fail
      refine (bits_any AT.out.1 (by have := HF.out; omega)).mono ?_
      rintro e w1 ⟨rfl, rfl⟩
      rw [← hbn]
      clear hbn
      by_cases hb : 19600 < bn
      · have hd1 : decide ((19600 : Int) < (bn : Int)) = true := decide_eq_true (by omega)
        have hd2 : decide (19600 < bn) = true := decide_eq_true hb
        have HNL : Hid (¬ valB B64 xs < TXL) := txl_bits (HBN.out ▸ hb)
        go_wp2_with fail
        go_ret2
        exact ⟨_, _, rfl, .inr (.inl ⟨HF.out.1, HNL.out, rfl, rfl⟩), Below.refl _ _⟩
      · have hd1 : decide ((19600 : Int) < (bn : Int)) = false := decide_eq_false (by omega)
        have hd2 : decide (19600 < bn) = false := decide_eq_false hb
        have HKK : Hid (valB B64 xs < 2 ^ KKN) := bits_kk (HBN.out ▸ hb)
        clear hb
        go_wp2_with fail
        clear hd1 hd2
        refine (padded_ok AT.out.1 HF.out.2.1 (by have := HF.out; omega) HKK.out AT.out.2).mono ?_
        rintro e v1 ⟨l, rfl, hdg, hdv, hb1⟩
        have HL : Hid ((∀ c, c ∈ l → IsDg c) ∧ dval l = valB B64 xs) := ⟨hdg, hdv⟩
        clear hdg hdv
        go_wp2_with fail
        refine (trim_c ⟨l.toArray⟩ 48 (by decide) v1).mono ?_
        rintro e v2 ⟨rfl, rfl⟩
        have htr : Lib.trimLeftB (⟨l.toArray⟩ : ByteArray).data.toList 48 = Lib.decDigits (valB B64 xs) := by have h1 := trim_dec l HL.out.1 (by rw [HL.out.2]; exact HVZ.out); rw [HL.out.2] at h1; exact h1
        rw [htr]
        clear htr
        obtain ⟨ds, hds⟩ : ∃ ds : ByteArray, ds = ⟨(Lib.decDigits (valB B64 xs)).toArray⟩ := ⟨_, rfl⟩
        rw [← hds]
        have hsz : ds.size = (Lib.decDigits (valB B64 xs)).length := by rw [hds]; rfl
        have HD : Hid (ds = ⟨(Lib.decDigits (valB B64 xs)).toArray⟩) := hds
        clear hds
        by_cases hlt : valB B64 xs < TXL
        · have hs : ds.size ≤ 4900 := by rw [hsz]; exact txl_le hlt
          have hd1 : decide ((4900 : Int) < (ds.size : Int)) = false := decide_eq_false (by omega)
          have hd2 : decide (4900 < ds.size) = false := decide_eq_false (by omega)
          have HLT : Hid (valB B64 xs < TXL) := hlt
          clear hsz hlt hs
          go_wp2_with fail
          go_ret2
          exact ⟨_, _, rfl, .inl ⟨HF.out.1, HLT.out, HD.out, rfl⟩, hb1⟩
        · have hs : 4900 < ds.size := by rw [hsz]; exact txl_gt hlt
          have hd1 : decide ((4900 : Int) < (ds.size : Int)) = true := decide_eq_true (by omega)
          have hd2 : decide (4900 < ds.size) = true := decide_eq_true hs
          have HLT : Hid (¬ valB B64 xs < TXL) := hlt
          clear hsz hlt hs
          go_wp2_with fail
          go_ret2
          exact ⟨_, _, rfl, .inr (.inl ⟨HF.out.1, HLT.out, rfl, rfl⟩), hb1⟩
theorem At32.growN {w w' : World} {p : Option Addr} {n c : Nat} {xs : List Nat} {row : Option Nat} (h : At32 w p n c xs) (hg : w.grownBy w' row) (hne : ∀ g off, p = some ⟨g, off, none⟩ → n ≠ 0 → some g ≠ row) : At32 w' p n c xs := by
  refine ⟨h.len, h.cap, h.big, h.dig, ?_⟩
  rcases h.cells with h1 | ⟨g', off, h1, h2⟩
  · exact .inl h1
  · by_cases h0 : n = 0
    · exact .inl h0
    · exact .inr ⟨g', off, h1, fun j hj => hg.cell (h2 j hj) (hne g' off h1 h0)⟩
structure OwB8 (w : World) (hB : Nat) (lv : Value) (k : Nat) (l : List UInt8) : Prop where
  row : w.ownsRow hB 5 1 lv k (Lib.byteCells l)
theorem OwB8.below {w w' : World} {hB k : Nat} {lv : Value} {l : List UInt8} (h : OwB8 w hB lv k l) (hb : Below w.heap.size w w') : OwB8 w' hB lv k l := by
  refine ⟨⟨h.row.1, ?_⟩⟩
  rcases h.row.2 with h2 | ⟨g, cap, cur, h2, h3, h4, h5⟩
  · exact .inl h2
  · have hg : g < w.heap.size := by
      rcases Nat.lt_or_ge g w.heap.size with h6 | h6
      · exact h6
      · rw [Array.getElem?_eq_none h6] at h4; cases h4
    exact .inr ⟨g, cap, cur, h2, h3, (hb.block _ hg).trans h4, h5⟩
theorem OwB8.len {w : World} {hB k : Nat} {lv : Value} {l : List UInt8} (h : OwB8 w hB lv k l) : l.length = k := by
  have h1 := h.row.1
  rw [Lib.byteCells_length] at h1; omega
theorem OwB8.cells {w : World} {hB k : Nat} {lv : Value} {l : List UInt8} (h : OwB8 w hB lv k l) : ∃ p cap, lv = .slice p k cap ∧ k ≤ cap ∧ cap ≤ maxLen ∧ ∀ j, j < k → ∃ g, p = some ⟨g, 0, none⟩ ∧ w.cell? ⟨g, j, none⟩ = some (.int .u8 ((l.getD j 0).toNat : Int)) := by
  rcases h.row.2 with ⟨h1, h2⟩ | ⟨g, cap, cur, h1, h2, h3, h4, h4b, h5⟩
  · exact ⟨none, 0, by rw [h1, h2], by omega, by unfold maxLen; omega, fun j hj => by omega⟩
  · refine ⟨_, cap, h1, h4, h4b, fun j hj => ⟨g, rfl, ?_⟩⟩
    have h6 := h.row
    have hl := h.len
    rw [h1] at h6
    rw [h6.cellAt j (by omega)]
    unfold Lib.byteCells
    rw [List.getElem?_map, List.getElem?_eq_getElem (by omega), List.getD_eq_getElem?_getD, List.getElem?_eq_getElem (by omega)]
    rfl
theorem takeB (l : List UInt8) (n : Nat) (h : n < l.length) : l.take (n + 1) = l.take n ++ [l.getD n 0] := by
  rw [List.take_add_one, List.getD_eq_getElem?_getD, List.getElem?_eq_getElem h]; rfl
theorem twin3_any {p : Option Addr} {n c : Nat} {xs : List Nat} {w : World} (h : At w p n c xs) (hn : n ≤ 35184372088832) :
    Calls Tryd.prog 10 #[.slice p n c] w fun e w' =>
      ∃ g, e = .returned (.slice (some ⟨g, 0, none⟩) n n) ∧ w.heap.size ≤ g ∧ Blk w' g xs ∧ Below w.heap.size w w' := by
  obtain ⟨i0, hi, hz0, hz1, hz2⟩ := info_parts Tryd.infoU64
  have hl := h.len
  go_enter Tryd.func10, Tryd.ntmps10
  go_wp2_with (first
    | (at_make; refine wpList_make_full _ rfl _ _ 22 rfl w.heap.size 26 i0 (.int .u64 0) 1 Tryd.underlying22 hi hz0 hz1 _ _ _ _ n rfl rfl (by omega) (by omega) (by rw [hz2]; omega) (by unfold maxLen; omega) (Nat.le_refl _) ?_; intro w1 hown hgrow; have hb := made_blk hown hgrow; clear hown hgrow)
    | (refine wpList_copy_splice rfl (.tmp 7) (.tmp 8) 22 22 rfl 26 Tryd.underlying22 Tryd.sizeU64 (some ⟨w.heap.size, 0, none⟩) p n n n c rfl rfl w.heap.size 0 (cellsU (List.replicate n 0)) 26 hb.1 (cellsU xs) (by rw [cellsU_length, hl]; exact (Nat.min_self n).symm) (fun h0 => ⟨rfl, (h.below hb.2).src (by rw [cellsU_length] at h0; omega)⟩) (by simp [cellsU_length]; omega) (cellsU_one xs) w.heap.size w hb.2 (Nat.le_refl _) ?_; intro w2 hg2 hb2))
  go_ret
  refine ⟨_, rfl, Nat.le_refl _, ?_, hb2⟩
  rw [splice_cellsU, hl, Nat.sub_self, List.replicate_zero, List.append_nil] at hg2
  exact hg2
theorem dec_low {s : ByteArray} {i : Nat} (h : i < s.size) (hd : sb s i < 128) : Utf8.decode s i = (sb s i, 1) := by
  rw [decode_ascii s i h (by rw [sb_eq h]; exact hd), sb_eq h]
theorem dec_bad {s : ByteArray} {i : Nat} (h : i < s.size) (hd : ¬ IsD s i) : (Utf8.decode s i).1 < 48 ∨ 57 < (Utf8.decode s i).1 := by
  by_cases h1 : sb s i < 128
  · rw [dec_low h h1]; unfold IsD at hd; show sb s i < 48 ∨ 57 < sb s i; omega
  · exact .inr (Nat.lt_of_lt_of_le (by decide) (decode_high s i h (by rw [sb_eq h]; omega)).1)
theorem cell_iter {w : World} {k : Nat} {s : ByteArray} {pos pos' : Nat} (hk : w.heap[k]? = some (.stringIter s pos)) {a : Addr} {v : Value} (h : w.cell? a = some v) : (w.iterAt k s pos').cell? a = some v := by
  by_cases e : a.block = k
  · exfalso
    rw [← e] at hk
    simp [World.cell?, hk] at h
  · rw [World.cell?_of_block (Lib.iterAt_other w k a.block s pos' e)]; exact h
theorem GN.iter {w : World} {k : Nat} {s : ByteArray} {pos : Nat} (hk : w.heap[k]? = some (.stringIter s pos)) (pos' : Nat) {p : Option Addr} {m a : Nat} (h : GN w p m a) : GN (w.iterAt k s pos') p m a := by
  obtain ⟨⟨zs, h1, h2⟩, h3⟩ := h
  refine ⟨⟨zs, ⟨h1.len, h1.cap, h1.big, h1.dig, ?_⟩, h2⟩, h3⟩
  rcases h1.cells with h0 | ⟨g, off, rfl, hc⟩
  · exact .inl h0
  · exact .inr ⟨g, off, rfl, fun j hj => cell_iter hk (hc j hj)⟩
theorem rdw {t pc k : Nat} (h1 : pc < 10 ^ k) (h2 : k < 19) (h3 : 48 ≤ t) (h4 : t ≤ 57) : IntKind.u64.wrap (10 * (pc : Int) + ((t - 48 : Nat) : Int)) = ((10 * pc + (t - 48) : Nat) : Int) ∧ IntKind.u64.wrap (10 * (pc : Int)) = ((10 * pc : Nat) : Int) ∧ IntKind.u64.wrap (10 * ((10 ^ k : Nat) : Int)) = ((10 ^ (k + 1) : Nat) : Int) := by
  have h5 : (10 : Nat) ^ k ≤ 10 ^ 18 := Nat.pow_le_pow_right (by decide) (by omega)
  have h6 : (10 : Nat) ^ (k + 1) = 10 * 10 ^ k := by rw [Nat.pow_succ, Nat.mul_comm]
  simp only [IntKind.wrap_u64]
  rw [h6]
  generalize 10 ^ k = z at *
  omega
theorem rdu {t : Nat} (h3 : 48 ≤ t) (h4 : t ≤ 57) : IntKind.i32.wrap ((t : Int) - 48) = ((t - 48 : Nat) : Int) ∧ IntKind.u64.wrap ((t - 48 : Nat) : Int) = ((t - 48 : Nat) : Int) := by
  rw [IntKind.wrap_u64, IntKind.wrap_i32]; omega
theorem read_ok (s : ByteArray) {w : World} : Calls Tryd.prog 8 #[.string s] w fun en w' => ((RdOk s ∧ ∃ q l, en = .returned (.tuple #[.slice q l l, .int .i64 0]) ∧ GO w.heap.size w' q l (dN s s.size)) ∨ (¬ RdOk s ∧ en = .returned (.tuple #[.slice none 0 0, .int .i64 (rdErr s)]))) ∧ Below w.heap.size w w' := by
  by_cases h1 : 4900 < s.size
  · have h1' : decide ((4900 : Int) < (s.size : Int)) = true := decide_eq_true (by omega)
    have h1'' : decide (4900 < s.size) = true := decide_eq_true h1
    have HE : Hid (rdErr s = 7 ∧ ¬ RdOk s) := ⟨by unfold rdErr; rw [if_pos h1], fun h => by unfold RdOk at h; omega⟩
    clear h1
    go_enter Tryd.func8, Tryd.ntmps8
    go_wp2_with fail
    go_ret2
    exact ⟨.inr ⟨HE.out.2, by rw [HE.out.1]; rfl⟩, Below.refl _ _⟩
  by_cases h2 : s.size = 0
  · have HE : Hid (rdErr s = 8 ∧ ¬ RdOk s) := ⟨by unfold rdErr; rw [if_neg h1], fun h => by unfold RdOk at h; omega⟩
    obtain rfl : s = ⟨#[]⟩ := by cases s with | mk d => cases d with | mk l => cases l with | nil => rfl | cons a l => simp [ByteArray.size] at h2
    clear h1 h2
    go_enter Tryd.func8, Tryd.ntmps8
    go_wp2_with fail
    go_ret2
    exact ⟨.inr ⟨HE.out.2, by rw [HE.out.1]; rfl⟩, Below.refl _ _⟩
  have h1' : decide ((4900 : Int) < (s.size : Int)) = false := decide_eq_false (by omega)
  have h1'' : decide (4900 < s.size) = false := decide_eq_false h1
  have h2' : (s.toList == []) = false := by simp only [beq_eq_false_iff_ne, ne_eq]; intro h; apply h2; rw [ByteArray.toList_eq] at h; show s.data.size = 0; rw [← Array.length_toList, h]; rfl
  have HE : Hid (s.size ≤ 4900 ∧ s.size ≠ 0 ∧ rdErr s = 8) := ⟨by omega, h2, by unfold rdErr; rw [if_neg h1]⟩
  clear h1 h2
  go_enter Tryd.func8, Tryd.ntmps8
  go_wp2_with fail
  obtain ⟨W0, hW0⟩ : ∃ W0, W0 = w.iter s 0 := ⟨_, rfl⟩
  have HI : Hid (W0.heap[w.heap.size]? = some (.stringIter s 0)) := by rw [hW0]; exact World.iter_heap w s 0
  have hbw : Below w.heap.size w W0 := by rw [hW0]; exact below1 w _
  rw [← hW0]
  clear hW0 h1' h1'' h2'
  obtain ⟨gi, hgi⟩ : ∃ g, g = w.heap.size := ⟨_, rfl⟩
  have HGI : Hid (w.heap.size ≤ gi) := by rw [hgi]; exact Nat.le_refl _
  rw [← hgi] at HI
  rw [← hgi]
  clear hgi
  go_loopg [4, 5, 6] s.size (fun gk vv pv sv wr => ∃ (pos k a pc m : Nat) (p : Option Addr), pos + gk = s.size ∧ vv = .slice p m m ∧ pv = U pc ∧ sv = U (10 ^ k) ∧ k < 19 ∧ pc < 10 ^ k ∧ a * 10 ^ k + pc = dN s pos ∧ (∀ j, j < pos → IsD s j) ∧ GN wr p m a ∧ wr.heap[gi]? = some (.stringIter s pos) ∧ Below w.heap.size w wr)
  case atStart => exact ⟨0, 0, 0, 0, 0, none, by omega, rfl, rfl, rfl, by decide, by decide, rfl, fun j hj => by omega, GN.nil _ _, HI.out, hbw⟩
  case round =>
    obtain ⟨pos, k, a, pc, m, p, hig, rfl, rfl, rfl, hk, hpc, hval, hdig, xg, xi, hbr⟩ := hrel
    clear HI hbw
    have GNa : Hid (GN wr p m a) := xg
    have HI : Hid (wr.heap[gi]? = some (.stringIter s pos)) := xi
    have hbw := hbr
    have HV : Hid (a * 10 ^ k + pc = dN s pos ∧ pc < 10 ^ k ∧ k < 19 ∧ ∀ j, j < pos → IsD s j) := ⟨hval, hpc, hk, hdig⟩
    clear xg xi hbr hval hpc hk hdig
    by_cases hp : pos < s.size
    · by_cases hd : IsD s pos
      · obtain ⟨g, rfl⟩ : ∃ g, gk = g + 1 := ⟨gk - 1, by omega⟩
        have hnx := fun ty => Lib.run_next_any_at (P := Tryd.prog) wr gi s pos ty HI.out hp
        have hd0 := hd
        unfold IsD at hd0
        have hdec := dec_low hp (by omega)
        obtain ⟨t, ht⟩ : ∃ t, t = sb s pos := ⟨_, rfl⟩
        rw [hdec, ← ht] at hnx
        rw [← ht] at hd0
        have hw1 := rdu hd0.1 hd0.2
        have hw2 := rdw (t := t) HV.out.2.1 HV.out.2.2.1 hd0.1 hd0.2
        have HD : Hid (IsD s pos ∧ t = sb s pos ∧ pos < s.size ∧ pos + (g + 1) = s.size) := ⟨hd, ht, hp, hig⟩
        obtain ⟨c, hc⟩ : ∃ c, c = t - 48 := ⟨_, rfl⟩
        obtain ⟨z, hz⟩ : ∃ z, z = 10 ^ k := ⟨_, rfl⟩
        obtain ⟨z1, hz1⟩ : ∃ z, z = 10 ^ (k + 1) := ⟨_, rfl⟩
        obtain ⟨q, hq⟩ : ∃ q, q = 10 * pc + c := ⟨_, rfl⟩
        obtain ⟨q0, hq0⟩ : ∃ q, q = 10 * pc := ⟨_, rfl⟩
        rw [← hc] at hw1 hw2
        rw [← hz, ← hz1, ← hq, ← hq0] at hw2
        rw [← hz]
        have HZ : Hid (c = t - 48 ∧ z = 10 ^ k ∧ z1 = 10 ^ (k + 1) ∧ q = 10 * pc + c) := ⟨hc, hz, hz1, hq⟩
        have t1 : decide ((t : Int) < 48) = false := decide_eq_false (by omega)
        have t2 : decide ((57 : Int) < (t : Int)) = false := decide_eq_false (by omega)
        have t3 : decide (t < 48) = false := decide_eq_false (by omega)
        have t4 : decide (57 < t) = false := decide_eq_false (by omega)
        obtain ⟨wa, wb⟩ := hw1
        obtain ⟨wc, wd, we⟩ := hw2
        have wc' : IntKind.u64.wrap ((q0 : Int) + (c : Int)) = (q : Int) := by rw [IntKind.wrap_u64] at wc ⊢; omega
        have HVV := HV.out
        by_cases hk : k = 18
        · have e19 : ((z1 : Int) == 10000000000000000000) = true := by rw [hz1, hk]; decide
          have HZ1 : Hid (z1 < B64 ∧ q < B64) := by have h9 := HVV.2.1; rw [hk] at h9; refine ⟨by rw [hz1, hk]; decide, ?_⟩; show q < 18446744073709551616; rw [show (10 : Nat) ^ 18 = 1000000000000000000 by decide] at h9; omega
          have HK18 : Hid (k = 18) := hk
          have HN : Hid (a * z1 + q = dN s (pos + 1) ∧ q < z1) := by rw [dN_succ, ← HVV.1, hz1, hq, hc, ht, Nat.pow_succ]; rw [ht] at hd0; have h5 := HVV.2.1; generalize 10 ^ k = y at *; refine ⟨?_, by omega⟩; rw [Nat.add_mul, Nat.mul_comm 10 pc, Nat.mul_assoc, Nat.add_assoc]
          have HDD : Hid (∀ j, j < pos + 1 → IsD s j) := fun j hj => by rcases Nat.lt_or_ge j pos with h | h; exact HVV.2.2.2 j h; rw [show j = pos by omega]; exact hd
          clear hd hp hig hdec ht hd0 hc hz hz1 hq hq0 hk HVV
          go_wp2_with fail
          clear t1 t2 t3 t4 wa wb wc wd we wc' e19 hnx
          have GNb : Hid (GN (wr.iterAt gi s (pos + 1)) p m a) := GN.iter HI.out _ GNa.out
          have HI2 : Hid ((wr.iterAt gi s (pos + 1)).heap[gi]? = some (.stringIter s (pos + 1))) := Lib.iterAt_heap wr gi s pos (pos + 1) HI.out
          have hbw2 : Below w.heap.size w (wr.iterAt gi s (pos + 1)) := Lib.below_iterAt hbw HGI.out s _
          generalize (wr.iterAt gi s (pos + 1)) = W1 at *
          clear GNa HI hbw
          obtain ⟨KK, hK1, hK2⟩ : ∃ K : Nat, K ≤ 100000 ∧ 19600 ≤ K := ⟨20000, by decide, by decide⟩
          refine (extended_ok GNb.out z1 q HZ1.out.1 HZ1.out.2 (K := KK) hK1 (by rw [HN.out.1]; exact Nat.lt_of_lt_of_le (dN_lt HDD.out) (ten_pow (by have h1 := HE.out.1; have h2 := HD.out.2.2.1; omega)))).mono ?_
          rintro e v1 ⟨p1, m1, rfl, hR, hb1⟩
          clear hK1 hK2
          have GN1 : Hid (GN v1 p1 m1 (a * z1 + q)) := hR.gn
          clear hR
          have HI3 : Hid (v1.heap[gi]? = some (.stringIter s (pos + 1))) := (hb1.block gi (Array.getElem?_eq_some_iff.1 HI2.out).1).trans HI2.out
          have hbw3 := Below.on hbw2 hb1
          clear GNb HI2 hbw2 hb1
          go_wp2_with fail
          go_roundg g
          case measure => omega
          case rel => exact ⟨pos + 1, 0, dN s (pos + 1), 0, m1, p1, by have := HD.out.2.2.2; omega, rfl, rfl, rfl, by decide, by decide, by rw [Nat.pow_zero, Nat.mul_one, Nat.add_zero], HDD.out, HN.out.1 ▸ GN1.out, HI3.out, hbw3⟩
        · have e19 : ((z1 : Int) == 10000000000000000000) = false := by rw [hz1, beq_eq_false_iff_ne]; have h9 : (10 : Nat) ^ (k + 1) ≤ 10 ^ 18 := Nat.pow_le_pow_right (by decide) (by have := HVV.2.2.1; omega); rw [show (10 : Nat) ^ 18 = 1000000000000000000 by decide] at h9; omega
          have HK18 : Hid (k ≠ 18) := hk
          have HN : Hid (a * z1 + q = dN s (pos + 1) ∧ q < z1) := by rw [dN_succ, ← HVV.1, hz1, hq, hc, ht, Nat.pow_succ]; rw [ht] at hd0; have h5 := HVV.2.1; generalize 10 ^ k = y at *; refine ⟨?_, by omega⟩; rw [Nat.add_mul, Nat.mul_comm 10 pc, Nat.mul_assoc, Nat.add_assoc]
          have HDD : Hid (∀ j, j < pos + 1 → IsD s j) := fun j hj => by rcases Nat.lt_or_ge j pos with h | h; exact HVV.2.2.2 j h; rw [show j = pos by omega]; exact hd
          clear hd hp hig hdec ht hd0 hc hz hz1 hq hq0 hk HVV
          go_wp2_with fail
          clear t1 t2 t3 t4 wa wb wc wd we wc' e19 hnx
          have GNb : Hid (GN (wr.iterAt gi s (pos + 1)) p m a) := GN.iter HI.out _ GNa.out
          have HI2 : Hid ((wr.iterAt gi s (pos + 1)).heap[gi]? = some (.stringIter s (pos + 1))) := Lib.iterAt_heap wr gi s pos (pos + 1) HI.out
          have hbw2 : Below w.heap.size w (wr.iterAt gi s (pos + 1)) := Lib.below_iterAt hbw HGI.out s _
          generalize (wr.iterAt gi s (pos + 1)) = W1 at *
          clear GNa HI hbw
          go_roundg g
          case measure => omega
          case rel => exact ⟨pos + 1, k + 1, a, q, m, p, by have := HD.out.2.2.2; omega, rfl, rfl, by rw [HZ.out.2.2.1], by have h1 := HV.out.2.2.1; have h2 := HK18.out; omega, by rw [← HZ.out.2.2.1]; exact HN.out.2, by rw [← HZ.out.2.2.1]; exact HN.out.1, HDD.out, GNb.out, HI2.out, hbw2⟩
      · have hnx := fun ty => Lib.run_next_any_at (P := Tryd.prog) wr gi s pos ty HI.out hp
        have hdec := dec_bad hp hd
        have HNO : Hid (¬ RdOk s) := fun h => hd (h.2.2 pos hp)
        obtain ⟨t, ht⟩ : ∃ t, t = (Utf8.decode s pos).1 := ⟨_, rfl⟩
        obtain ⟨l, hl⟩ : ∃ t, t = (Utf8.decode s pos).2 := ⟨_, rfl⟩
        rw [← ht, ← hl] at hnx
        rw [← ht] at hdec
        obtain ⟨z, hz⟩ : ∃ z, z = 10 ^ k := ⟨_, rfl⟩
        rw [← hz]
        clear hp hd ht hl hz hig
        rcases hdec with hdec | hdec
        · have t1 : decide ((t : Int) < 48) = true := decide_eq_true (by omega)
          have t3 : decide (t < 48) = true := decide_eq_true (by omega)
          clear hdec
          go_wp2_with fail
          go_ret2
          exact ⟨.inr ⟨HNO.out, by rw [HE.out.2.2]; rfl⟩, Lib.below_iterAt hbw HGI.out s _⟩
        · have t1 : decide ((t : Int) < 48) = false := decide_eq_false (by omega)
          have t3 : decide (t < 48) = false := decide_eq_false (by omega)
          have t2 : decide ((57 : Int) < (t : Int)) = true := decide_eq_true (by omega)
          have t4 : decide (57 < t) = true := decide_eq_true (by omega)
          clear hdec
          go_wp2_with fail
          go_ret2
          exact ⟨.inr ⟨HNO.out, by rw [HE.out.2.2]; rfl⟩, Lib.below_iterAt hbw HGI.out s _⟩
    · have hnx := fun ty => Lib.run_next_end_at (P := Tryd.prog) wr gi s pos ty HI.out hp
      obtain rfl : pos = s.size := by omega
      have HOK : Hid (RdOk s) := ⟨HE.out.1, HE.out.2.1, HV.out.2.2.2⟩
      obtain ⟨z, hz⟩ : ∃ z, z = 10 ^ k := ⟨_, rfl⟩
      have HZ1 : Hid (z < B64 ∧ pc < B64 ∧ a * z + pc = dN s s.size) := by have h1 := HV.out; have h9 : (10 : Nat) ^ k ≤ 10 ^ 18 := Nat.pow_le_pow_right (by decide) (by omega); rw [← hz] at h1 h9; exact ⟨Nat.lt_of_le_of_lt h9 (by decide), Nat.lt_trans h1.2.1 (Nat.lt_of_le_of_lt h9 (by decide)), h1.1⟩
      rw [← hz]
      clear hz hig hp
      go_wp2_with fail
      clear hnx
      have HSZ : Hid (w.heap.size ≤ wr.heap.size) := hbw.size
      obtain ⟨KK, hK1, hK2⟩ : ∃ K : Nat, K ≤ 100000 ∧ 19600 ≤ K := ⟨20000, by decide, by decide⟩
      refine (extended_ok GNa.out z pc HZ1.out.1 HZ1.out.2.1 (K := KK) hK1 (by rw [HZ1.out.2.2]; exact Nat.lt_of_lt_of_le (dN_lt HOK.out.2.2) (ten_pow (by have h1 := HE.out.1; omega)))).mono ?_
      rintro e v1 ⟨p1, m1, rfl, hR, hb1⟩
      clear hK1 hK2
      have GO1 : Hid (GO w.heap.size v1 p1 m1 (a * z + pc)) := hR.mono HSZ.out
      have hbw2 := Below.on hbw hb1
      clear hR hbw hb1
      go_wp2_with fail
      go_ret2
      exact ⟨.inl ⟨HOK.out, _, _, rfl, HZ1.out.2.2 ▸ GO1.out⟩, hbw2⟩
theorem sb_list (s : ByteArray) (i : Nat) (h : i < s.size) : sb s i = (s.data.toList.getD i 0).toNat := by
  unfold sb
  rw [dif_pos h, List.getD_eq_getElem?_getD, List.getElem?_eq_getElem (by rw [Array.length_toList]; exact h)]; rfl
theorem dN_list (s : ByteArray) : ∀ i, i ≤ s.size → dN s i = dval (s.data.toList.take i)
  | 0, _ => rfl
  | i + 1, h => by
    rw [dN_succ, dN_list s i (by omega), takeB _ i (by rw [Array.length_toList]; exact h), dval_snoc, sb_list s i (by omega)]
theorem dN_all (s : ByteArray) : dN s s.size = dval s.data.toList := by
  rw [dN_list s s.size (Nat.le_refl _), List.take_of_length_le (by rw [Array.length_toList]; exact Nat.le_refl _)]
theorem isD_all {s : ByteArray} (h : ∀ j, j < s.size → IsD s j) : ∀ c, c ∈ s.data.toList → IsDg c := by
  intro c hc
  obtain ⟨j, hj, rfl⟩ := List.mem_iff_getElem.1 hc
  have hj2 : j < s.size := by rw [Array.length_toList] at hj; exact hj
  have h1 := h j hj2
  unfold IsD at h1
  rw [sb_list s j hj2, List.getD_eq_getElem?_getD, List.getElem?_eq_getElem hj] at h1
  exact h1
theorem rdok_dec {v : Nat} (h : v < TXL) : RdOk ⟨(Lib.decDigits v).toArray⟩ ∧ dN ⟨(Lib.decDigits v).toArray⟩ (Lib.decDigits v).length = v := by
  have hs : (⟨(Lib.decDigits v).toArray⟩ : ByteArray).size = (Lib.decDigits v).length := rfl
  have hp := Lib.nDigits_pos v
  rw [← Lib.decDigits_length] at hp
  refine ⟨⟨by rw [hs]; exact txl_le h, by rw [hs]; omega, fun j hj => ?_⟩, ?_⟩
  · have h1 := dec_dg v ((Lib.decDigits v).getD j 0) (by rw [List.getD_eq_getElem?_getD, List.getElem?_eq_getElem hj]; exact List.getElem_mem _)
    unfold IsD
    rw [sb_list _ j hj]
    exact h1
  · have h1 := dN_all ⟨(Lib.decDigits v).toArray⟩
    rw [hs] at h1
    rw [h1]; exact dval_dec v
theorem strip_one {c : UInt8} (h : IsDg c) : Lib.decDigits (dval [c]) = [c] := by
  have hlt : c.toNat - 48 < 10 := by unfold IsDg at h; omega
  rw [show dval [c] = c.toNat - 48 from by show 0 * 10 + _ = _; omega, Lib.decDigits_one hlt, dg_eq h]
theorem dval_48 (r : List UInt8) : dval (48 :: r) = dval r := by rw [dval_cons]; show (48 - 48) * _ + _ = _; omega
theorem rd_lt {s : ByteArray} (h : RdOk s) : dN s s.size < TXL := by
  unfold TXL
  exact Nat.lt_of_lt_of_le (dN_lt h.2.2) (Nat.pow_le_pow_right (by decide) h.1)
theorem stripped_ok (s : ByteArray) {w : World} (hd : ∀ c, c ∈ s.data.toList → IsDg c) (h0 : s.size ≠ 0) (h9 : s.size ≤ 4900) :
    Calls Tryd.prog 11 #[.string s] w fun en w' => en = .returned (.string ⟨(Lib.decDigits (dval s.data.toList)).toArray⟩) ∧ Below w.heap.size w w' := by
  obtain ⟨V, hV⟩ : ∃ V, V = dval s.data.toList := ⟨_, rfl⟩
  have HS : Hid ((∀ c, c ∈ s.data.toList → IsDg c) ∧ s.size ≠ 0 ∧ s.size ≤ 4900 ∧ dval s.data.toList = V) := ⟨hd, h0, h9, hV.symm⟩
  rw [← hV]
  clear hd h0 h9 hV
  go_enter Tryd.func11, Tryd.ntmps11
  go_wp2_with fail
  have hbw : Below w.heap.size w w := Below.refl _ _
  go_loopg [0] s.size (fun gk sv wr => ∃ t : ByteArray, sv = .string t ∧ t.size = gk ∧ (∀ c, c ∈ t.data.toList → IsDg c) ∧ t.size ≠ 0 ∧ t.size ≤ 4900 ∧ dval t.data.toList = V ∧ Below w.heap.size w wr)
  case atStart => exact ⟨s, rfl, rfl, HS.out.1, HS.out.2.1, HS.out.2.2.1, HS.out.2.2.2, hbw⟩
  case round =>
    obtain ⟨t, rfl, htg, xd, x0, x9, xv, hbr⟩ := hrel
    clear hbw
    have hbw := hbr
    clear hbr
    have HT : Hid ((∀ c, c ∈ t.data.toList → IsDg c) ∧ t.size ≤ 4900 ∧ dval t.data.toList = V ∧ t.size = gk) := ⟨xd, x9, xv, htg⟩
    have hl1 : t.data.toList.length = t.size := Array.length_toList
    have ht0 : 0 < t.size := by omega
    have hx := sb_eq ht0
    have hsb := sb_list t 0 ht0
    obtain ⟨c, r, hcr⟩ : ∃ c r, t.data.toList = c :: r := by
      cases h : t.data.toList with
      | nil => rw [h] at hl1; simp at hl1; omega
      | cons c r => exact ⟨c, r, rfl⟩
    rw [hcr] at hsb hl1
    have hsb2 : sb t 0 = c.toNat := hsb
    rw [hsb2] at hx
    obtain ⟨cn, hcn⟩ : ∃ n, Hid (n = c.toNat) := ⟨_, rfl⟩
    rw [← hcn.out] at hx
    have HCR : Hid (t.data.toList = c :: r ∧ r.length + 1 = t.size) := ⟨hcr, by simpa using hl1⟩
    clear hsb hsb2 hcr hl1 xd x9 xv
    by_cases h1 : 1 < t.size
    · have hd1 : decide ((1 : Int) < (t.size : Int)) = true := decide_eq_true (by omega)
      have hd2 : decide (1 < t.size) = true := decide_eq_true h1
      by_cases h48 : cn = 48
      · have hq : ((cn : Int) == 48) = true := by simp; omega
        have hq2 : (cn == 48) = true := by simp; omega
        have H48 : Hid (cn = 48) := h48
        clear h48
        go_wp2_with fail
        obtain ⟨u, hu⟩ : ∃ u : ByteArray, u = t.extract 1 t.size := ⟨_, rfl⟩
        try rw [← hu]
        have hul : u.data.toList = r := by rw [hu, Lib.extract_data, HCR.out.1]; show (r.take (t.size - 1)) = r; exact List.take_of_length_le (by have := HCR.out.2; omega)
        have hus : u.size = r.length := by rw [← hul, Array.length_toList]; rfl
        have hc48 : c = 48 := UInt8.toNat_inj.1 (by rw [← hcn.out, H48.out]; rfl)
        go_roundg (gk - 1)
        case measure => have := HT.out.2.2.2; omega
        case rel =>
          refine ⟨u, ?_, by have := HT.out.2.2.2; have := HCR.out.2; omega, ?_, by have := HCR.out.2; omega, by have := HT.out.2.1; have := HCR.out.2; omega, ?_, hbw⟩
          · rw [hu, htg]
          · rw [hul]; intro x hx1; exact HT.out.1 x (by rw [HCR.out.1]; exact List.mem_cons_of_mem _ hx1)
          · rw [hul, ← HT.out.2.2.1, HCR.out.1, hc48, dval_48]
      · have hq : ((cn : Int) == 48) = false := by simp; omega
        have hq2 : (cn == 48) = false := by simp; omega
        have H48 : Hid (cn ≠ 48) := h48
        clear h48
        go_wp2_with fail
        go_ret
        refine ⟨?_, hbw⟩
        have h5 : Lib.decDigits V = t.data.toList := by
          rw [← HT.out.2.2.1]
          refine dec_of _ _ rfl HT.out.1 (fun x y e => ?_) (by rw [HCR.out.1]; simp)
          rw [HCR.out.1] at e; cases e; intro e2; exact H48.out (by rw [hcn.out, e2]; rfl)
        rw [h5]; rfl
    · have hd1 : decide ((1 : Int) < (t.size : Int)) = false := decide_eq_false (by omega)
      have hd2 : decide (1 < t.size) = false := decide_eq_false h1
      have HSZ : Hid (t.size = 1) := by show _ = _; omega
      go_wp2_with fail
      go_ret
      refine ⟨?_, hbw⟩
      have hr : r = [] := List.eq_nil_of_length_eq_zero (by have := HCR.out.2; have := HSZ.out; omega)
      have h5 : Lib.decDigits V = t.data.toList := by
        rw [← HT.out.2.2.1, HCR.out.1, hr]
        exact strip_one (HT.out.1 c (by rw [HCR.out.1]; simp))
      rw [h5]; rfl
def lit40 : ByteArray := ⟨#[48, 48, 52, 48]⟩
theorem lit40_ok : RdOk lit40 := ⟨by decide, by decide, by have h : ∀ j : Fin 4, 48 ≤ sb lit40 j.1 ∧ sb lit40 j.1 ≤ 57 := by decide +kernel
                                                           exact fun j hj => h ⟨j, hj⟩⟩
theorem lit40_v : dN lit40 lit40.size = 40 := by decide +kernel
theorem lit40_nf : Nf B64 [40] 40 := ⟨dig1 (by decide), by intro x hx; simp at hx; omega, by simp [valB, B64]⟩
theorem lit40_tx {s : ByteArray} {e : Int} (h : TxA [40] s e) : s = ⟨#[52, 48]⟩ ∧ e = 0 := by
  have hv : valB B64 [40] = 40 := by decide +kernel
  refine h.uniq (.inl ⟨by decide +kernel, ?_, ?_, rfl⟩)
  · rw [hv]; unfold TXL
    have h1 : (10 : Nat) ^ 20 ≤ 10 ^ TXN := Nat.pow_le_pow_right (by decide) (by decide)
    exact Nat.lt_of_lt_of_le (by decide) h1
  · rw [hv, Lib.decDigits_two (by decide) (by decide)]; rfl
theorem natdivReadsBack_w {p : Option Addr} {m c : Nat} {xs : List Nat} (s : ByteArray) {w : World} (h : At w p m c xs) (hn : m ≤ 35184372088832) (ht : TbP w) :
    Calls Tryd.prog 4 #[.slice p m c, .string s] w fun en w' => en = .returned (.bool true) ∧ Below w.heap.size w w' := by
  have AT : Hid (At w p m c xs ∧ TbP w ∧ m ≤ 35184372088832) := ⟨h, ht, hn⟩
  clear h ht hn
  go_enter Tryd.func4, Tryd.ntmps4
  go_wp2_with fail
  have AT2 : Hid (At (w.alloc (.cells #[.int .u64 40] 26)) (some ⟨w.heap.size, 0, none⟩) 1 1 [40]) := lit_at w _ [40] 1 rfl rfl (dig1 (by decide)) (by decide)
  have hb0 := below1 w (.cells #[.int .u64 40] 26)
  refine (text_ok AT2.out (AT.out.2.1.below hb0)).mono ?_
  rintro e v1 ⟨t1, er, rfl, hT, hb1⟩
  obtain ⟨rfl, rfl⟩ := lit40_tx hT
  have hbw := Below.on hb0 hb1
  clear hT hb0 hb1 AT2
  go_wp2_with fail
  rw [show (⟨#[48, 48, 52, 48]⟩ : ByteArray) = lit40 from rfl]
  refine (read_ok lit40).mono ?_
  rintro e v2 ⟨⟨-, p1, m1, rfl, hG⟩ | ⟨hn, -⟩, hb1⟩
  rotate_left
  · exact absurd lit40_ok hn
  obtain ⟨⟨zs, hz1, hz2⟩, -⟩ := hG.gn
  rw [lit40_v] at hz2
  obtain rfl := hz2.inj B64_one lit40_nf
  have AT1 : Hid (At v2 p1 m1 m1 [40]) := hz1
  clear hz1 hz2 hG
  replace hbw := Below.on hbw hb1
  clear hb1
  go_wp2_with fail
  have AT2 : Hid (At (v2.alloc (.cells #[.int .u64 40] 26)) (some ⟨v2.heap.size, 0, none⟩) 1 1 [40]) := lit_at v2 _ [40] 1 rfl rfl (dig1 (by decide)) (by decide)
  refine (same_t (AT1.out.alloc _) AT2.out).mono ?_
  rintro e v3 ⟨rfl, hb3⟩
  have hbw2 := Below.on (Below.on hbw (below1 v2 _)) hb3
  clear hb3 AT1 AT2 hbw
  have hbw := hbw2
  clear hbw2
  go_wp2_with fail
  refine (twin3_any (AT.out.1.below hbw) AT.out.2.2).mono ?_
  rintro e v4 ⟨g1, rfl, hg1, hblk, hb1⟩
  have A1 : Hid (At v4 (some ⟨g1, 0, none⟩) m m xs) := hblk.at_ AT.out.1.dig AT.out.1.len (by have := AT.out.2.2; unfold maxLen; omega)
  clear hblk hg1
  replace hbw := Below.on hbw hb1
  clear hb1
  go_wp2_with fail
  refine (text_ok A1.out (AT.out.2.1.below hbw)).mono ?_
  rintro e v5 ⟨t2, er2, rfl, hT, hb1⟩
  have HT : Hid (TxA xs t2 er2) := hT
  clear hT A1
  replace hbw := Below.on hbw hb1
  clear hb1
  by_cases he2 : er2 = 0
  · subst he2
    have HX : Hid (formB xs = true ∧ valB B64 xs < TXL ∧ t2 = ⟨(Lib.decDigits (valB B64 xs)).toArray⟩) := by
      rcases HT.out with ⟨h1, h2, h3, -⟩ | ⟨-, -, -, h4⟩ | ⟨-, -, h4⟩
      · exact ⟨h1, h2, h3⟩
      · cases h4
      · cases h4
    go_wp2_with fail
    have hrd := rdok_dec HX.out.2.1
    refine (read_ok t2).mono ?_
    rintro e v6 ⟨⟨-, p6, m6, rfl, hG⟩ | ⟨hn, -⟩, hb6⟩
    rotate_left
    · exact absurd (by rw [HX.out.2.2]; exact hrd.1) hn
    obtain ⟨⟨zs6, hz1, hz2⟩, -⟩ := hG.gn
    have hz4 : dN t2 t2.size = valB B64 xs := by rw [HX.out.2.2]; exact hrd.2
    rw [hz4] at hz2
    obtain rfl := hz2.inj B64_one (formB_nf HX.out.1 AT.out.1.dig).1
    have AT6 : Hid (At v6 p6 m6 m6 zs6) := hz1
    clear hz1 hz2 hG hz4 hrd
    replace hbw := Below.on hbw hb6
    clear hb6
    go_wp2_with fail
    refine (same_t AT6.out (AT.out.1.below hbw)).mono ?_
    rintro e v6b ⟨rfl, hb6⟩
    clear AT6
    replace hbw := Below.on hbw hb6
    clear hb6
    go_wp2_with fail
    by_cases hR : RdOk s
    · refine (read_ok s).mono ?_
      rintro e v7 ⟨⟨-, p7, m7, rfl, hG⟩ | ⟨hn, -⟩, hb7⟩
      rotate_left
      · exact absurd hR hn
      obtain ⟨⟨zs7, hz1, hz2⟩, hz3⟩ := hG.gn
      have AT7 : Hid (At v7 p7 m7 m7 zs7 ∧ Nf B64 zs7 (dN s s.size) ∧ m7 ≤ 8192) := ⟨hz1, hz2, hz3⟩
      have HRS : Hid (RdOk s) := hR
      clear hz1 hz2 hz3 hG hR
      replace hbw := Below.on hbw hb7
      clear hb7
      go_wp2_with fail
      refine (text_ok AT7.out.1 (AT.out.2.1.below hbw)).mono ?_
      rintro e v8 ⟨t8, er8, rfl, hT, hb8⟩
      have hval := AT7.out.2.1.val
      have hT2 := hT.uniq (.inl ⟨AT7.out.2.1.form (by rw [AT7.out.1.len]; exact AT7.out.2.2), by rw [hval]; exact rd_lt HRS.out, rfl, rfl⟩)
      rw [hval] at hT2
      obtain ⟨rfl, rfl⟩ := hT2
      clear hT hval AT7
      replace hbw := Below.on hbw hb8
      clear hb8
      obtain ⟨q8, hq8⟩ : ∃ q : ByteArray, Hid (q = ⟨(Lib.decDigits (dN s s.size)).toArray⟩) := ⟨_, rfl⟩
      rw [← hq8.out]
      go_wp2_with fail
      refine (stripped_ok s (isD_all HRS.out.2.2) HRS.out.2.1 HRS.out.1).mono ?_
      rintro e v9 ⟨rfl, hb9⟩
      rw [← dN_all, ← hq8.out]
      replace hbw := Below.on hbw hb9
      clear hb9
      go_wp2_with fail
      go_ret
      exact ⟨rfl, hbw⟩
    · obtain ⟨er7, her7⟩ : ∃ x, Hid (x = rdErr s) := ⟨_, rfl⟩
      refine (read_ok s).mono ?_
      rintro e v7 ⟨⟨hn, -⟩ | ⟨-, rfl⟩, hb7⟩
      · exact absurd hn hR
      rw [← her7.out]
      have hne : (er7 == 0) = false := by rw [her7.out]; unfold rdErr; split <;> rfl
      replace hbw := Below.on hbw hb7
      clear hb7
      go_wp2_with fail
      go_ret
      exact ⟨rfl, hbw⟩
  · have hne2 : (er2 == 0) = false := by simpa using he2
    clear HT
    go_wp2_with fail
    clear hne2 he2
    by_cases hR : RdOk s
    · refine (read_ok s).mono ?_
      rintro e v7 ⟨⟨-, p7, m7, rfl, hG⟩ | ⟨hn, -⟩, hb7⟩
      rotate_left
      · exact absurd hR hn
      obtain ⟨⟨zs7, hz1, hz2⟩, hz3⟩ := hG.gn
      have AT7 : Hid (At v7 p7 m7 m7 zs7 ∧ Nf B64 zs7 (dN s s.size) ∧ m7 ≤ 8192) := ⟨hz1, hz2, hz3⟩
      have HRS : Hid (RdOk s) := hR
      clear hz1 hz2 hz3 hG hR
      replace hbw := Below.on hbw hb7
      clear hb7
      go_wp2_with fail
      refine (text_ok AT7.out.1 (AT.out.2.1.below hbw)).mono ?_
      rintro e v8 ⟨t8, er8, rfl, hT, hb8⟩
      have hval := AT7.out.2.1.val
      have hT2 := hT.uniq (.inl ⟨AT7.out.2.1.form (by rw [AT7.out.1.len]; exact AT7.out.2.2), by rw [hval]; exact rd_lt HRS.out, rfl, rfl⟩)
      rw [hval] at hT2
      obtain ⟨rfl, rfl⟩ := hT2
      clear hT hval AT7
      replace hbw := Below.on hbw hb8
      clear hb8
      obtain ⟨q8, hq8⟩ : ∃ q : ByteArray, Hid (q = ⟨(Lib.decDigits (dN s s.size)).toArray⟩) := ⟨_, rfl⟩
      rw [← hq8.out]
      go_wp2_with fail
      refine (stripped_ok s (isD_all HRS.out.2.2) HRS.out.2.1 HRS.out.1).mono ?_
      rintro e v9 ⟨rfl, hb9⟩
      rw [← dN_all, ← hq8.out]
      replace hbw := Below.on hbw hb9
      clear hb9
      go_wp2_with fail
      go_ret
      exact ⟨rfl, hbw⟩
    · obtain ⟨er7, her7⟩ : ∃ x, Hid (x = rdErr s) := ⟨_, rfl⟩
      refine (read_ok s).mono ?_
      rintro e v7 ⟨⟨hn, -⟩ | ⟨-, rfl⟩, hb7⟩
      · exact absurd hn hR
      rw [← her7.out]
      have hne : (er7 == 0) = false := by rw [her7.out]; unfold rdErr; split <;> rfl
      replace hbw := Below.on hbw hb7
      clear hb7
      go_wp2_with fail
      go_ret
      exact ⟨rfl, hbw⟩
end Go.Proofs.YtpebgjpfgfimgaaDoor
