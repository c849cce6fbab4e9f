import Derived.WalkSmall
import Derived.Laws.Concat
import Derived.Test.YthoolgbofmnghaaGreatDoorJ13
import Derived.Test.YthoolgbofmnghaaGreatDoorJ11
import Derived.Test.YthoolgbofmnghaaGreatDoorJ12
import Derived.Test.YthoolgbofmnghaaGreatDoorJ10
import Derived.Test.YthoolgbofmnghaaGreatDoorJ8
import Derived.Test.YthoolgbofmnghaaGreatDoorJ9
import Derived.Laws.Cover1
import Derived.Deep.RegionLaw
import Derived.Deep.LoopGhost
namespace Go.Proofs.YthoolgbofmnghaaGreatDoor
open Go.RowKit Go.Shelf

def TbP (w : World) : Prop := Lib.TabIs Tryz.prog w "internal/strconv.uint64pow10" .u64 Lib.pow10Tab
theorem TbP.below {w w' : World} (h : TbP w) (hb : Below w.heap.size w w') : TbP w' := by
  unfold TbP Lib.TabIs World.var? at *
  cases hg : Program.globalNamed Tryz.prog "internal/strconv.uint64pow10" with
  | none => simp [hg] at h
  | some g =>
    simp only [hg, Option.bind_some] at h ⊢
    have hlt : g < w.heap.size := by
      rcases Nat.lt_or_ge g w.heap.size with h1 | h1
      · exact h1
      · rw [Array.getElem?_eq_none h1] at h; simp at h
    rw [hb.block g hlt]
    exact h
open Go.Sort in
theorem belGrow (w : World) (k : Nat) (os : Array Obj) : Below w.heap.size w (grow (w.drewN k) os) :=
  ⟨rfl, rfl, rfl, by simp [grow], fun i hi => by show ((w.drewN k).heap ++ os)[i]? = _; rw [Array.getElem?_append_left (by show i < w.heap.size; omega)]; rfl⟩
theorem repeat_c (l : List UInt8) (c : Nat) (w : World) (hc : c ≤ 100000) (hl : l.length ≤ 100000) :
    Calls Tryz.prog 75 #[.string (bs l), .int .i64 c] w fun e w' => e = .returned (.string (bs (Lib.repeatL l c))) ∧ Below w.heap.size w w' :=
  Any.strings_Repeat laytn105 laytX (bs l) c w (by omega) (by rw [bs_size]; exact Nat.le_trans (Nat.mul_le_mul hl hc) (by decide))
theorem trimrb_c (l : List UInt8) (c : UInt8) (w : World) (hl : l.length ≤ 100000) :
    Calls Tryz.prog 104 #[.string (bs l), .int .u8 c.toNat] w fun e w' => e = .returned (.string (bs (Lib.trimRightB l c))) ∧ w' = w :=
  Any.strings_trimRightByte laytn232 (bs l) c w (by rw [bs_size]; omega)
theorem itoa_c (n : Int) (h0 : -1000000 ≤ n) (h1 : n ≤ 1000000) (w : World) (htab : TbP w) :
    Calls Tryz.prog 16 #[.int .i64 n] w fun e w' => e = .returned (.string (bs (Lib.itoa n))) ∧ Below w.heap.size w w' :=
  (Any.strconv_Itoa laytn171 n (by omega) (by omega) w htab).mono fun e w' ⟨he, k, os, hw⟩ => ⟨he, hw ▸ belGrow w k os⟩
theorem repl1 (n : Nat) : Lib.repeatL [48] n = List.replicate n 48 := by
  induction n with
  | zero => rfl
  | succ n ih => rw [Lib.repeatL, ih, List.replicate_succ]; rfl
theorem hexL_len : ∀ (f x : Nat), (hexL f x).length ≤ f
  | 0, _ => Nat.le_refl _
  | f + 1, x => by
    show (if x < 16 then _ else _ : List UInt8).length ≤ _
    split
    · show 1 ≤ f + 1; omega
    · rw [List.length_append]; have := hexL_len f (x / 16); show _ + 1 ≤ _; omega
theorem hexL_ne {f : Nat} (hf : 0 < f) (x : Nat) : 0 < (hexL f x).length := by
  cases f with
  | zero => omega
  | succ f =>
    show 0 < (if x < 16 then _ else _ : List UInt8).length
    split
    · exact Nat.one_pos
    · rw [List.length_append]; exact Nat.lt_of_lt_of_le Nat.one_pos (Nat.le_add_left _ _)
def frF (x : Nat) : List UInt8 := Lib.trimRightB (List.replicate (16 - (hexL 16 x).length) 48 ++ hexL 16 x) 48
theorem ndig_le (u : Nat) : Lib.nDigits u ≤ u / 10 + 1 := by
  induction u using Nat.strongRecOn with
  | ind u ih =>
    by_cases h : u < 10
    · rw [Lib.nDigits_small h]; omega
    · rw [Lib.nDigits_big h]; have := ih (u / 10) (by omega); omega
theorem itoa_len {n : Int} (h0 : -100000 ≤ n) (h1 : n ≤ 100000) : (Lib.itoa n).length ≤ 100000 := by
  unfold Lib.itoa
  split
  · rw [List.length_cons, Lib.decDigits_length]; have := ndig_le n.natAbs; omega
  · rw [Lib.decDigits_length]; have := ndig_le n.toNat; omega
def sgT (n : Int) : List UInt8 := if n < 0 then Lib.itoa n else 43 :: Lib.itoa n
set_option maxRecDepth 20000 in
set_option maxHeartbeats 0 in
theorem trimr_c {l : List UInt8} {w : World} (hl : 1 ≤ l.length ∧ l.length ≤ 100000) :
    Calls Tryz.prog 74 #[.string (bs l), .string ⟨#[48]⟩] w fun en w' => en = .returned (.string (bs (Lib.trimRightB l 48))) ∧ w' = w := by
  have H : Hid (1 ≤ l.length ∧ l.length ≤ 100000) := hl
  have he : (bs l).toList.isEmpty = false := emp1 (by intro h; rw [h] at hl; exact absurd hl.1 (by decide))
  clear hl
  go_enter Tryz.func74, Tryz.ntmps74
  go_wp2_with fail
  refine (trimrb_c l 48 _ H.out.2).mono ?_
  rintro e w2 ⟨rfl, rfl⟩
  go_wp2_with fail
  go_ret
  exact ⟨rfl, rfl⟩
set_option maxRecDepth 20000 in
set_option maxHeartbeats 0 in
theorem fraction_c {x : Nat} {w : World} (hx : x < B64) (hT : Tab w) :
    Calls Tryz.prog 48 #[U x] w fun en w' => en = .returned (.string (bs (frF x))) ∧ Below w.heap.size w w' := by
  have H : Hid (x < B64 ∧ Tab w) := ⟨hx, hT⟩
  clear hx hT
  go_enter Tryz.func48, Tryz.ntmps48
  go_wp2_with fail
  refine (fmt16 H.out.1 H.out.2).mono ?_
  rintro e w2 ⟨rfl, hb2⟩
  have HB2 : Hid (Below w.heap.size w w2) := hb2
  obtain ⟨d, hd⟩ : ∃ d, d = hexL 16 x := ⟨_, rfl⟩
  have HD : Hid (d = hexL 16 x) := hd
  have hdl : d.length ≤ 16 := by rw [hd]; exact hexL_len 16 x
  have hd1 : 0 < d.length := by rw [hd]; exact hexL_ne (by decide) x
  rw [← hd]
  clear hb2 hd
  obtain ⟨n, hn⟩ : ∃ n, n = 16 - d.length := ⟨_, rfl⟩
  have hn16 : n ≤ 15 := by omega
  have HN : Hid (n = 16 - d.length ∧ 0 < d.length ∧ d.length ≤ 16) := ⟨hn, hd1, hdl⟩
  have hsz : (bs d).size = 16 - n := by rw [bs_size]; omega
  clear hdl hd1 hn
  go_wp2_with fail
  rw [show (16 : Int) - ((16 - n : Nat) : Int) = (n : Int) by omega]
  refine (repeat_c [48] n _ (by omega) (by decide)).mono ?_
  rintro e w3 ⟨rfl, hb3⟩
  rw [repl1]
  have HB3 : Hid (Below w.heap.size w w3) := Below.on HB2.out hb3
  obtain ⟨r, hr⟩ : ∃ r, r = List.replicate n (48 : UInt8) := ⟨_, rfl⟩
  rw [← hr]
  have HR : Hid (r = List.replicate n (48 : UInt8)) := hr
  have hrl : r.length = n := by rw [hr, List.length_replicate]
  have hcat : ∀ W, (Op.stringOp .add (bs r) (bs d)).run Tryz.prog W = .ok (.string (bs (r ++ d))) W := fun W => cat_run r d W (by have := HN.out; omega)
  have hsr : (bs r).size = n := by rw [bs_size, hrl]
  have hbd : ¬ ((bs r).size + (bs d).size > 9223372036854775807) := by rw [hsr, hsz]; omega
  clear hb3 hr HB2
  go_wp2_with fail
  refine (trimr_c (l := r ++ d) (by rw [List.length_append]; have := HN.out; omega)).mono ?_
  rintro e w4 ⟨rfl, rfl⟩
  go_wp2_with fail
  go_ret
  exact ⟨by unfold frF; rw [← HD.out, HR.out, HN.out.1]; rfl, HB3.out⟩
set_option maxRecDepth 20000 in
set_option maxHeartbeats 0 in
theorem signed_c {n : Int} {w : World} (h0 : -100000 ≤ n) (h1 : n ≤ 100000) (hT : TbP w) :
    Calls Tryz.prog 49 #[.int .i64 n] w fun en w' => en = .returned (.string (bs (sgT n))) ∧ Below w.heap.size w w' := by
  have H : Hid (-100000 ≤ n ∧ n ≤ 100000 ∧ TbP w) := ⟨h0, h1, hT⟩
  have hlen : (Lib.itoa n).length ≤ 100000 := itoa_len h0 h1
  clear h0 h1 hT
  by_cases hn : n < 0
  · have hd : decide (n < 0) = true := decide_eq_true hn
    have HS : Hid (sgT n = Lib.itoa n) := if_pos hn
    clear hn
    go_enter Tryz.func49, Tryz.ntmps49
    go_wp2_with fail
    refine (itoa_c n (by have := H.out; omega) (by have := H.out; omega) _ H.out.2.2).mono ?_
    rintro e w2 ⟨rfl, hb⟩
    go_wp2_with fail
    go_ret
    exact ⟨by rw [HS.out]; rfl, hb⟩
  have hd : decide (n < 0) = false := decide_eq_false hn
  have HS : Hid (sgT n = 43 :: Lib.itoa n) := if_neg hn
  clear hn
  go_enter Tryz.func49, Tryz.ntmps49
  go_wp2_with fail
  refine (itoa_c n (by have := H.out; omega) (by have := H.out; omega) _ H.out.2.2).mono ?_
  rintro e w2 ⟨rfl, hb⟩
  have hcat : ∀ W, (Op.stringOp .add ⟨#[43]⟩ (bs (Lib.itoa n))).run Tryz.prog W = .ok (.string (bs (43 :: Lib.itoa n))) W := fun W => cat_run [43] (Lib.itoa n) W (by show 1 + _ ≤ _; omega)
  have hbd : ¬ ((⟨#[43]⟩ : ByteArray).size + (bs (Lib.itoa n)).size > 9223372036854775807) := by rw [bs_size]; show ¬ (1 + _ > _); omega
  go_wp2_with fail
  go_ret
  exact ⟨by rw [HS.out]; rfl, hb⟩
end Go.Proofs.YthoolgbofmnghaaGreatDoor

namespace Go.Proofs.YthoolgbofmnghaaGreatDoor
open Go.RowKit Go.Shelf

def dgF (man : Nat) : List UInt8 := frF (man * 2 ^ (64 - (bitsN man - 1)) % B64)
def exF (man : Nat) (exp : Int) : List UInt8 :=
  if man = 0 then [48, 120, 48, 112, 43, 48] else [48, 120, 49] ++ (if dgF man = [] then [] else 46 :: dgF man) ++ [112] ++ sgT (exp + (bitsN man - 1 : Nat))
theorem bitsN_le64 {x : Nat} (h : x < B64) : bitsN x ≤ 64 := by
  by_cases h0 : x = 0
  · rw [h0, bitsN_zero]; omega
  · refine Nat.le_of_not_lt fun h1 => ?_
    have h2 := bitsN_le x h0
    have h3 : 2 ^ 64 ≤ 2 ^ (bitsN x - 1) := Nat.pow_le_pow_right (by decide) (by omega)
    exact absurd (Nat.lt_of_le_of_lt (Nat.le_trans h3 h2) h) (by decide)
theorem bitsN_posX {x : Nat} (h : x ≠ 0) : 0 < bitsN x := by rw [bitsN_half x h]; omega
theorem frF_len (x : Nat) : (frF x).length ≤ 32 := by
  unfold frF Lib.trimRightB
  rw [List.length_reverse]
  refine Nat.le_trans (List.dropWhile_sublist _).length_le ?_
  rw [List.length_reverse, List.length_append, List.length_replicate]
  have := hexL_len 16 x
  omega
set_option maxRecDepth 20000 in
set_option maxHeartbeats 0 in
theorem exact_0 {exp : Int} {w : World} :
    Calls Tryz.prog 24 #[U 0, .int .i64 exp] w fun en w' => en = .returned (.string (bs (exF 0 exp))) ∧ Below w.heap.size w w' := by
  go_enter Tryz.func24, Tryz.ntmps24
  go_wp2_with fail
  go_ret
  exact ⟨rfl, Below.refl _ _⟩
set_option maxRecDepth 20000 in
set_option maxHeartbeats 0 in
theorem exact_n {man : Nat} {exp : Int} {w : World} (h0 : man ≠ 0) (h1 : man < B64) (he : -2000 ≤ exp ∧ exp ≤ 2000) (hT : Tab w) (hP : TbP w) :
    Calls Tryz.prog 24 #[U man, .int .i64 exp] w fun en w' => en = .returned (.string (bs (exF man exp))) ∧ Below w.heap.size w w' := by
  have H : Hid (man ≠ 0 ∧ man < B64 ∧ (-2000 ≤ exp ∧ exp ≤ 2000) ∧ Tab w ∧ TbP w) := ⟨h0, h1, he, hT, hP⟩
  have hd : decide ((man : Int) = 0) = false := decide_eq_false (by omega)
  have hm0 : ¬ ((man : Int) = 0) := by omega
  clear h0 h1 he hT hP
  go_enter Tryz.func24, Tryz.ntmps24
  go_wp2_with fail
  refine (len_any man _ H.out.2.1).mono ?_
  rintro e w2 ⟨rfl, rfl⟩
  obtain ⟨t, ht⟩ : ∃ t, t = bitsN man - 1 := ⟨_, rfl⟩
  have hbn := bitsN_le64 H.out.2.1
  have hbp := bitsN_posX H.out.1
  have ht1 : (bitsN man : Int) - 1 = (t : Int) := by omega
  have htt : t ≤ 63 := by omega
  have HTT : Hid (t = bitsN man - 1) := ht
  rw [show bitsN man = t + 1 by omega]
  clear ht hbn hbp ht1
  go_wp2_with fail
  obtain ⟨y, hy⟩ : ∃ y, y = man * 2 ^ (64 - t) % B64 := ⟨_, rfl⟩
  have hyw : IntKind.u64.wrap ((man : Int) * 2 ^ (64 - t)) = (y : Int) := by rw [IntKind.wrap_u64, hy]; rw [Int.natCast_emod, Int.natCast_mul, Int.natCast_pow]; rfl
  have HY : Hid (y < B64 ∧ dgF man = frF y) := ⟨by rw [hy]; exact Nat.mod_lt _ (by decide), by unfold dgF; rw [← HTT.out, hy]⟩
  rw [hyw]
  clear hy hyw
  refine (fraction_c HY.out.1 H.out.2.2.2.1).mono ?_
  rintro e w3 ⟨rfl, hb3⟩
  have hql := frF_len y
  obtain ⟨q, hq⟩ : ∃ q, q = frF y := ⟨_, rfl⟩
  rw [← hq]
  rw [← hq] at hql HY
  have HB3 : Hid (Below w2.heap.size w2 w3) := hb3
  have HP3 : Hid (TbP w3) := H.out.2.2.2.2.below hb3
  have hx1 := H.out.2.2.1.1
  have hx2 := H.out.2.2.1.2
  obtain ⟨n, hn⟩ : ∃ n, n = exp + (t : Int) := ⟨_, rfl⟩
  have HNN : Hid (n = exp + (t : Int) ∧ -100000 ≤ n ∧ n ≤ 100000) := ⟨hn, by omega, by omega⟩
  clear hq hb3
  have hE0 : exF man exp = [48, 120, 49] ++ (if q = [] then [] else 46 :: q) ++ [112] ++ sgT n := by unfold exF; rw [if_neg H.out.1, HY.out.2, hn, HTT.out]
  have HE : Hid (exF man exp = [48, 120, 49] ++ (if q = [] then [] else 46 :: q) ++ [112] ++ sgT n) := hE0
  clear hE0
  have hsl : (sgT n).length ≤ 100001 := by have h := itoa_len HNN.out.2.1 HNN.out.2.2; unfold sgT; split <;> (try rw [List.length_cons]) <;> omega
  by_cases hq0 : q = []
  · subst hq0
    have hem : (bs ([] : List UInt8)).toList.isEmpty = true := emp0
    have hsh : (⟨#[48, 120, 49]⟩ : ByteArray) ++ (⟨#[112]⟩ : ByteArray) = bs [48, 120, 49, 112] := rfl
    go_wp2_with fail
    obtain ⟨T, hT⟩ : ∃ T : List UInt8, T = [48, 120, 49, 112] := ⟨_, rfl⟩
    rw [← hT]
    rw [← hn]
    refine (signed_c HNN.out.2.1 HNN.out.2.2 HP3.out).mono ?_
    rintro e w4 ⟨rfl, hb4⟩
    have HB4 : Hid (Below w2.heap.size w2 w4) := Below.on HB3.out hb4
    have hTl : T.length ≤ 100 := by rw [hT]; simp <;> omega
    have hTE : exF man exp = T ++ sgT n := by rw [HE.out, hT]; rfl
    have HTE : Hid (exF man exp = T ++ sgT n) := hTE
    clear hTE
    obtain ⟨s, hs⟩ : ∃ s, s = sgT n := ⟨_, rfl⟩
    rw [← hs] at HTE hsl
    rw [← hs]
    have hcB : ∀ W, (Op.stringOp .add (bs T) (bs s)).run Tryz.prog W = .ok (.string (bs (T ++ s))) W := fun W => cat_run T s W (by omega)
    have hbB : ¬ ((bs T).size + (bs s).size > 9223372036854775807) := by rw [bs_size, bs_size]; omega
    clear hs hT hb4
    go_wp2_with fail
    go_ret
    exact ⟨by rw [HTE.out]; rfl, HB4.out⟩
  · have hem : (bs q).toList.isEmpty = false := emp1 hq0
    have hcC : ∀ W, (Op.stringOp .add ⟨#[46]⟩ (bs q)).run Tryz.prog W = .ok (.string (bs (46 :: q))) W := fun W => cat_run [46] q W (by show 1 + _ ≤ _; omega)
    have hbC : ¬ ((⟨#[46]⟩ : ByteArray).size + (bs q).size > 9223372036854775807) := by rw [bs_size]; show ¬ (1 + _ > _); omega
    have hcD : ∀ W, (Op.stringOp .add ⟨#[48, 120, 49]⟩ (bs (46 :: q))).run Tryz.prog W = .ok (.string (bs ([48, 120, 49] ++ 46 :: q))) W := fun W => cat_run [48, 120, 49] (46 :: q) W (by show 3 + (_ + 1) ≤ _; omega)
    have hbD : ¬ ((⟨#[48, 120, 49]⟩ : ByteArray).size + (bs (46 :: q)).size > 9223372036854775807) := by rw [bs_size]; show ¬ (3 + (_ + 1) > _); omega
    have hbA : ¬ ((bs (48 :: 120 :: 49 :: 46 :: q)).size + (⟨#[112]⟩ : ByteArray).size > 9223372036854775807) := by rw [bs_size]; show ¬ (_ + 1 > _); simp <;> omega
    have hsh : bs (48 :: 120 :: 49 :: 46 :: q) ++ (⟨#[112]⟩ : ByteArray) = bs (48 :: 120 :: 49 :: 46 :: (q ++ [112])) := bs_cat _ [112]
    go_wp2_with fail
    obtain ⟨T, hT⟩ : ∃ T : List UInt8, T = 48 :: 120 :: 49 :: 46 :: (q ++ [112]) := ⟨_, rfl⟩
    rw [← hT]
    rw [← hn]
    refine (signed_c HNN.out.2.1 HNN.out.2.2 HP3.out).mono ?_
    rintro e w4 ⟨rfl, hb4⟩
    have HB4 : Hid (Below w2.heap.size w2 w4) := Below.on HB3.out hb4
    have hTl : T.length ≤ 100 := by rw [hT]; simp <;> omega
    have hTE : exF man exp = T ++ sgT n := by rw [HE.out, hT]; rw [if_neg hq0]; simp
    have HTE : Hid (exF man exp = T ++ sgT n) := hTE
    clear hTE
    obtain ⟨s, hs⟩ : ∃ s, s = sgT n := ⟨_, rfl⟩
    rw [← hs] at HTE hsl
    rw [← hs]
    have hcB : ∀ W, (Op.stringOp .add (bs T) (bs s)).run Tryz.prog W = .ok (.string (bs (T ++ s))) W := fun W => cat_run T s W (by omega)
    have hbB : ¬ ((bs T).size + (bs s).size > 9223372036854775807) := by rw [bs_size, bs_size]; omega
    clear hs hT hb4
    go_wp2_with fail
    go_ret
    exact ⟨by rw [HTE.out]; rfl, HB4.out⟩
def printF (le : Int) (H S I b : Nat) : List UInt8 :=
  if I < b % S then [110, 97, 110] else (if S ≤ b then [45] else []) ++ (if b % S = I then [105, 110, 102] else exF (b % S - (b % S / H - 1) * H) (le + ((b % S / H - 1 : Nat) : Int)))
theorem exF_len {man : Nat} {e : Int} (h0 : -2000 ≤ e) (h1 : e ≤ 2000) (hm : man < B64) : (exF man e).length ≤ 100200 := by
  unfold exF
  split
  · show 6 ≤ _; omega
  · have h1 : (dgF man).length ≤ 32 := frF_len _
    have h2 := bitsN_le64 hm
    have h3 : (sgT (e + (bitsN man - 1 : Nat))).length ≤ 100001 := by
      have h := itoa_len (n := e + (bitsN man - 1 : Nat)) (by omega) (by omega)
      unfold sgT
      split <;> (try rw [List.length_cons]) <;> omega
    simp only [List.length_append]
    split
    · show 3 + 0 + 1 + _ ≤ _; omega
    · have h4 : (46 :: dgF man).length ≤ 33 := by rw [List.length_cons]; omega
      show 3 + _ + 1 + _ ≤ _; omega
theorem exact_c {man : Nat} {exp : Int} {w : World} (h1 : man < B64) (he : -2000 ≤ exp ∧ exp ≤ 2000) (hT : Tab w) (hP : TbP w) :
    Calls Tryz.prog 24 #[U man, .int .i64 exp] w fun en w' => en = .returned (.string (bs (exF man exp))) ∧ Below w.heap.size w w' := by
  by_cases h0 : man = 0
  · subst h0; exact exact_0
  · exact exact_n h0 h1 he hT hP
theorem cls4 {H I z : Nat} (hH : 0 < H) (hHI : H ≤ I) : (clsN H I z = 4 ↔ I < z) ∧ (clsN H I z = 3 ↔ z = I) := by
  unfold clsN
  constructor <;> (split <;> (try split) <;> (try split) <;> (try split)) <;> omega
set_option maxRecDepth 20000 in
set_option maxHeartbeats 0 in
theorem print_c {f p m le : Int} {S I H sd : Nat} {Be : Int} (J : Jn f p m le S I H sd Be) (hSg : ∀ w, Calls Tryz.prog 22 #[WV p m le] w fun e w' => e = .returned (U S) ∧ Below w.heap.size w w') (hAN : ∀ b : Nat, b < 2 * S → bits BinOp.andNot IntKind.u64 (b : Int) (S : Int) = ((b % S : Nat) : Int)) {b : Nat} {w : World} (hb : b < 2 * S) (hT : Tab w) (hP : TbP w) :
    Calls Tryz.prog 11 #[.int .i64 f, U b] w fun en w' => en = .returned (.tuple #[.string (bs (printF le H S I b)), .int .i64 0]) ∧ Below w.heap.size w w' := by
  have HJ : Hid (Jn f p m le S I H sd Be) := J
  have HSg : Hid (∀ w, Calls Tryz.prog 22 #[WV p m le] w fun e w' => e = .returned (U S) ∧ Below w.heap.size w w') := hSg
  have HX : Hid (b < 2 * S ∧ Tab w ∧ TbP w) := ⟨hb, hT, hP⟩
  have han := hAN b hb
  obtain ⟨z, hz⟩ : ∃ z, z = b % S := ⟨_, rfl⟩
  rw [← hz] at han
  have HZ : Hid (z = b % S) := hz
  clear J hSg hAN hb hT hP hz
  go_enter Tryz.func11, Tryz.ntmps11
  go_wp2_with fail
  refine (HJ.out.cl b _ HX.out.1).mono ?_
  rintro e w2 ⟨rfl, hb2⟩
  rw [← HZ.out]
  have HB2 : Hid (Below w.heap.size w w2) := hb2
  obtain ⟨c, hc⟩ : ∃ c, c = clsN H I z := ⟨_, rfl⟩
  rw [← hc]
  have HC : Hid (c = clsN H I z) := hc
  clear hb2 hc
  by_cases hn : c = 4
  · have hIz : I < z := (cls4 HJ.out.jm.pm.hp (by have := HJ.out.jm.pm.h2; omega)).1.1 (HC.out ▸ hn)
    have HPR : Hid (printF le H S I b = [110, 97, 110]) := by have h := hIz; rw [HZ.out] at h; exact if_pos h
    clear hIz
    go_wp2_with fail
    go_ret2
    exact ⟨by rw [HPR.out]; rfl, HB2.out⟩
  · have hIz : ¬ I < z := fun h => hn (HC.out.trans ((cls4 HJ.out.jm.pm.hp (by have := HJ.out.jm.pm.h2; omega)).1.2 h))
    have HIZ : Hid (¬ I < z) := hIz
    have hd4 : (c == 4) = false := by simpa using hn
    clear hIz
    go_wp2_with fail
    refine (HJ.out.jm.pm.fm.of _).mono ?_
    rintro e w3 ⟨rfl, hb3⟩
    have HB3 : Hid (Below w.heap.size w w3) := Below.on HB2.out hb3
    clear hb3 HB2
    go_wp2_with fail
    refine (HSg.out _).mono ?_
    rintro e w4 ⟨rfl, hb4⟩
    have HB4 : Hid (Below w.heap.size w w4) := Below.on (Below.on HB3.out (below1 w3 _)) hb4
    clear hb4 HB3
    by_cases h3 : c = 3
    · have hzI : z = I := (cls4 HJ.out.jm.pm.hp (by have := HJ.out.jm.pm.h2; omega)).2.1 (HC.out ▸ h3)
      have hd3 : (c == 3) = true := by simpa using h3
      have HTX : Hid (printF le H S I b = (if S ≤ b then [45] else []) ++ [105, 110, 102]) := by unfold printF; rw [← HZ.out, if_neg HIZ.out, if_pos hzI]; rfl
      clear hzI
      have HTL : Hid (([105, 110, 102] : List UInt8).length ≤ 100200) := by show 3 ≤ _; omega
      have hzb : (z = b) ↔ ¬ S ≤ b := by have h1 := HZ.out; have h2 := HX.out.1; constructor <;> intro h <;> (first | (intro h3; rw [Nat.mod_eq_sub_mod h3, Nat.mod_eq_of_lt (by omega)] at h1; have := HJ.out.jm.pm.fm.lt; omega) | (rw [Nat.mod_eq_of_lt (by omega)] at h1; exact h1))
      by_cases hsg : S ≤ b
      · have hzz : ¬ (z : Int) = (b : Int) := fun h => (hzb.1 (by omega)) hsg
        have hzd : ((z : Int) == (b : Int)) = false := by simpa using hzz
        have HTY : Hid (printF le H S I b = 45 :: [105, 110, 102]) := by rw [HTX.out, if_pos hsg]; rfl
        have hcat : ∀ W, (Op.stringOp .add ⟨#[45]⟩ (bs ([105, 110, 102]))).run Tryz.prog W = .ok (.string (bs (45 :: [105, 110, 102]))) W := fun W => cat_run [45] ([105, 110, 102]) W (by show 1 + _ ≤ _; have := HTL.out; omega)
        have hbA : ¬ ((⟨#[45]⟩ : ByteArray).size + (bs ([105, 110, 102])).size > 9223372036854775807) := by rw [bs_size]; show ¬ (1 + _ > _); have := HTL.out; omega
        clear hzb
        go_wp2_with fail
        go_ret2
        exact ⟨by rw [HTY.out]; rfl, HB4.out⟩
      · have hzz : z = b := hzb.2 hsg
        have hzz2 : (z : Int) = (b : Int) := by omega
        have HTY : Hid (printF le H S I b = [105, 110, 102]) := by rw [HTX.out, if_neg hsg]; rfl
        clear hzb
        go_wp2_with fail
        go_ret2
        exact ⟨by rw [HTY.out]; rfl, HB4.out⟩
    · have hzI : z ≠ I := fun h => h3 (HC.out.trans ((cls4 HJ.out.jm.pm.hp (by have := HJ.out.jm.pm.h2; omega)).2.2 h))
      have hzlt : z < I := by have := HIZ.out; omega
      have hd3 : (c == 3) = false := by simpa using h3
      have HZI : Hid (z < I) := hzlt
      have HTX0 : Hid (printF le H S I b = (if S ≤ b then [45] else []) ++ exF (z - (z / H - 1) * H) (le + ((z / H - 1 : Nat) : Int))) := by unfold printF; rw [← HZ.out, if_neg HIZ.out, if_neg hzI]; rfl
      clear hzI hzlt
      go_wp2_with fail
      have hzS : z % S = z := Nat.mod_eq_of_lt (by have := HZI.out; have := HJ.out.jm.pm.fm.lt; omega)
      refine (split_ok HJ.out.jm.pm z (by have := HZI.out; have := HJ.out.jm.pm.fm.lt; omega) (by rw [hzS]; exact HZI.out) _).mono ?_
      rintro e w5 ⟨rfl, hb5⟩
      rw [hzS]
      have HB5 : Hid (Below w.heap.size w w5) := Below.on HB4.out hb5
      have hst := HJ.out.jm.pm.st z HZI.out
      have hlo := HJ.out.jm.pm.lo
      have hle := HJ.out.jm.pm.fm.le
      have hlt := HJ.out.jm.pm.fm.lt
      obtain ⟨mn, hmn⟩ : ∃ mn, mn = z - (z / H - 1) * H := ⟨_, rfl⟩
      obtain ⟨ex, hex⟩ : ∃ ex : Int, ex = le + ((z / H - 1 : Nat) : Int) := ⟨_, rfl⟩
      have HME : Hid (mn < B64 ∧ -2000 ≤ ex ∧ ex ≤ 2000) := ⟨Nat.lt_of_le_of_lt (by rw [hmn]; exact Nat.sub_le _ _) (Nat.lt_of_lt_of_le HZI.out (Nat.le_trans (Nat.le_of_lt hlt) (Nat.le_trans hle (by decide)))), by omega, by omega⟩
      rw [← hmn, ← hex] at HTX0
      rw [← hmn, ← hex]
      generalize decide (S ≤ z) = sb
      clear hb5 hzS hst hlo hle hlt hmn hex HB4
      go_wp2_with fail
      refine (exact_c HME.out.1 HME.out.2 (HX.out.2.1.below HB5.out) (HX.out.2.2.below HB5.out)).mono ?_
      rintro e w6 ⟨rfl, hb6⟩
      have HB6 : Hid (Below w.heap.size w w6) := Below.on HB5.out hb6
      have htl := exF_len HME.out.2.1 HME.out.2.2 HME.out.1
      obtain ⟨tx, htx⟩ : ∃ tx, tx = exF mn ex := ⟨_, rfl⟩
      rw [← htx] at htl HTX0
      rw [← htx]
      have HTL : Hid (tx.length ≤ 100200) := htl
      have HTX := HTX0
      clear htl htx hb6 HB5 HTX0
      have hzb : (z = b) ↔ ¬ S ≤ b := by have h1 := HZ.out; have h2 := HX.out.1; constructor <;> intro h <;> (first | (intro h3; rw [Nat.mod_eq_sub_mod h3, Nat.mod_eq_of_lt (by omega)] at h1; have := HJ.out.jm.pm.fm.lt; omega) | (rw [Nat.mod_eq_of_lt (by omega)] at h1; exact h1))
      by_cases hsg : S ≤ b
      · have hzz : ¬ (z : Int) = (b : Int) := fun h => (hzb.1 (by omega)) hsg
        have hzd : ((z : Int) == (b : Int)) = false := by simpa using hzz
        have HTY : Hid (printF le H S I b = 45 :: tx) := by rw [HTX.out, if_pos hsg]; rfl
        have hcat : ∀ W, (Op.stringOp .add ⟨#[45]⟩ (bs (tx))).run Tryz.prog W = .ok (.string (bs (45 :: tx))) W := fun W => cat_run [45] (tx) W (by show 1 + _ ≤ _; have := HTL.out; omega)
        have hbA : ¬ ((⟨#[45]⟩ : ByteArray).size + (bs (tx)).size > 9223372036854775807) := by rw [bs_size]; show ¬ (1 + _ > _); have := HTL.out; omega
        clear hzb
        go_wp2_with fail
        go_ret2
        exact ⟨by rw [HTY.out]; rfl, HB6.out⟩
      · have hzz : z = b := hzb.2 hsg
        have hzz2 : (z : Int) = (b : Int) := by omega
        have HTY : Hid (printF le H S I b = tx) := by rw [HTX.out, if_neg hsg]; rfl
        clear hzb
        go_wp2_with fail
        go_ret2
        exact ⟨by rw [HTY.out]; rfl, HB6.out⟩
end Go.Proofs.YthoolgbofmnghaaGreatDoor

namespace Go.Proofs.YthoolgbofmnghaaGreatDoor
open Go.RowKit Go.Shelf

theorem hm9 {p : Prop} (h : p) : Hid p := h
structure Hf (f p m le : Int) (S I H sd : Nat) (Be : Int) (Q : Nat) : Prop where
  j : Jn f p m le S I H sd Be
  q : ∀ w, Calls Tryz.prog 28 #[WV p m le] w fun e w' => e = .returned (U Q) ∧ Below w.heap.size w w'
  s : ∀ w, Calls Tryz.prog 22 #[WV p m le] w fun e w' => e = .returned (U S) ∧ Below w.heap.size w w'
  an : ∀ b : Nat, b < 2 * S → bits BinOp.andNot IntKind.u64 (b : Int) (S : Int) = ((b % S : Nat) : Int)
theorem hf_32 : Hf 32 32 24 (-149) 2147483648 2139095040 8388608 23 128 2143289345 := ⟨jn_32, wquiet_32, sign_32, fun b hb => sign_andNot b _ 31 rfl (by decide) hb⟩
theorem hf_64 : Hf 64 64 53 (-1074) 9223372036854775808 9218868437227405312 4503599627370496 52 1024 9221120237041090561 := ⟨jn_64, wquiet_64, sign_64, fun b hb => sign_andNot b _ 63 rfl (by decide) hb⟩
theorem aw_parse : parseF (-1074) 52 1024 9223372036854775808 9218868437227405312 9221120237041090561 [45, 48, 120, 49, 46, 56, 112, 49] = (13837309855095848960, 0) := by decide +kernel
theorem aw_print : printF (-1074) 4503599627370496 9223372036854775808 9218868437227405312 4609434218613702656 = [48, 120, 49, 46, 56, 112, 43, 48] := by decide +kernel
theorem aw_eq : ((bs [48, 120, 49, 46, 56, 112, 43, 48]).toList == [48, 120, 49, 46, 56, 112, 43, 48]) = true := by rw [Lib.toList_data, bs_data]; rfl
structure Wd (w : World) : Prop where
  t : Tab w
  b : 0 < w.heap.size
  p : TbP w
theorem Wd.below {w w' : World} (h : Wd w) (hb : Below w.heap.size w w') : Wd w' := ⟨h.t.below hb, Nat.lt_of_lt_of_le h.b hb.size, h.p.below hb⟩
theorem Hf.parse {f p m le : Int} {S I H sd Q : Nat} {Be : Int} (h : Hf f p m le S I H sd Be Q) (l : List UInt8) {w : World} (hw : Wd w) {x : Nat} {e : Int} (hp : parseF le sd Be S I Q l = (x, e)) :
    Calls Tryz.prog 12 #[.int .i64 f, .string (bs l)] w fun en w' => en = .returned (.tuple #[U x, .int .i64 e]) ∧ Below w.heap.size w w' := by
  have h1 := parse_c h.j h.q (l := l) hw.t hw.b
  rw [hp] at h1
  exact h1
theorem Hf.print {f p m le : Int} {S I H sd Q : Nat} {Be : Int} (h : Hf f p m le S I H sd Be Q) {b : Nat} {w : World} (hb : b < 2 * S) (hw : Wd w) {t : List UInt8} (ht : printF le H S I b = t) :
    Calls Tryz.prog 11 #[.int .i64 f, U b] w fun en w' => en = .returned (.tuple #[.string (bs t), .int .i64 0]) ∧ Below w.heap.size w w' := by
  have h1 := print_c h.j h.s h.an hb hw.t hw.p
  rw [ht] at h1
  exact h1
set_option maxRecDepth 20000 in
set_option maxHeartbeats 0 in
theorem awake10 {w : World} (hw : Wd w) :
    Calls Tryz.prog 9 #[] w fun en w' => en = .returned (.bool true) ∧ Below w.heap.size w w' := by
  have HW : Hid (Wd w) := hw
  clear hw
  go_enter Tryz.func9, Tryz.ntmps9
  go_wp2_with fail
  refine (hf_64.parse [45, 48, 120, 49, 46, 56, 112, 49] HW.out aw_parse).mono ?_
  rintro e w1 ⟨rfl, hb1⟩
  have HB : Hid (Below w.heap.size w w1) := hb1
  clear hb1
  go_wp2_with fail
  refine (hf_64.print (b := 4609434218613702656) (by decide) (HW.out.below HB.out) aw_print).mono ?_
  rintro e w2 ⟨rfl, hb2⟩
  have HB2 : Hid (Below w.heap.size w w2) := Below.on HB.out hb2
  clear hb2
  go_wp2_with fail
  go_ret
  exact ⟨congrArg (fun b => Ending.returned (.bool b)) aw_eq, HB2.out⟩
end Go.Proofs.YthoolgbofmnghaaGreatDoor

namespace Go.Proofs.YthoolgbofmnghaaGreatDoor
open Go.RowKit Go.Shelf

end Go.Proofs.YthoolgbofmnghaaGreatDoor

namespace Go.Proofs.YthoolgbofmnghaaGreatDoor
open Go.RowKit Go.Shelf

theorem sixteen (k : Nat) : (16 : Nat) ^ k = 2 ^ (4 * k) := by rw [show (16 : Nat) = 2 ^ 4 by decide, ← Nat.pow_mul]
theorem itoa_short {n : Int} (h0 : -3000 ≤ n) (h1 : n ≤ 3000) : (Lib.itoa n).length ≤ 302 := by
  unfold Lib.itoa
  split
  · rw [List.length_cons, Lib.decDigits_length]; have := ndig_le n.natAbs; omega
  · rw [Lib.decDigits_length]; have := ndig_le n.toNat; omega
end Go.Proofs.YthoolgbofmnghaaGreatDoor

namespace Go.Proofs.YthoolgbofmnghaaGreatDoor
open Go.RowKit Go.Shelf

def hexW : Nat → Nat → List UInt8
  | 0, _ => []
  | q + 1, x => hexW q (x / 16) ++ [UInt8.ofNat (hxc (x % 16))]
theorem hexW_zero : ∀ q, hexW q 0 = List.replicate q 48
  | 0 => rfl
  | q + 1 => by
    show hexW q (0 / 16) ++ _ = _
    rw [Nat.zero_div, hexW_zero q, List.replicate_succ']; rfl
theorem hexW_pad : ∀ (f x : Nat), x < 16 ^ f → List.replicate (f - (hexL f x).length) 48 ++ hexL f x = hexW f x
  | 0, _, _ => rfl
  | f + 1, x, h => by
    show List.replicate (f + 1 - (if x < 16 then [UInt8.ofNat (hxc x)] else hexL f (x / 16) ++ [UInt8.ofNat (hxc (x % 16))]).length) 48 ++ (if x < 16 then [UInt8.ofNat (hxc x)] else hexL f (x / 16) ++ [UInt8.ofNat (hxc (x % 16))]) = hexW f (x / 16) ++ [UInt8.ofNat (hxc (x % 16))]
    split
    · rename_i hx
      rw [Nat.div_eq_of_lt hx, Nat.mod_eq_of_lt hx, hexW_zero]; rfl
    · have ih := hexW_pad f (x / 16) (by rw [Nat.pow_succ] at h; omega)
      rw [List.length_append, List.length_singleton, Nat.add_sub_add_right, ← List.append_assoc, ih]
theorem hexW_shift (q : Nat) : ∀ (r x : Nat), hexW (q + r) (x * 16 ^ r) = hexW q x ++ List.replicate r 48
  | 0, x => by rw [Nat.pow_zero, Nat.mul_one]; exact (List.append_nil _).symm
  | r + 1, x => by
    show hexW (q + r) (x * 16 ^ (r + 1) / 16) ++ [UInt8.ofNat (hxc (x * 16 ^ (r + 1) % 16))] = _
    rw [show x * 16 ^ (r + 1) = x * 16 ^ r * 16 by rw [Nat.pow_succ, Nat.mul_assoc], Nat.mul_div_cancel _ (by decide), Nat.mul_mod_left, hexW_shift q r x, List.replicate_succ', List.append_assoc]; rfl
theorem hexW_front : ∀ (s y : Nat), hexW (s + 1) y = UInt8.ofNat (hxc (y / 16 ^ s % 16)) :: hexW s y
  | 0, y => by rw [Nat.pow_zero, Nat.div_one]; rfl
  | s + 1, y => by
    show hexW (s + 1) (y / 16) ++ _ = _
    rw [hexW_front s (y / 16), Nat.div_div_eq_div_mul, Nat.mul_comm 16, ← Nat.pow_succ]; rfl
theorem hexW_mod : ∀ (q x : Nat), hexW q (16 ^ q + x) = hexW q x
  | 0, _ => rfl
  | q + 1, x => by
    show hexW q ((16 ^ (q + 1) + x) / 16) ++ [UInt8.ofNat (hxc ((16 ^ (q + 1) + x) % 16))] = _
    rw [show (16 ^ (q + 1) + x) / 16 = 16 ^ q + x / 16 by rw [Nat.pow_succ]; omega, show (16 ^ (q + 1) + x) % 16 = x % 16 by rw [Nat.pow_succ]; omega, hexW_mod q]; rfl
theorem trimR_rep (l : List UInt8) (c : UInt8) : ∀ r, Lib.trimRightB (l ++ List.replicate r c) c = Lib.trimRightB l c
  | 0 => by rw [List.replicate_zero, List.append_nil]
  | r + 1 => by
    have ih := trimR_rep l c r
    unfold Lib.trimRightB at ih ⊢
    rw [List.replicate_succ', ← List.append_assoc, List.reverse_append, show ([c] : List UInt8).reverse = [c] from rfl, List.singleton_append, List.dropWhile_cons, show (c == c) = true by simp, if_pos rfl]
    exact ih
theorem trimR_last (l : List UInt8) {c d : UInt8} (h : d ≠ c) : Lib.trimRightB (l ++ [d]) c = l ++ [d] := by
  unfold Lib.trimRightB
  rw [List.reverse_append, show ([d] : List UInt8).reverse = [d] from rfl, List.singleton_append, List.dropWhile_cons, show (d == c) = false by simpa using h, if_neg (by decide), List.reverse_cons, List.reverse_reverse]
theorem hxc_48 {d : Nat} (h : d < 16) (h0 : d ≠ 0) : UInt8.ofNat (hxc d) ≠ 48 := by
  have h1 : ∀ d, d < 16 → d ≠ 0 → UInt8.ofNat (hxc d) ≠ 48 := by decide +kernel
  exact h1 d h h0
theorem frF_W {q x : Nat} (hq : q ≤ 16) (hx : x < 16 ^ q) (h0 : q = 0 ∨ x % 16 ≠ 0) : frF (x * 16 ^ (16 - q)) = hexW q x := by
  have hlt : x * 16 ^ (16 - q) < 16 ^ 16 := by
    have h1 : x * 16 ^ (16 - q) < 16 ^ q * 16 ^ (16 - q) := Nat.mul_lt_mul_of_pos_right hx (Nat.pow_pos (by decide))
    rwa [← Nat.pow_add, show q + (16 - q) = 16 by omega] at h1
  unfold frF
  rw [hexW_pad 16 _ hlt]
  have h2 := hexW_shift q (16 - q) x
  rw [show q + (16 - q) = 16 by omega] at h2
  rw [h2, trimR_rep]
  cases q with
  | zero => rfl
  | succ q =>
    show Lib.trimRightB (hexW q (x / 16) ++ [UInt8.ofNat (hxc (x % 16))]) 48 = _
    rw [trimR_last _ (hxc_48 (Nat.mod_lt _ (by decide)) (h0.resolve_left (by omega)))]; rfl
theorem dg_same {man m i j q : Nat} (hman : man = m * 2 ^ i) (hm : m % 2 = 1) (hb : man < B64) (hj : j ≤ 3) (hq : bitsN m - 1 + j = 4 * q) (hq16 : 4 * q ≤ 64) : dgF man = hexW q (m * 2 ^ j) ∧ m * 2 ^ j / 16 ^ q = 1 ∧ bitsN man = bitsN m + i := by
  have hm0 : m ≠ 0 := by intro h; rw [h] at hm; cases hm
  have hbi : bitsN man = bitsN m + i := by rw [hman, Nat.mul_comm, bitsN_shl m i hm0, Nat.add_comm]
  have hlo := bitsN_le m hm0
  have hhi := bitsN_lt m
  have hbp := bitsN_posX hm0
  obtain ⟨L, hL⟩ : ∃ L, L = bitsN m - 1 := ⟨_, rfl⟩
  rw [← hL] at hlo hq
  rw [show bitsN m = L + 1 by omega] at hhi
  have h16 : (16 : Nat) ^ q = 2 ^ (L + j) := by rw [sixteen, hq]
  have hMlo : 16 ^ q ≤ m * 2 ^ j := by rw [h16, Nat.pow_add]; exact Nat.mul_le_mul_right _ hlo
  have hMhi : m * 2 ^ j < 16 ^ q + 16 ^ q := by
    rw [h16, show 2 ^ (L + j) + 2 ^ (L + j) = 2 ^ (L + 1) * 2 ^ j by rw [← Nat.pow_add, show L + 1 + j = (L + j) + 1 by omega, Nat.pow_succ]; omega]
    exact Nat.mul_lt_mul_of_pos_right hhi (Nat.two_pow_pos j)
  obtain ⟨x, hx⟩ : ∃ x, m * 2 ^ j = 16 ^ q + x := ⟨m * 2 ^ j - 16 ^ q, by omega⟩
  have hxl : x < 16 ^ q := by omega
  have hdiv : m * 2 ^ j / 16 ^ q = 1 := by
    rw [hx, Nat.add_div_left _ (Nat.pow_pos (by decide)), Nat.div_eq_of_lt hxl]
  have hx0 : q = 0 ∨ x % 16 ≠ 0 := by
    cases q with
    | zero => exact .inl rfl
    | succ q =>
      right
      intro h
      have h1 : (m * 2 ^ j) % 16 = 0 := by rw [hx, Nat.pow_succ]; omega
      obtain rfl | rfl | rfl | rfl : j = 0 ∨ j = 1 ∨ j = 2 ∨ j = 3 := by omega
      all_goals omega
  have hexp : man * 2 ^ (64 - (L + i)) = m * 2 ^ j * 16 ^ (16 - q) := by
    have hLi : L + i ≤ 64 := by have := bitsN_le64 hb; omega
    rw [hman, sixteen, Nat.mul_assoc, Nat.mul_assoc, ← Nat.pow_add, ← Nat.pow_add]
    congr 2; omega
  refine ⟨?_, hdiv, hbi⟩
  unfold dgF
  rw [show bitsN man - 1 = L + i by omega, hexp, hx, Nat.add_mul, ← Nat.pow_add, show q + (16 - q) = 16 by omega, show (16 : Nat) ^ 16 = B64 by rfl, Nat.add_mod_left, Nat.mod_eq_of_lt ?_, frF_W (by omega) hxl hx0, hexW_mod]
  have h1 : x * 16 ^ (16 - q) < 16 ^ q * 16 ^ (16 - q) := Nat.mul_lt_mul_of_pos_right hxl (Nat.pow_pos (by decide))
  rwa [← Nat.pow_add, show q + (16 - q) = 16 by omega] at h1
end Go.Proofs.YthoolgbofmnghaaGreatDoor

namespace Go.Proofs.YthoolgbofmnghaaGreatDoor
open Go.RowKit Go.Shelf

end Go.Proofs.YthoolgbofmnghaaGreatDoor

namespace Go.Proofs.YthoolgbofmnghaaGreatDoor
open Go.RowKit Go.Shelf

set_option maxRecDepth 20000 in
set_option maxHeartbeats 0 in
theorem clsof_bd {f : Int} {b : Nat} {er : Int} (hB : Bad f b er) (he : er ≠ 0) (w : World) :
    Calls Tryz.prog 13 #[.int .i64 f, U b] w fun en w' => en = .returned (.tuple #[.int .i64 0, .int .i64 er]) ∧ Below w.heap.size w w' := by
  have hbw : Below w.heap.size w w := Below.refl _ _
  have HB : Hid (Bad f b er) := hB
  have e1 : (er == 0) = false := by simp [he]
  have e2 : (er != 0) = true := by simp [he]
  clear hB he
  go_enter Tryz.func13, Tryz.ntmps13
  go_wp2_with fail
  refine (HB.out _).mono ?_
  rintro e v1 ⟨rfl, hb1⟩
  replace hbw := Below.on hbw hb1
  clear hb1
  go_wp2_with fail
  go_ret2
  exact ⟨rfl, Below.on hbw (below1 _ _)⟩
set_option maxRecDepth 20000 in
set_option maxHeartbeats 0 in
theorem print_bad {f : Int} {b : Nat} {er : Int} (hB : Bad f b er) (he : er ≠ 0) (w : World) :
    Calls Tryz.prog 11 #[.int .i64 f, U b] w fun en w' => en = .returned (.tuple #[.string ⟨#[]⟩, .int .i64 er]) ∧ Below w.heap.size w w' := by
  have HB : Hid (Bad f b er ∧ er ≠ 0) := ⟨hB, he⟩
  have e1 : (er == 0) = false := by simp [he]
  have e2 : (er != 0) = true := by simp [he]
  clear hB he
  go_enter Tryz.func11, Tryz.ntmps11
  go_wp2_with fail
  refine (clsof_bd HB.out.1 HB.out.2 _).mono ?_
  rintro e w2 ⟨rfl, hb2⟩
  have HB2 : Hid (Below w.heap.size w w2) := hb2
  clear hb2
  go_wp2_with fail
  go_ret2
  exact ⟨rfl, HB2.out⟩
end Go.Proofs.YthoolgbofmnghaaGreatDoor

namespace Go.Proofs.YthoolgbofmnghaaGreatDoor
open Go.RowKit Go.Shelf

end Go.Proofs.YthoolgbofmnghaaGreatDoor

namespace Go.Proofs.YthoolgbofmnghaaGreatDoor
open Go.RowKit Go.Shelf

def NewAt (B : Nat) (w : World) (p : Option Addr) (m c : Nat) (us : List Nat) : Prop := At w p m c us ∧ (m = 0 ∨ ∃ g, p = some ⟨g, 0, none⟩ ∧ B ≤ g)
theorem NewAt.below {B : Nat} {w w' : World} {p : Option Addr} {m c : Nat} {us : List Nat} (h : NewAt B w p m c us) (hb : Below w.heap.size w w') : NewAt B w' p m c us := ⟨h.1.below hb, h.2⟩
theorem NewAt.mono {B B' : Nat} {w : World} {p : Option Addr} {m c : Nat} {us : List Nat} (h : NewAt B w p m c us) (hB : B' ≤ B) : NewAt B' w p m c us :=
  ⟨h.1, h.2.imp id (fun ⟨g, e, k⟩ => ⟨g, e, Nat.le_trans hB k⟩)⟩
theorem NewAt.set {B : Nat} {w : World} {p : Option Addr} {m c : Nat} {us : List Nat} (h : NewAt B w p m c us) {r : Nat} (hr : r < B) (o : Nat) (v : Value) : NewAt B (w.setCell ⟨r, o, none⟩ v) p m c us := by
  refine ⟨?_, h.2⟩
  rcases h.2 with h0 | ⟨g, rfl, hg⟩
  · subst h0
    obtain rfl : us = [] := List.eq_nil_of_length_eq_zero h.1.len
    exact At.empty _ _ _ h.1.big
  · exact h.1.setOther _ _ _ (by omega)
def DocZ (z : Int) (s : Bool) (us : List Nat) (er : Int) : Prop :=
  (z.natAbs < LIM ∧ s = decide (z < 0) ∧ Nf B64 us z.natAbs ∧ er = 0) ∨ (LIM ≤ z.natAbs ∧ s = false ∧ us = [] ∧ er = 5)
theorem DocZ.inj {z : Int} {s s' : Bool} {us us' : List Nat} {er er' : Int} (h : DocZ z s us er) (k : DocZ z s' us' er') : s = s' ∧ us = us' ∧ er = er' := by
  rcases h with ⟨h0, rfl, h1, rfl⟩ | ⟨h0, rfl, rfl, rfl⟩ <;> rcases k with ⟨k0, rfl, k1, rfl⟩ | ⟨k0, rfl, rfl, rfl⟩
  · exact ⟨rfl, h1.inj B64_one k1, rfl⟩
  · omega
  · omega
  · exact ⟨rfl, rfl, rfl⟩
end Go.Proofs.YthoolgbofmnghaaGreatDoor

namespace Go.Proofs.YthoolgbofmnghaaGreatDoor
open Go.RowKit Go.Shelf

def OneZ (r : Int → Int) (sx : Bool) (xs : List Nat) (s : Bool) (us : List Nat) (er : Int) : Prop :=
  (formZ sx xs = false ∧ s = false ∧ us = [] ∧ er = 2) ∨ (formZ sx xs = true ∧ DocZ (r (iv sx (valB B64 xs))) s us er)
def TwoZ (r : Int → Int → Int) (sx : Bool) (xs : List Nat) (sy : Bool) (ys : List Nat) (s : Bool) (us : List Nat) (er : Int) : Prop :=
  ((formZ sx xs && formZ sy ys) = false ∧ s = false ∧ us = [] ∧ er = 2) ∨ ((formZ sx xs && formZ sy ys) = true ∧ DocZ (r (iv sx (valB B64 xs)) (iv sy (valB B64 ys))) s us er)
theorem OneZ.inj {r : Int → Int} {sx : Bool} {xs : List Nat} {s s' : Bool} {us us' : List Nat} {er er' : Int} (h : OneZ r sx xs s us er) (k : OneZ r sx xs s' us' er') : s = s' ∧ us = us' ∧ er = er' := by
  rcases h with ⟨h0, rfl, rfl, rfl⟩ | ⟨h0, h1⟩ <;> rcases k with ⟨k0, rfl, rfl, rfl⟩ | ⟨k0, k1⟩
  · exact ⟨rfl, rfl, rfl⟩
  · rw [h0] at k0; cases k0
  · rw [h0] at k0; cases k0
  · exact h1.inj k1
theorem TwoZ.inj {r : Int → Int → Int} {sx sy : Bool} {xs ys : List Nat} {s s' : Bool} {us us' : List Nat} {er er' : Int} (h : TwoZ r sx xs sy ys s us er) (k : TwoZ r sx xs sy ys s' us' er') : s = s' ∧ us = us' ∧ er = er' := by
  rcases h with ⟨h0, rfl, rfl, rfl⟩ | ⟨h0, h1⟩ <;> rcases k with ⟨k0, rfl, rfl, rfl⟩ | ⟨k0, k1⟩
  · exact ⟨rfl, rfl, rfl⟩
  · rw [h0] at k0; cases k0
  · rw [h0] at k0; cases k0
  · exact h1.inj k1
end Go.Proofs.YthoolgbofmnghaaGreatDoor

namespace Go.Proofs.YthoolgbofmnghaaGreatDoor
open Go.RowKit Go.Shelf

def OffR (g m g2 : Nat) : Prop := m = 0 ∨ g ≠ g2
theorem ZR.setOff {w : World} {s : Bool} {g m : Nat} {z : Int} (h : ZR w s (some ⟨g, 0, none⟩) m z) {g2 : Nat} (hf : OffR g m g2) (o2 : Nat) (v : Value) : ZR (w.setCell ⟨g2, o2, none⟩ v) s (some ⟨g, 0, none⟩) m z := by
  rcases hf with h0 | h0
  · subst h0
    obtain ⟨zs, hA, hN⟩ := h.ex
    obtain rfl : zs = [] := List.eq_nil_of_length_eq_zero hA.len
    exact ⟨⟨[], At32.empty _ _ _ (by decide), hN⟩, h.sg⟩
  · exact h.set g2 o2 v h0
end Go.Proofs.YthoolgbofmnghaaGreatDoor

namespace Go.Proofs.YthoolgbofmnghaaGreatDoor
open Go.RowKit Go.Shelf

structure WinRel32 (w : World) (g off n : Nat) (W D d b : Nat) (ws : List Nat) (wr : World) : Prop where
  wrs : Wr g off (n + 1) w wr
  row : Row32 wr g off (n + 1) ws
  db : d < B32
  bb : b ≤ 1
  ge : W / D ≤ d
  sum : valB B32 ws + D * d = W + B32 ^ (n + 1) * b
theorem WinRel32.done {w : World} {g off n W D d : Nat} {ws : List Nat} {wr : World} (h : WinRel32 w g off n W D d 0 ws wr) (hD : 0 < D) : d = W / D ∧ valB B32 ws = W % D := by
  have h1 := h.sum; have h2 := h.ge
  rw [Nat.mul_zero, Nat.add_zero] at h1
  have h3 : d ≤ W / D := (Nat.le_div_iff_mul_le hD).2 (by rw [Nat.mul_comm]; omega)
  have h4 : d = W / D := by omega
  refine ⟨h4, ?_⟩
  have h5 := Nat.div_add_mod W D
  rw [← h4] at h5
  omega
structure DgS (w : World) (g off n : Nat) (us vs : List Nat) (q k cy ow : Nat) (dk : List Nat) (wr : World) : Prop where
  wrs : Wr g off (n + 1) w wr
  row : Row32 wr g off (n + 1) dk
  hi : dk.drop k = us.drop k
  car : cy < B32
  owb : ow ≤ 1
  fin : k = n + 1 → cy = 0
  sum : valB B32 (dk.take k) + valB B32 (vs.take k) * q = valB B32 (us.take k) + B32 ^ k * (ow + cy)
theorem dgs_abs {P B S V U q d y u o c o' c' : Nat} (h : S + V * q = U + P * (o + c)) (hs : o + c + d + y * q = u + B * (o' + c')) : S + P * d + (V + P * y) * q = U + P * u + P * B * (o' + c') := by
  have e1 : P * (o + c + d + y * q) = P * (u + B * (o' + c')) := by rw [hs]
  rw [Nat.mul_add P (o + c + d) (y * q), Nat.mul_add P (o + c) d, Nat.mul_add P u] at e1
  have e2 : P * (y * q) = P * y * q := (Nat.mul_assoc _ _ _).symm
  have e3 : P * (B * (o' + c')) = P * B * (o' + c') := (Nat.mul_assoc _ _ _).symm
  rw [e2, e3] at e1
  rw [Nat.add_mul]
  generalize P * y * q = X1 at *
  generalize P * B * (o' + c') = X2 at *
  generalize P * (o + c) = X3 at *
  generalize P * d = X4 at *
  generalize P * u = X5 at *
  omega
theorem DgS.step {w : World} {g off n : Nat} {us vs : List Nat} {q k cy ow : Nat} {dk : List Nat} {wr : World} (h : DgS w g off n us vs q k cy ow dk wr) (hk : k < n + 1) (hvl : vs.length = n)
    {y u c1 lo cy' ow' d : Nat} (hy : y = vs.getD k 0) (hu : u = dk.getD k 0) (hc1 : c1 = cy + y * q) (hlo : c1 = lo + B32 * cy') (hcy' : cy' < B32) (how' : ow' ≤ 1) (hd : d + lo + ow = u + B32 * ow') (hdb : d < B32) :
    DgS w g off n us vs q (k + 1) cy' ow' (dk.set k d) (wr.setCell ⟨g, off + k, none⟩ (V d)) := by
  have hlen := h.row.len
  refine ⟨h.wrs.setCell (off + k) ⟨by omega, by omega⟩ _, h.row.set k d hk hdb, ?_, hcy', how', ?_, ?_⟩
  · rw [drop_set_lt]; exact drop_succ_of_drop h.hi
  · intro hkn
    have h0 : y = 0 := by
      rw [hy, List.getD_eq_getElem?_getD, List.getElem?_eq_none (by omega)]; rfl
    rw [h0, Nat.zero_mul] at hc1
    have := h.car
    rcases Nat.eq_zero_or_pos cy' with e | e
    · exact e
    · have : B32 * 1 ≤ B32 * cy' := Nat.mul_le_mul_left _ e
      omega
  · have huu : u = us.getD k 0 := hu.trans (getD_of_drop h.hi)
    rw [take_set_succ dk k d (by omega), valB_snoc, List.length_take, hlen, Nat.min_eq_left (by omega), valB_take_any _ us k, valB_take_any _ vs k, ← huu, ← hy, Nat.pow_succ]
    refine dgs_abs h.sum ?_
    rw [Nat.mul_add]
    omega
structure DgA (w : World) (g off n : Nat) (ws vs : List Nat) (k cy : Nat) (dk : List Nat) (wr : World) : Prop where
  wrs : Wr g off (n + 1) w wr
  row : Row32 wr g off (n + 1) dk
  hi : dk.drop k = ws.drop k
  car : cy ≤ 1
  sum : valB B32 (dk.take k) + B32 ^ k * cy = valB B32 (ws.take k) + valB B32 (vs.take k)
theorem DgA.step {w : World} {g off n : Nat} {ws vs : List Nat} {k cy : Nat} {dk : List Nat} {wr : World} (h : DgA w g off n ws vs k cy dk wr) (hk : k < n + 1)
    {y u lo cy' : Nat} (hy : y = vs.getD k 0) (hu : u = dk.getD k 0) (hs : cy + u + y = lo + B32 * cy') (hlo : lo < B32) (hcy' : cy' ≤ 1) :
    DgA w g off n ws vs (k + 1) cy' (dk.set k lo) (wr.setCell ⟨g, off + k, none⟩ (V lo)) := by
  have hlen := h.row.len
  refine ⟨h.wrs.setCell (off + k) ⟨by omega, by omega⟩ _, h.row.set k lo hk hlo, ?_, hcy', ?_⟩
  · rw [drop_set_lt]; exact drop_succ_of_drop h.hi
  · have huu : u = ws.getD k 0 := hu.trans (getD_of_drop h.hi)
    rw [take_set_succ dk k lo (by omega), valB_snoc, List.length_take, hlen, Nat.min_eq_left (by omega), valB_take_any _ ws k, valB_take_any _ vs k, ← huu, ← hy, Nat.pow_succ]
    have e1 := h.sum
    have e2 : B32 ^ k * (cy + u + y) = B32 ^ k * (lo + B32 * cy') := by rw [hs]
    rw [Nat.mul_add, Nat.mul_add, Nat.mul_add, ← Nat.mul_assoc] at e2
    omega
end Go.Proofs.YthoolgbofmnghaaGreatDoor

namespace Go.Proofs.YthoolgbofmnghaaGreatDoor
open Go.RowKit Go.Shelf

end Go.Proofs.YthoolgbofmnghaaGreatDoor

namespace Go.Proofs.YthoolgbofmnghaaGreatDoor
open Go.RowKit Go.Shelf

theorem Blk32.own {w : World} {g base : Nat} {xs : List Nat} (h : Blk32 w g xs) (hb : base ≤ g) (hm : xs.length ≤ maxLen) : w.ownsRow base 137 1 (.slice (some ⟨g, 0, none⟩) xs.length xs.length) xs.length (cellsV xs) :=
  ⟨by simp [cellsV], .inr ⟨g, xs.length, (cellsV xs).toArray, rfl, hb, h, Nat.le_refl _, hm, by simp [cellsV], by rw [Nat.mul_one]; exact List.take_of_length_le (by simp [cellsV])⟩⟩
end Go.Proofs.YthoolgbofmnghaaGreatDoor

namespace Go.Proofs.YthoolgbofmnghaaGreatDoor
open Go.RowKit Go.Shelf

end Go.Proofs.YthoolgbofmnghaaGreatDoor

namespace Go.Proofs.YthoolgbofmnghaaGreatDoor
open Go.RowKit Go.Shelf

end Go.Proofs.YthoolgbofmnghaaGreatDoor

namespace Go.Proofs.YthoolgbofmnghaaGreatDoor
open Go.RowKit Go.Shelf

end Go.Proofs.YthoolgbofmnghaaGreatDoor

namespace Go.Proofs.YthoolgbofmnghaaGreatDoor
open Go.RowKit Go.Shelf

end Go.Proofs.YthoolgbofmnghaaGreatDoor

namespace Go.Proofs.YthoolgbofmnghaaGreatDoor
open Go.RowKit Go.Shelf

end Go.Proofs.YthoolgbofmnghaaGreatDoor

namespace Go.Proofs.YthoolgbofmnghaaGreatDoor
open Go.RowKit Go.Shelf

end Go.Proofs.YthoolgbofmnghaaGreatDoor

namespace Go.Proofs.YthoolgbofmnghaaGreatDoor
open Go.RowKit Go.Shelf

end Go.Proofs.YthoolgbofmnghaaGreatDoor

namespace Go.Proofs.YthoolgbofmnghaaGreatDoor
open Go.RowKit Go.Shelf

structure Op5 where
  k : Int
  pa : Option Addr
  na : Nat
  ca : Nat
  xa : List Nat
  pb : Option Addr
  nb : Nat
  cb : Nat
  xb : List Nat
  nn : Int
  wd : Nat
structure Scr (w : World) (P : Option Addr) (N C : Nat) (its : List Op5) : Prop where
  len : its.length = N
  cap : N ≤ C
  big : C ≤ maxLen
  ats : ∀ t ∈ its, At w t.pa t.na t.ca t.xa ∧ At w t.pb t.nb t.cb t.xb ∧ t.na ≤ 17592186044416 ∧ t.nb ≤ 17592186044416 ∧ t.wd < B64 ∧ -9223372036854775808 ≤ t.nn ∧ t.nn ≤ 9223372036854775807
  cells : N = 0 ∨ ∃ g off, P = some ⟨g, off, none⟩ ∧ ∀ i (h : i < its.length), w.cell? ⟨g, off + i * 5, none⟩ = some (.int .i64 its[i].k) ∧ w.cell? ⟨g, off + i * 5 + 1, none⟩ = some (.slice its[i].pa its[i].na its[i].ca) ∧
    w.cell? ⟨g, off + i * 5 + 2, none⟩ = some (.slice its[i].pb its[i].nb its[i].cb) ∧ w.cell? ⟨g, off + i * 5 + 3, none⟩ = some (.int .i64 its[i].nn) ∧ w.cell? ⟨g, off + i * 5 + 4, none⟩ = some (U its[i].wd)
theorem Scr.below {w w' : World} {P : Option Addr} {N C : Nat} {its : List Op5} (h : Scr w P N C its) (hb : Below w.heap.size w w') : Scr w' P N C its := by
  refine ⟨h.len, h.cap, h.big, fun t ht => ?_, ?_⟩
  · obtain ⟨h1, h2, h3⟩ := h.ats t ht
    exact ⟨h1.below hb, h2.below hb, h3⟩
  · rcases h.cells with h0 | ⟨g, off, hP, hc⟩
    · exact .inl h0
    · refine .inr ⟨g, off, hP, fun i hi => ?_⟩
      obtain ⟨h0, h1, h2, h3, h4⟩ := hc i hi
      have hl : g < w.heap.size := World.block_lt_of_cell? w _ h0
      exact ⟨(hb.cell (p := ⟨g, off + i * 5, none⟩) hl).trans h0, (hb.cell (p := ⟨g, off + i * 5 + 1, none⟩) hl).trans h1, (hb.cell (p := ⟨g, off + i * 5 + 2, none⟩) hl).trans h2,
        (hb.cell (p := ⟨g, off + i * 5 + 3, none⟩) hl).trans h3, (hb.cell (p := ⟨g, off + i * 5 + 4, none⟩) hl).trans h4⟩

end Go.Proofs.YthoolgbofmnghaaGreatDoor

namespace Go.Proofs.YthoolgbofmnghaaGreatDoor
open Go.RowKit Go.Shelf

def ShIs (r : Nat → Nat → Nat) (xs : List Nat) (t : Int) (us : List Nat) (f : Int) : Prop :=
  (t < 0 ∧ us = [] ∧ f = 1) ∨ (0 ≤ t ∧ formB xs = false ∧ us = [] ∧ f = 2) ∨ (0 ≤ t ∧ formB xs = true ∧ DocIs (r (valB B64 xs) t.toNat) us f)
theorem ShIs.inj {r : Nat → Nat → Nat} {xs : List Nat} {t : Int} {us us' : List Nat} {f f' : Int} (h : ShIs r xs t us f) (k : ShIs r xs t us' f') : us = us' ∧ f = f' := by
  rcases h with ⟨h1, rfl, rfl⟩ | ⟨h1, h2, rfl, rfl⟩ | ⟨h1, h2, h3⟩ <;> rcases k with ⟨k1, rfl, rfl⟩ | ⟨k1, k2, rfl, rfl⟩ | ⟨k1, k2, k3⟩
  · exact ⟨rfl, rfl⟩
  · omega
  · omega
  · omega
  · exact ⟨rfl, rfl⟩
  · rw [k2] at h2; simp at h2
  · omega
  · rw [k2] at h2; simp at h2
  · exact h3.inj k3
theorem ShIs.er {r : Nat → Nat → Nat} {xs us : List Nat} {t f : Int} (h : ShIs r xs t us f) : f = 0 ∨ f = 1 ∨ f = 2 ∨ f = 3 ∨ f = 4 ∨ f = 5 := by
  rcases h with ⟨_, _, rfl⟩ | ⟨_, _, _, rfl⟩ | ⟨_, _, ⟨_, _, rfl⟩ | ⟨_, _, rfl⟩⟩ <;> simp
end Go.Proofs.YthoolgbofmnghaaGreatDoor

namespace Go.Proofs.YthoolgbofmnghaaGreatDoor
open Go.RowKit Go.Shelf

end Go.Proofs.YthoolgbofmnghaaGreatDoor

namespace Go.Proofs.YthoolgbofmnghaaGreatDoor
open Go.RowKit Go.Shelf

end Go.Proofs.YthoolgbofmnghaaGreatDoor

namespace Go.Proofs.YthoolgbofmnghaaGreatDoor
open Go.RowKit Go.Shelf

abbrev F32t : Value := FV 2147483648 24 (-149) 104 2139095040 2143289345
abbrev F64t : Value := FV 9223372036854775808 53 (-1074) 971 9218868437227405312 9221120237041090561
set_option maxRecDepth 20000 in
set_option maxHeartbeats 0 in
theorem rparts_320t (s : Nat) (hs : s < 8388608) (w : World) : Calls Tryz.prog 70 #[F32t, U s] w fun e w' => e = .returned (.tuple #[U s, .int .i64 (-149)]) ∧ Below w.heap.size w w' := by
  obtain ⟨z, hz⟩ : ∃ z, z = s / 8388608 := ⟨_, rfl⟩
  obtain ⟨r, hr⟩ : ∃ r, r = s % 8388608 := ⟨_, rfl⟩
  have d1 : (s : Int).tdiv 8388608 = (z : Int) := by rw [Int.tdiv_eq_ediv_of_nonneg (by omega)]; omega
  have d2 : (s : Int).tmod 8388608 = (r : Int) := by rw [Int.tmod_eq_emod_of_nonneg (by omega)]; omega
  have d3 : IntKind.u64.wrap (z : Int) = (z : Int) := by rw [IntKind.wrap_u64]; omega
  have d4 : IntKind.u64.wrap (r : Int) = (r : Int) := by rw [IntKind.wrap_u64]; omega
  have hz0 : z = 0 := by omega
  have hrs : r = s := by omega
  subst hz0
  subst hrs
  clear hz hr hs
  go_enter Tryz.func70, Tryz.ntmps70
  go_wp2_with fail
  go_quiet (fail)
  go_wp2_with fail
  go_quiet (fail)
  go_wp2_with fail
  go_ret2
  exact ⟨rfl, bwDrewN (bwDrewN (bwAlloc w _) _) _⟩
set_option maxRecDepth 20000 in
set_option maxHeartbeats 0 in
theorem rparts_32nt (s : Nat) (hs : 8388608 ≤ s) (hs9 : s < 9223372036854775808) (w : World) : Calls Tryz.prog 70 #[F32t, U s] w fun e w' => e = .returned (.tuple #[U (s - (s / 8388608 - 1) * 8388608), .int .i64 ((-149) + ((s / 8388608 - 1 : Nat) : Int))]) ∧ Below w.heap.size w w' := by
  obtain ⟨z, hz⟩ : ∃ z, z = s / 8388608 := ⟨_, rfl⟩
  obtain ⟨r, hr⟩ : ∃ r, r = s % 8388608 := ⟨_, rfl⟩
  have d1 : (s : Int).tdiv 8388608 = (z : Int) := by rw [Int.tdiv_eq_ediv_of_nonneg (by omega)]; omega
  have d2 : (s : Int).tmod 8388608 = (r : Int) := by rw [Int.tmod_eq_emod_of_nonneg (by omega)]; omega
  have d3 : IntKind.u64.wrap (z : Int) = (z : Int) := by rw [IntKind.wrap_u64]; omega
  have d4 : IntKind.u64.wrap (r : Int) = (r : Int) := by rw [IntKind.wrap_u64]; omega
  have hzb : ((z : Int) == 0) = false := by simp; omega
  obtain ⟨y, hy⟩ : ∃ y, y = s - (z - 1) * 8388608 := ⟨_, rfl⟩
  obtain ⟨x, hx⟩ : ∃ x : Int, x = (-149) + ((z - 1 : Nat) : Int) := ⟨_, rfl⟩
  obtain ⟨x1, hx1⟩ : ∃ x1 : Int, x1 = (-149) + (z : Int) := ⟨_, rfl⟩
  rw [← hz, ← hy, ← hx]
  have d5 : IntKind.u64.wrap (8388608 + (r : Int)) = (y : Int) := by rw [IntKind.wrap_u64]; omega
  have d6 : IntKind.i64.wrap (z : Int) = (z : Int) := by simp [IntKind.wrap, IntKind.signed, IntKind.bits]; omega
  have d7 : IntKind.i64.wrap ((-149) + (z : Int)) = x1 := by rw [hx1]; simp [IntKind.wrap, IntKind.signed, IntKind.bits]; omega
  have d8 : IntKind.i64.wrap (x1 - 1) = x := by simp [IntKind.wrap, IntKind.signed, IntKind.bits]; omega
  clear hz hr hs hs9 hy hx hx1
  go_enter Tryz.func70, Tryz.ntmps70
  go_wp2_with fail
  go_quiet (fail)
  go_wp2_with fail
  go_quiet (fail)
  go_wp2_with fail
  go_ret2
  exact ⟨rfl, bwDrewN (bwDrewN (bwAlloc w _) _) _⟩
set_option maxRecDepth 20000 in
set_option maxHeartbeats 0 in
theorem rparts_64nt (s : Nat) (hs : 4503599627370496 ≤ s) (hs9 : s < 9223372036854775808) (w : World) : Calls Tryz.prog 70 #[F64t, U s] w fun e w' => e = .returned (.tuple #[U (s - (s / 4503599627370496 - 1) * 4503599627370496), .int .i64 ((-1074) + ((s / 4503599627370496 - 1 : Nat) : Int))]) ∧ Below w.heap.size w w' := by
  obtain ⟨z, hz⟩ : ∃ z, z = s / 4503599627370496 := ⟨_, rfl⟩
  obtain ⟨r, hr⟩ : ∃ r, r = s % 4503599627370496 := ⟨_, rfl⟩
  have d1 : (s : Int).tdiv 4503599627370496 = (z : Int) := by rw [Int.tdiv_eq_ediv_of_nonneg (by omega)]; omega
  have d2 : (s : Int).tmod 4503599627370496 = (r : Int) := by rw [Int.tmod_eq_emod_of_nonneg (by omega)]; omega
  have d3 : IntKind.u64.wrap (z : Int) = (z : Int) := by rw [IntKind.wrap_u64]; omega
  have d4 : IntKind.u64.wrap (r : Int) = (r : Int) := by rw [IntKind.wrap_u64]; omega
  have hzb : ((z : Int) == 0) = false := by simp; omega
  obtain ⟨y, hy⟩ : ∃ y, y = s - (z - 1) * 4503599627370496 := ⟨_, rfl⟩
  obtain ⟨x, hx⟩ : ∃ x : Int, x = (-1074) + ((z - 1 : Nat) : Int) := ⟨_, rfl⟩
  obtain ⟨x1, hx1⟩ : ∃ x1 : Int, x1 = (-1074) + (z : Int) := ⟨_, rfl⟩
  rw [← hz, ← hy, ← hx]
  have d5 : IntKind.u64.wrap (4503599627370496 + (r : Int)) = (y : Int) := by rw [IntKind.wrap_u64]; omega
  have d6 : IntKind.i64.wrap (z : Int) = (z : Int) := by simp [IntKind.wrap, IntKind.signed, IntKind.bits]; omega
  have d7 : IntKind.i64.wrap ((-1074) + (z : Int)) = x1 := by rw [hx1]; simp [IntKind.wrap, IntKind.signed, IntKind.bits]; omega
  have d8 : IntKind.i64.wrap (x1 - 1) = x := by simp [IntKind.wrap, IntKind.signed, IntKind.bits]; omega
  clear hz hr hs hs9 hy hx hx1
  go_enter Tryz.func70, Tryz.ntmps70
  go_wp2_with fail
  go_quiet (fail)
  go_wp2_with fail
  go_quiet (fail)
  go_wp2_with fail
  go_ret2
  exact ⟨rfl, bwDrewN (bwDrewN (bwAlloc w _) _) _⟩
set_option maxRecDepth 20000 in
set_option maxHeartbeats 0 in
theorem rparts_640t (s : Nat) (hs : s < 4503599627370496) (w : World) : Calls Tryz.prog 70 #[F64t, U s] w fun e w' => e = .returned (.tuple #[U s, .int .i64 (-1074)]) ∧ Below w.heap.size w w' := by
  obtain ⟨z, hz⟩ : ∃ z, z = s / 4503599627370496 := ⟨_, rfl⟩
  obtain ⟨r, hr⟩ : ∃ r, r = s % 4503599627370496 := ⟨_, rfl⟩
  have d1 : (s : Int).tdiv 4503599627370496 = (z : Int) := by rw [Int.tdiv_eq_ediv_of_nonneg (by omega)]; omega
  have d2 : (s : Int).tmod 4503599627370496 = (r : Int) := by rw [Int.tmod_eq_emod_of_nonneg (by omega)]; omega
  have d3 : IntKind.u64.wrap (z : Int) = (z : Int) := by rw [IntKind.wrap_u64]; omega
  have d4 : IntKind.u64.wrap (r : Int) = (r : Int) := by rw [IntKind.wrap_u64]; omega
  have hz0 : z = 0 := by omega
  have hrs : r = s := by omega
  subst hz0
  subst hrs
  clear hz hr hs
  go_enter Tryz.func70, Tryz.ntmps70
  go_wp2_with fail
  go_quiet (fail)
  go_wp2_with fail
  go_quiet (fail)
  go_wp2_with fail
  go_ret2
  exact ⟨rfl, bwDrewN (bwDrewN (bwAlloc w _) _) _⟩
theorem rparts_all64 (s : Nat) (hs9 : s < 9223372036854775808) (w : World) : Calls Tryz.prog 70 #[F64t, U s] w fun e w' => e = .returned (.tuple #[U (s - (s / 4503599627370496 - 1) * 4503599627370496), .int .i64 ((-1074) + ((s / 4503599627370496 - 1 : Nat) : Int))]) ∧ Below w.heap.size w w' := by
  by_cases h : s < 4503599627370496
  · have h1 : s / 4503599627370496 = 0 := Nat.div_eq_of_lt h
    rw [h1, show 0 - 1 = 0 from rfl, Nat.zero_mul, Nat.sub_zero, show ((-1074 : Int) + ((0 : Nat) : Int)) = -1074 from rfl]
    exact rparts_640t s h w
  · exact rparts_64nt s (by omega) (by omega) w
theorem rparts_all32 (s : Nat) (hs9 : s < 2147483648) (w : World) : Calls Tryz.prog 70 #[F32t, U s] w fun e w' => e = .returned (.tuple #[U (s - (s / 8388608 - 1) * 8388608), .int .i64 ((-149) + ((s / 8388608 - 1 : Nat) : Int))]) ∧ Below w.heap.size w w' := by
  by_cases h : s < 8388608
  · have h1 : s / 8388608 = 0 := Nat.div_eq_of_lt h
    rw [h1, show 0 - 1 = 0 from rfl, Nat.zero_mul, Nat.sub_zero, show ((-149 : Int) + ((0 : Nat) : Int)) = -149 from rfl]
    exact rparts_320t s h w
  · exact rparts_32nt s (by omega) (by omega) w
end Go.Proofs.YthoolgbofmnghaaGreatDoor

