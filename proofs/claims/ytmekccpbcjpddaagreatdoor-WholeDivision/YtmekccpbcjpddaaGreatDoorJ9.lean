import Derived.Test.YtmekccpbcjpddaaGreatDoorJ8
import Derived.Deep.LoopGhost
import Derived.Test.YtmekccpbcjpddaaGreatDoorMem
import Derived.Laws.Bits64b
import Derived.Deep.RegionLaw
namespace Go.Proofs.YtmekccpbcjpddaaGreatDoor
open Go.RowKit
set_option maxRecDepth 100000
set_option maxHeartbeats 0
def MulAt (m : Nat) : Prop := ∀ (p q : Option Addr) (n cn l cl : Nat) (xs ys : List Nat) (w : World), At w p n cn xs → At w q l cl ys → 0 < n → 0 < l → n ≤ 8192 → l ≤ 8192 → (n = m ∧ m ≤ l ∨ l = m ∧ m ≤ n) →
  Calls Tryz.prog 51 #[.slice p n cn, .slice q l cl] w fun e w' => ∃ p' m' zs, e = .returned (.slice p' m' m') ∧ Own w.heap.size w' p' m' zs ∧ Nf B64 zs (valB B64 xs * valB B64 ys) ∧ Below w.heap.size w w'
def BlkAt (m : Nat) : Prop := ∀ (gz oz cz n cn cm : Nat) (p q : Option Addr) (xs ys zs : List Nat) (w : World), Row w gz oz (n + m) zs → valB B64 zs = 0 → n + m ≤ cz → cz ≤ 1000000 → At w p n cn xs → At w q m cm ys → m ≤ n → n ≤ 8192 →
  (∀ g2 off2, p = some ⟨g2, off2, none⟩ → Dj g2 off2 n gz oz (n + m)) → (∀ g2 off2, q = some ⟨g2, off2, none⟩ → Dj g2 off2 m gz oz (n + m)) →
  Calls Tryz.prog 75 #[.slice (some ⟨gz, oz, none⟩) (n + m) cz, .slice p n cn, .slice q m cm] w fun e w' =>
    ∃ zs', e = .returned (.tuple #[]) ∧ Chg (Rg gz oz (n + m)) w w' ∧ Row w' gz oz (n + m) zs' ∧ valB B64 zs' = valB B64 xs * valB B64 ys

structure BlkRel (w : World) (gz oz L gp gs m ns : Nat) (xs ys : List Nat) (o : Nat) (wr : World) : Prop where
  chg : Chg (fun b c => Rg gz oz L b c ∨ Rg gp 0 (2 * m) b c ∨ Rg gs 0 ns b c) w wr
  part : ∃ ps, Row wr gp 0 (2 * m) ps
  scr : ∃ ss, Row wr gs 0 ns ss
  z : ∃ dk, Row wr gz oz L dk ∧ valB B64 dk = valB B64 (xs.take o) * valB B64 ys

theorem blk_val {xs ys dk zz ps : List Nat} {o m L n : Nat} (hdk : dk.length = L) (ho : o ≤ L) (hx : xs.length = n) (hy : ys.length = m) (hL : L = n + m) (hdx : Dig B64 xs) (hdy : Dig B64 ys) (om : o + m ≤ n) (cy : Nat)
    (hv : valB B64 dk = valB B64 (xs.take o) * valB B64 ys) (hp : valB B64 ps = valB B64 ((xs.drop o).take m) * valB B64 ys) (hz : valB B64 zz + B64 ^ (L - o) * cy = valB B64 (dk.drop o) + valB B64 ps) :
    valB B64 (dk.take o ++ zz) = valB B64 (xs.take (o + m)) * valB B64 ys := by
  have e1 : valB B64 (xs.take (o + m)) = valB B64 (xs.take o) + B64 ^ o * valB B64 ((xs.drop o).take m) := by
    have := valB_split B64 (xs.take (o + m)) o (by simp; omega)
    rw [List.take_take, Nat.min_eq_left (by omega), List.drop_take, Nat.add_sub_cancel_left] at this
    exact this
  have e2 := valB_split B64 dk o (by omega)
  have b1 := valB_lt B64_pos (hdx.take (o + m))
  have b2 := valB_lt B64_pos hdy
  rw [List.length_take, hx, Nat.min_eq_left (by omega)] at b1
  rw [hy] at b2
  have b3 : valB B64 (xs.take (o + m)) * valB B64 ys < B64 ^ L := by
    have := Nat.mul_lt_mul'' b1 b2
    rw [← Nat.pow_add] at this
    exact Nat.lt_of_lt_of_le this (Nat.pow_le_pow_right B64_pos (by omega))
  have e3 : valB B64 (xs.take (o + m)) * valB B64 ys = valB B64 dk + B64 ^ o * valB B64 ps := by
    rw [e1, Nat.add_mul, hv, hp, Nat.mul_assoc]
  have eQ : B64 ^ L = B64 ^ o * B64 ^ (L - o) := by rw [← Nat.pow_add, show o + (L - o) = L by omega]
  have fit : valB B64 (dk.drop o) + valB B64 ps < B64 ^ (L - o) := by
    refine Nat.lt_of_mul_lt_mul_left (a := B64 ^ o) ?_
    rw [Nat.mul_add, ← eQ]
    rw [e3] at b3
    omega
  have ez := nc hz fit rfl
  rw [valB_append, List.length_take, hdk, Nat.min_eq_left ho, ez, e3, Nat.mul_add]
  omega

theorem blk_fin {xs ys dk zz ps : List Nat} {o m n cy : Nat} (hdk : dk.length = n + m) (ho : o ≤ n) (hx : xs.length = n) (hy : ys.length = m) (hdx : Dig B64 xs) (hdy : Dig B64 ys)
    (hv : valB B64 dk = valB B64 (xs.take o) * valB B64 ys) (hp : valB B64 ps = valB B64 ((xs.drop o).take (n - o)) * valB B64 ys) (hz : valB B64 zz + B64 ^ (n + m - o) * cy = valB B64 (dk.drop o) + valB B64 ps) :
    valB B64 (dk.take o ++ zz) = valB B64 xs * valB B64 ys := by
  have e1 : valB B64 xs = valB B64 (xs.take o) + B64 ^ o * valB B64 ((xs.drop o).take (n - o)) := by
    rw [List.take_of_length_le (i := n - o) (by rw [List.length_drop, hx]; exact Nat.le_refl _)]
    exact valB_split B64 xs o (by omega)
  have e2 := valB_split B64 dk o (by omega)
  have b1 := valB_lt B64_pos hdx
  have b2 := valB_lt B64_pos hdy
  rw [hx] at b1
  rw [hy] at b2
  have b3 : valB B64 xs * valB B64 ys < B64 ^ (n + m) := by
    have := Nat.mul_lt_mul'' b1 b2
    rw [← Nat.pow_add] at this; exact this
  have e3 : valB B64 xs * valB B64 ys = valB B64 dk + B64 ^ o * valB B64 ps := by
    rw [hv, hp]
    rw [← Nat.mul_assoc, ← Nat.add_mul, ← e1]
  have eQ : B64 ^ (n + m) = B64 ^ o * B64 ^ (n + m - o) := by rw [← Nat.pow_add, show o + (n + m - o) = n + m by omega]
  have fit : valB B64 (dk.drop o) + valB B64 ps < B64 ^ (n + m - o) := by
    refine Nat.lt_of_mul_lt_mul_left (a := B64 ^ o) ?_
    rw [Nat.mul_add, ← eQ]
    rw [e3] at b3
    omega
  have ez := nc hz fit rfl
  rw [valB_append, List.length_take, hdk, Nat.min_eq_left (by omega), ez, e3, Nat.mul_add]
  omega

theorem At.chg {w w' : World} {S : Nat → Nat → Prop} {p : Option Addr} {n c : Nat} {xs : List Nat} (h : At w p n c xs) (hc : Chg S w w') (hd : ∀ g off, p = some ⟨g, off, none⟩ → ∀ j, j < n → g < w.heap.size → ¬ S g (off + j)) : At w' p n c xs := by
  refine ⟨h.len, h.cap, h.big, h.dig, ?_⟩
  rcases h.cells with h0 | ⟨g, off, rfl, hcl⟩
  · exact .inl h0
  · exact .inr ⟨g, off, rfl, fun j hj => hc.cell (hd g off rfl j hj (World.block_lt_of_cell? w _ (hcl j hj))) (hcl j hj)⟩
theorem Chg.trans_new {S T : Nat → Nat → Prop} {a b c : World} (h : Chg S a b) (k : Chg T b c) (hT : ∀ x o, x < a.heap.size → T x o → S x o) : Chg S a c := by
  refine ⟨k.os.trans h.os, k.tape.trans h.tape, k.output.trans h.output, Nat.le_trans h.size k.size, fun i cur t fr hi => ?_, fun i hi hn => ?_⟩
  · have hlt : i < a.heap.size := (Array.getElem?_eq_some_iff.1 hi).1
    obtain ⟨c1, g1, s1, e1⟩ := h.row i cur t fr hi
    obtain ⟨c2, g2, s2, e2⟩ := k.row i c1 t fr g1
    exact ⟨c2, g2, s2.trans s1, fun j hj => (e2 j (fun ht => hj (hT i j hlt ht))).trans (e1 j hj)⟩
  · have e1 := h.other i hi hn
    rw [← e1]
    exact k.other i (Nat.lt_of_lt_of_le hi h.size) (by rw [e1]; exact hn)
theorem wrap_small (o : Nat) (h : o ≤ 1000000) : IntKind.i64.wrap (o : Int) = (o : Int) := by
  simp [IntKind.wrap, IntKind.signed, IntKind.bits]
  omega
theorem Own.at2 {B : Nat} {w : World} {p : Option Addr} {m : Nat} {zs : List Nat} (h : Own B w p m zs) (hm : m ≤ 9223372036854775807) : At w p m m zs := by
  refine ⟨h.len, Nat.le_refl _, by unfold maxLen; omega, h.dig, ?_⟩
  rcases h.mem with h0 | ⟨g, rfl, _, hr⟩
  · exact .inl h0
  · exact .inr ⟨g, 0, rfl, hr.cell⟩
theorem Own.dj {B : Nat} {w : World} {p : Option Addr} {m : Nat} {zs : List Nat} (h : Own B w p m zs) {g off n : Nat} (hg : g < B) : ∀ g2 off2, 0 < m → p = some ⟨g2, off2, none⟩ → g2 ≠ g ∨ off2 + m ≤ off ∨ off + n ≤ off2 := by
  intro g2 off2 h0 hp
  obtain ⟨g3, h1, h2, _⟩ := h.mem.resolve_left (by omega)
  rw [hp] at h1
  simp only [Option.some.injEq, Addr.mk.injEq, and_true] at h1
  omega

theorem blk_step (m : Nat) (h48 : 48 ≤ m) (ih : ∀ r, r < m → 0 < r → MulAt r) : BlkAt m := by
  intro gz oz cz n cn cm p q xs ys zs w hZ hz0 hcz bcz hA hB hmn hn8 dax dbx
  obtain ⟨ga, oa, rfl, hca⟩ := hA.cells.resolve_left (by omega)
  obtain ⟨gb, ob, rfl, hcb⟩ := hB.cells.resolve_left (by omega)
  have dA := dax ga oa rfl
  have dB := dbx gb ob rfl
  have ltz := hZ.lt (by omega)
  have lta : ga < w.heap.size := World.block_lt_of_cell? w _ (hca 0 (by omega))
  have ltb : gb < w.heap.size := World.block_lt_of_cell? w _ (hcb 0 (by omega))
  have al := hA.len; have bl := hB.len; have acap := hA.cap; have bcap := hB.cap; have abig := hA.big; have bbig := hB.big
  unfold maxLen at abig bbig
  have hscr := scr_le (m + 1) m (by omega)
  have hscp : 0 < scr m := by rw [scr_ge (by omega)]; omega
  obtain ⟨ns, hns⟩ : ∃ ns, ns = scr m := ⟨_, rfl⟩
  rw [← hns] at hscr hscp
  obtain ⟨cnt, hcnt⟩ : ∃ cnt, cnt = n / m := ⟨_, rfl⟩
  have ecnt : (n : Int) / (m : Int) = (cnt : Int) := by rw [hcnt]; exact (Int.natCast_ediv _ _).symm
  have hcm := Nat.div_mul_le_self n m
  have hdm := Nat.div_add_mod n m
  have hml := Nat.mod_lt n (show 0 < m by omega)
  rw [Nat.mul_comm] at hdm
  rw [← hcnt] at hcm hdm
  have hcb8 : cnt ≤ 8192 := by rw [hcnt]; exact Nat.le_trans (Nat.div_le_self _ _) hn8
  have HIH : Hid (∀ r, r < m → 0 < r → MulAt r) := ih
  have HNS : Hid (ns = scr m) := hns
  have HCM : Hid (cnt * m ≤ n) := hcm
  have HDM : Hid (cnt * m + n % m = n) := hdm
  have HDA : Hid (Dj ga oa n gz oz (n + m)) := dA
  have HDB : Hid (Dj gb ob m gz oz (n + m)) := dB
  have HZ0 : Hid (valB B64 zs = 0) := hz0
  clear ih hns hcm hdm hcnt dax dbx dA dB hz0
  obtain ⟨i0, hi, hzz0, hzz1, hzz2⟩ := info_parts Tryz.infoU64
  go_enter Tryz.func75, Tryz.ntmps75
  go_wp2_with (at_make; refine wpList_make_full _ rfl _ _ 22 rfl w.heap.size 28 i0 (.int .u64 0) 1 Tryz.underlying22 hi hzz0 hzz1 _ _ _ _ (2 * m) rfl rfl (by omega) (by omega) (by rw [hzz2]; omega) (by unfold maxLen; omega) (Nat.le_refl _) ?_; intro w1 hown hgrow; have hmk := made_blk hown hgrow; clear hown hgrow)
  obtain ⟨hblk1, hb1⟩ := hmk
  refine (scr_any m _ (by omega)).mono ?_
  rintro e w1' ⟨rfl, hw⟩
  obtain rfl := hw.symm
  rw [← HNS.out]
  clear hw
  go_wp2_with (at_make; refine wpList_make_full _ rfl _ _ 22 rfl w1.heap.size 28 i0 (.int .u64 0) 1 Tryz.underlying22 hi hzz0 hzz1 _ _ _ _ ns rfl rfl (by omega) (by omega) (by rw [hzz2]; omega) (by unfold maxLen; omega) (Nat.le_refl _) ?_; intro w2 hown hgrow; have hmk := made_blk hown hgrow; clear hown hgrow)
  obtain ⟨hblk2, hb2⟩ := hmk
  have hlt1 := hblk1.lt
  have hr1 := (hblk1.row (Dig.replicate _ _ B64_pos)).below hb2 hlt1
  have hr2 := hblk2.row (Dig.replicate _ _ B64_pos)
  rw [List.length_replicate] at hr1 hr2
  have hb12 : Below w.heap.size w w2 := hb1.trans (hb2.mono hb1.size)
  have Z2 := hZ.below hb12 ltz
  have A2 := hA.below hb12; have B2 := hB.below hb12
  have hgp : w.heap.size < w1.heap.size := hlt1
  obtain ⟨gp, hgpe⟩ : ∃ gp, gp = w.heap.size := ⟨_, rfl⟩
  obtain ⟨gs, hgse⟩ : ∃ gs, gs = w1.heap.size := ⟨_, rfl⟩
  rw [← hgpe] at hr1 ⊢
  rw [← hgse] at hr2 ⊢
  have hap : ga < gp ∧ gb < gp ∧ gz < gp ∧ gp < gs := by omega
  have HC2 : Hid (Chg (Rg gz oz (n + m)) w w2) := Below.chg hb12 _
  have hs2 := hb2.size; have hs1 := hb1.size
  have hgpw : w.heap.size ≤ gp := by omega
  have hsz : gs < w2.heap.size := hr2.lt hscp
  clear hblk1 hblk2 hb1 hb2 hlt1 hgp hb12 hgpe hgse
  go_wp2_with fail
  go_loopw [10, 11, 26] (fun _ _ i wr => ∃ k : Nat, k ≤ cnt ∧ i = .int .i64 k ∧ BlkRel w2 gz oz (n + m) gp gs m ns xs ys (k * m) wr) (fun _ _ i _ => cnt - (intOf i).toNat)
  case atStart => exact ⟨0, Nat.zero_le _, rfl, Chg.refl _ _, ⟨_, hr1⟩, ⟨_, hr2⟩, zs, Z2, by rw [HZ0.out]; simp [valB]⟩
  case round =>
    obtain ⟨k, hk, rfl, hR⟩ := hrel
    by_cases hlt : k < cnt
    · obtain ⟨o, ho⟩ : ∃ o, o = k * m := ⟨_, rfl⟩
      have hom : o + m ≤ n := by
        have h1 : (k + 1) * m ≤ cnt * m := Nat.mul_le_mul_right m hlt
        have h2 := HCM.out
        rw [Nat.add_mul, Nat.one_mul] at h1
        omega
      have e1 : (k : Int) * (m : Int) = (o : Int) := by rw [ho]; exact (Int.natCast_mul _ _).symm
      have e2 : ((k : Int) + 1) * (m : Int) = ((o + m : Nat) : Int) := by rw [Int.add_mul, e1]; omega
      rw [← ho] at hR
      obtain ⟨ps, P3⟩ := hR.part
      obtain ⟨ss, S3⟩ := hR.scr
      obtain ⟨dk, Z3, vZ⟩ := hR.z
      have C3 := hR.chg
      have A3 := A2.chg C3 (fun g off hp j hj hg => by
        simp only [Option.some.injEq, Addr.mk.injEq, and_true] at hp
        obtain ⟨rfl, rfl⟩ := hp
        have := HDA.out; unfold Dj at this; unfold Rg; omega)
      have B3 := B2.chg C3 (fun g off hp j hj hg => by
        simp only [Option.some.injEq, Addr.mk.injEq, and_true] at hp
        obtain ⟨rfl, rfl⟩ := hp
        have := HDB.out; unfold Dj at this; unfold Rg; omega)
      have RA : Rd wr ga oa n xs := by
        obtain ⟨g3, o3, hp3, hc3⟩ := A3.cells.resolve_left (by omega)
        simp only [Option.some.injEq, Addr.mk.injEq, and_true] at hp3
        obtain ⟨rfl, rfl⟩ := hp3
        exact ⟨al, A3.dig, hc3⟩
      have RB : Rd wr gb ob m ys := by
        obtain ⟨g3, o3, hp3, hc3⟩ := B3.cells.resolve_left (by omega)
        simp only [Option.some.injEq, Addr.mk.injEq, and_true] at hp3
        obtain ⟨rfl, rfl⟩ := hp3
        exact ⟨bl, B3.dig, hc3⟩
      have RK := RA.sub o m (by omega)
      have HVZ : Hid (valB B64 dk = valB B64 (xs.take o) * valB B64 ys) := vZ
      have HO : Hid (o = k * m) := ho
      clear hR vZ ho A3 B3
      go_wp2_with fail
      refine (kar_any (m + 1) m (by omega) (by omega) (by omega) gp 0 (2 * m) (2 * m) ga (oa + o) m gb ob cm gs 0 ns ns _ _ _ _ _ rfl P3 RK RB S3 (by rw [HNS.out]; exact Nat.le_refl _) (Nat.le_refl _) (Nat.le_refl _) bcap (Nat.le_refl _) (by omega) (by omega) (by omega) (by omega) (by unfold Dj; omega) (by unfold Dj; omega) (by unfold Dj; omega) (by unfold Dj; omega) (by unfold Dj; omega)).mono ?_
      rintro e w4 ⟨zp, s4, rfl, C4, P4, S4, vP⟩
      have Z4 := Z3.chg C4 (fun j hj => by unfold Rg; omega)
      have ZO := Z4.sub o (n + m - o) (by omega)
      have tz : (dk.drop o).take (n + m - o) = dk.drop o := List.take_of_length_le (by rw [List.length_drop, Z4.len]; exact Nat.le_refl _)
      rw [tz] at ZO
      have HVP : Hid (valB B64 zp = valB B64 ((xs.drop o).take m) * valB B64 ys) := vP
      clear vP tz P3 S3 Z3 RA RB RK
      go_wp2_with fail
      refine (ladd_any gz (oz + o) (n + m - o) (cz - o) _ (some ⟨gp, 0, none⟩) (2 * m) (2 * m) _ _ ZO (by omega) (by omega) (P4.at_ (Nat.le_refl _) (by unfold maxLen; omega)) (by omega) (fun g2 off2 _ hp => by
        simp only [Option.some.injEq, Addr.mk.injEq, and_true] at hp
        omega)).mono ?_
      rintro e w5 ⟨cy, zz, rfl, hcy, W5, ZZ5, e5⟩
      have HE5 : Hid (valB B64 zz + B64 ^ (n + m - o) * cy = valB B64 (dk.drop o) + valB B64 zp) := e5
      clear e5
      go_wp2_with fail
      go_roundw
      case rel =>
        have ho := HO.out
        have C5 := W5.chg
        refine ⟨k + 1, by omega, by go_num, ?_⟩
        rw [Nat.add_mul, Nat.one_mul, ← ho]
        refine ⟨(C3.trans (C4.mono (fun b c h => by unfold Rg at *; omega))).trans (C5.mono (fun b c h => by unfold Rg at *; omega)), ⟨_, P4.chg C5 (fun j hj => by unfold Rg; omega)⟩, ⟨_, S4.chg C5 (fun j hj => by unfold Rg; omega)⟩, dk.take o ++ zz, ?_, ?_⟩
        · have lo := (Z4.take o (by omega)).chg C5 (fun j hj => by unfold Rg; omega)
          have all := lo.join ZZ5
          rw [show o + (n + m - o) = n + m by omega] at all
          exact all
        · exact blk_val Z4.len (by omega) al bl rfl hA.dig hB.dig hom cy HVZ.out HVP.out HE5.out
      case measure => simp [intOf]; omega
    · obtain rfl : k = cnt := by omega
      obtain ⟨o, ho⟩ : ∃ o, o = k * m := ⟨_, rfl⟩
      have hon : o ≤ n := by rw [ho]; exact HCM.out
      have e1 : (k : Int) * (m : Int) = (o : Int) := by rw [ho]; exact (Int.natCast_mul _ _).symm
      have hrm : n - o < m := by have := HDM.out; rw [← ho] at this; omega
      rw [← ho] at hR
      have C3 := hR.chg
      obtain ⟨dk, Z3, vZ⟩ := hR.z
      have HC3 : Hid (Chg (Rg gz oz (n + m)) w wr) := HC2.out.trans_new C3 (fun x c hx h => by unfold Rg at *; omega)
      have A3 := A2.chg C3 (fun g off hp j hj hg => by
        simp only [Option.some.injEq, Addr.mk.injEq, and_true] at hp
        obtain ⟨rfl, rfl⟩ := hp
        have := HDA.out; unfold Dj at this; unfold Rg; omega)
      have B3 := B2.chg C3 (fun g off hp j hj hg => by
        simp only [Option.some.injEq, Addr.mk.injEq, and_true] at hp
        obtain ⟨rfl, rfl⟩ := hp
        have := HDB.out; unfold Dj at this; unfold Rg; omega)
      have hszr := C3.size
      have HVZ : Hid (valB B64 dk = valB B64 (xs.take o) * valB B64 ys) := vZ
      have HO2 : Hid (k * m = o) := ho.symm
      clear hR vZ ho HCM HDM
      by_cases hr0 : n ≤ o
      · go_wp2_with fail
        all_goals go_end0
        all_goals have hv2 : valB B64 dk = valB B64 xs * valB B64 ys := by rw [HVZ.out, List.take_of_length_le (by omega)]
        all_goals first | exact ⟨dk, rfl, HC3.out, Z3, hv2⟩ | exact ⟨rfl, HC3.out, dk, Z3, hv2⟩
      · have RA : Rd wr ga oa n xs := by
          obtain ⟨g3, o3, hp3, hc3⟩ := A3.cells.resolve_left (by omega)
          simp only [Option.some.injEq, Addr.mk.injEq, and_true] at hp3
          obtain ⟨rfl, rfl⟩ := hp3
          exact ⟨al, A3.dig, hc3⟩
        have RK := (RA.sub o (n - o) (by omega)).at_ (c := cn - o) (by omega) (by unfold maxLen; omega)
        have tk : (xs.drop o).take (n - o) = xs.drop o := List.take_of_length_le (by rw [List.length_drop, al]; exact Nat.le_refl _)
        rw [tk] at RK
        have RK2 : At wr.drew (some ⟨ga, oa + o, none⟩) (n - o) (cn - o) (xs.drop o) := ⟨RK.len, RK.cap, RK.big, RK.dig, RK.cells⟩
        have B32 : At wr.drew (some ⟨gb, ob, none⟩) m cm ys := ⟨B3.len, B3.cap, B3.big, B3.dig, B3.cells⟩
        have ZO := (Z3.sub o (n + m - o) (by omega)).drew
        have tz : (dk.drop o).take (n + m - o) = dk.drop o := List.take_of_length_le (by rw [List.length_drop, Z3.len]; exact Nat.le_refl _)
        rw [tz] at ZO
        have ZT := (Z3.take o (by omega)).drew
        have hzlt : gz < wr.heap.size := Z3.lt (by omega)
        have lenM : ∀ zs' : List Nat, Nf B64 zs' (valB B64 (xs.drop o) * valB B64 ys) → zs'.length ≤ n + m - o := by
          intro zs' hN
          refine (hN.len_le B64_one).2 ?_
          have b1 := valB_lt B64_pos (hA.dig.drop o); have b2 := valB_lt B64_pos hB.dig
          rw [List.length_drop, al] at b1; rw [bl] at b2
          have := Nat.mul_lt_mul'' b1 b2
          rw [← Nat.pow_add, show n - o + m = n + m - o by omega] at this; exact this
        have HLM : Hid (∀ zs' : List Nat, Nf B64 zs' (valB B64 (xs.drop o) * valB B64 ys) → zs'.length ≤ n + m - o) := lenM
        have HZL : Hid (dk.length = n + m) := Z3.len
        clear tk tz RA RK A3 B3 lenM C3 Z3
        have h1 : ¬ o = cz := by omega
        have h2 : ¬ cz = o := by omega
        have h3 : (o : Int) ≤ (n : Int) + (m : Int) := by omega
        have h3n : o ≤ n + m := by omega
        go_wp2_with fail
        have hkm0 : 0 ≤ (k : Int) * (m : Int) := by rw [e1]; omega
        have hkm1 : (k : Int) * (m : Int) ≤ 1000000 := by rw [e1]; omega
        have hwo : IntKind.i64.wrap (o : Int) = (o : Int) := wrap_small o (by omega)
        clear h1 hkm0 hkm1
        go_region_with (first | (go_at_call 51; refine (HIH.out (n - o) hrm (by omega) (some ⟨ga, oa + o, none⟩) (some ⟨gb, ob, none⟩) (n - o) (cn - o) m cm _ _ _ RK2 B32 (by omega) (by omega) (by omega) (by omega) (.inl ⟨rfl, by omega⟩)).mono ?_; rintro e w6 ⟨p', m', zs6, rfl, ho6, n6, hb6⟩; have hm6 : m' ≤ n + m - o := (by rw [← ho6.len]; exact HLM.out zs6 n6); have ZO6 := ZO.below hb6 hzlt; have ZT6 := ZT.below hb6 hzlt) | (go_at_call 52; refine (ladd_any gz (oz + o) (n + m - o) (cz - o) _ p' m' m' _ _ ZO6 (by omega) (by omega) (ho6.at2 (by omega)) hm6 (ho6.dj hzlt)).mono ?_; rintro e w7 ⟨cy, zz, rfl, hcy, W7, ZZ7, e7⟩))
        all_goals
          go_wp2_with fail
          go_end0
          have C7 := W7.chg
          have lo := ZT6.chg C7 (fun j hj => by unfold Rg; omega)
          have all := lo.join ZZ7
          rw [show o + (n + m - o) = n + m by omega] at all
          refine ⟨dk.take o ++ zz, rfl, (HC3.out.drew.trans_new (Below.chg hb6 (Rg gz oz (n + m))) (fun x c _ h => h)).trans (C7.mono (fun b c h => by unfold Rg at *; omega)), all, ?_⟩
          have vps : valB B64 zs6 = valB B64 ((xs.drop o).take (n - o)) * valB B64 ys := by
            rw [n6.val, List.take_of_length_le (by rw [List.length_drop, al]; exact Nat.le_refl _)]
          exact blk_fin HZL.out hon al bl hA.dig hB.dig HVZ.out vps e7
theorem dj_fresh {w : World} {p : Option Addr} {n c : Nat} {xs : List Nat} (h : At w p n c xs) (hn : 0 < n) (off m : Nat) : ∀ g2 off2, p = some ⟨g2, off2, none⟩ → Dj g2 off2 n w.heap.size off m :=
  fun g2 off2 hp => .inl (h.fresh (Nat.le_refl _) g2 off2 hn hp)

theorem mul_of_blk (m : Nat) (hbk : 48 ≤ m → BlkAt m) : MulAt m := by
  intro p q n cn l cl xs ys w hA hB hn hl hn8 hl8 hcase
  have HB : Hid (48 ≤ m → BlkAt m) := hbk
  have al := hA.len; have bl := hB.len
  clear hbk
  obtain ⟨i0, hi, hzz0, hzz1, hzz2⟩ := info_parts Tryz.infoU64
  by_cases hlt : n < l
  · have hm : n = m := by omega
    subst hm
    go_enter Tryz.func51, Tryz.ntmps51
    go_wp2_with (at_make; refine wpList_make_full _ rfl _ _ 22 rfl w.heap.size 28 i0 (.int .u64 0) 1 Tryz.underlying22 hi hzz0 hzz1 _ _ _ _ (l + n) rfl rfl (by omega) (by omega) (by rw [hzz2]; omega) (by unfold maxLen; omega) (Nat.le_refl _) ?_; intro w1 hown hgrow; have hmk := made_blk hown hgrow; clear hown hgrow)
    all_goals obtain ⟨hblk, hb1⟩ := hmk
    all_goals have hr := hblk.row (Dig.replicate _ _ B64_pos)
    all_goals rw [List.length_replicate] at hr
    all_goals have A1 := hB.below hb1
    all_goals have B1 := hA.below hb1
    · refine (rows_any w.heap.size 0 (l + n) _ q p l cl n cn ys xs _ hr (Nat.le_refl _) (by omega) A1 B1 (by omega) (by omega) (dj_fresh hB (by omega) 0 _) (dj_fresh hA (by omega) 0 _)).mono ?_
      rintro e w2 ⟨zs, rfl, hwr, hrow, hval⟩
      have hb2 : Below w.heap.size w w2 := hb1.trans (hwr.below (Nat.le_refl _))
      clear hwr hb1 hblk hr A1 B1
      have A2 := hrow.at_ (Nat.le_refl _) (by unfold maxLen; omega)
      have hN := Nf.trim hrow.dig
      rw [hval] at hN
      have HV : Hid (Nf B64 (trimL zs) (valB B64 ys * valB B64 xs)) := hN
      clear hval hN
      go_wp2_with fail
      refine (trim_any A2).mono ?_
      rintro e w3 ⟨p', m', rfl, hm', hp', hw⟩
      obtain rfl := hw.symm
      have HM : Hid (m' = (trimL zs).length) := hm'
      clear hw hm'
      go_wp2_with fail
      go_ret
      exact ⟨p', m', trimL zs, rfl, hrow.own (Nat.le_refl _) HM.out hp', by rw [Nat.mul_comm]; exact HV.out, hb2⟩
    · refine (HB.out (by omega) w.heap.size 0 (l + n) l cl cn q p ys xs _ _ hr (valB_replicate _ _) (Nat.le_refl _) (by omega) A1 B1 (by omega) (by omega) (dj_fresh hB (by omega) 0 _) (dj_fresh hA (by omega) 0 _)).mono ?_
      rintro e w2 ⟨zs, rfl, hcg, hrow, hval⟩
      have hb2 : Below w.heap.size w w2 := hb1.trans (hcg.below (fun b o h => by unfold Rg at h; omega) (by have := hblk.lt; omega))
      clear hcg hb1 hblk hr A1 B1
      have A2 := hrow.at_ (Nat.le_refl _) (by unfold maxLen; omega)
      have hN := Nf.trim hrow.dig
      rw [hval] at hN
      have HV : Hid (Nf B64 (trimL zs) (valB B64 ys * valB B64 xs)) := hN
      clear hval hN
      go_wp2_with fail
      refine (trim_any A2).mono ?_
      rintro e w3 ⟨p', m', rfl, hm', hp', hw⟩
      obtain rfl := hw.symm
      have HM : Hid (m' = (trimL zs).length) := hm'
      clear hw hm'
      go_wp2_with fail
      go_ret
      exact ⟨p', m', trimL zs, rfl, hrow.own (Nat.le_refl _) HM.out hp', by rw [Nat.mul_comm]; exact HV.out, hb2⟩
  · have hm : l = m := by omega
    subst hm
    go_enter Tryz.func51, Tryz.ntmps51
    go_wp2_with (at_make; refine wpList_make_full _ rfl _ _ 22 rfl w.heap.size 28 i0 (.int .u64 0) 1 Tryz.underlying22 hi hzz0 hzz1 _ _ _ _ (n + l) rfl rfl (by omega) (by omega) (by rw [hzz2]; omega) (by unfold maxLen; omega) (Nat.le_refl _) ?_; intro w1 hown hgrow; have hmk := made_blk hown hgrow; clear hown hgrow)
    all_goals obtain ⟨hblk, hb1⟩ := hmk
    all_goals have hr := hblk.row (Dig.replicate _ _ B64_pos)
    all_goals rw [List.length_replicate] at hr
    all_goals have A1 := hA.below hb1
    all_goals have B1 := hB.below hb1
    · refine (rows_any w.heap.size 0 (n + l) _ p q n cn l cl xs ys _ hr (Nat.le_refl _) (by omega) A1 B1 (by omega) (by omega) (dj_fresh hA (by omega) 0 _) (dj_fresh hB (by omega) 0 _)).mono ?_
      rintro e w2 ⟨zs, rfl, hwr, hrow, hval⟩
      have hb2 : Below w.heap.size w w2 := hb1.trans (hwr.below (Nat.le_refl _))
      clear hwr hb1 hblk hr A1 B1
      have A2 := hrow.at_ (Nat.le_refl _) (by unfold maxLen; omega)
      have hN := Nf.trim hrow.dig
      rw [hval] at hN
      have HV : Hid (Nf B64 (trimL zs) (valB B64 xs * valB B64 ys)) := hN
      clear hval hN
      go_wp2_with fail
      refine (trim_any A2).mono ?_
      rintro e w3 ⟨p', m', rfl, hm', hp', hw⟩
      obtain rfl := hw.symm
      have HM : Hid (m' = (trimL zs).length) := hm'
      clear hw hm'
      go_wp2_with fail
      go_ret
      exact ⟨p', m', trimL zs, rfl, hrow.own (Nat.le_refl _) HM.out hp', HV.out, hb2⟩
    · refine (HB.out (by omega) w.heap.size 0 (n + l) n cn cl p q xs ys _ _ hr (valB_replicate _ _) (Nat.le_refl _) (by omega) A1 B1 (by omega) (by omega) (dj_fresh hA (by omega) 0 _) (dj_fresh hB (by omega) 0 _)).mono ?_
      rintro e w2 ⟨zs, rfl, hcg, hrow, hval⟩
      have hb2 : Below w.heap.size w w2 := hb1.trans (hcg.below (fun b o h => by unfold Rg at h; omega) (by have := hblk.lt; omega))
      clear hcg hb1 hblk hr A1 B1
      have A2 := hrow.at_ (Nat.le_refl _) (by unfold maxLen; omega)
      have hN := Nf.trim hrow.dig
      rw [hval] at hN
      have HV : Hid (Nf B64 (trimL zs) (valB B64 xs * valB B64 ys)) := hN
      clear hval hN
      go_wp2_with fail
      refine (trim_any A2).mono ?_
      rintro e w3 ⟨p', m', rfl, hm', hp', hw⟩
      obtain rfl := hw.symm
      have HM : Hid (m' = (trimL zs).length) := hm'
      clear hw hm'
      go_wp2_with fail
      go_ret
      exact ⟨p', m', trimL zs, rfl, hrow.own (Nat.le_refl _) HM.out hp', HV.out, hb2⟩

theorem mul_at : ∀ (N m : Nat), m < N → MulAt m := by
  intro N
  induction N with
  | zero => intro m h; omega
  | succ N ih =>
    intro m hm
    exact mul_of_blk m (fun h48 => blk_step m h48 (fun r hr h0 => ih r (by omega)))
theorem mult_any {p q : Option Addr} {n cn l cl : Nat} {xs ys : List Nat} {w : World} (hA : At w p n cn xs) (hB : At w q l cl ys) (hn : 0 < n) (hl : 0 < l) (hn8 : n ≤ 8192) (hl8 : l ≤ 8192) :
    Calls Tryz.prog 51 #[.slice p n cn, .slice q l cl] w fun e w' => ∃ p' m' zs, e = .returned (.slice p' m' m') ∧ Own w.heap.size w' p' m' zs ∧ Nf B64 zs (valB B64 xs * valB B64 ys) ∧ Below w.heap.size w w' :=
  mul_at (min n l + 1) (min n l) (by omega) p q n cn l cl xs ys w hA hB hn hl hn8 hl8 (by omega)
theorem Nf.big {us : List Nat} {a n : Nat} (h : Nf B64 us a) (hl : us.length = n) (h0 : 0 < n) : B64 ^ (n - 1) ≤ a := by
  have := mt (h.len_le (k := n - 1) B64_one).2 (by omega)
  omega
theorem mul_big (K : Nat) {us vs : List Nat} {a b n m : Nat} (hx : Nf B64 us a) (hy : Nf B64 vs b) (hl : us.length = n) (hm : vs.length = m) (h0 : 0 < n) (h1 : 0 < m) (h : K < n + m - 1) : B64 ^ K ≤ a * b := by
  refine Nat.le_trans ?_ (Nat.mul_le_mul (hx.big hl h0) (hy.big hm h1))
  rw [← Nat.pow_add]
  exact Nat.pow_le_pow_right B64_pos (by omega)
theorem mul_lim {us vs : List Nat} {a b n m : Nat} (hx : Nf B64 us a) (hy : Nf B64 vs b) (hl : us.length = n) (hm : vs.length = m) (h0 : 0 < n) (h1 : 0 < m) (h : 8192 < n + m - 1) : LIM ≤ a * b := by
  obtain ⟨K, hK⟩ : ∃ K, K = 8192 := ⟨8192, rfl⟩
  rw [LIM_eq K hK]
  exact mul_big K hx hy hl hm h0 h1 (by omega)
theorem Nf.zero {us : List Nat} {a : Nat} (h : Nf B64 us a) (hl : us.length = 0) : a = 0 := by
  obtain rfl := List.eq_nil_of_length_eq_zero hl
  have := h.val; simp [valB] at this; omega
theorem ans_zero (B : Nat) (w : World) : Ans B w (.returned (.tuple #[.slice none 0 0, .int .i64 0])) 0 :=
  .inl ⟨(Nf.nil B64).lim.1 (by simp), none, 0, [], rfl, ⟨rfl, Dig.nil _, .inl rfl⟩, Nf.nil _, by omega⟩

theorem mul_any {p q : Option Addr} {n m c d : Nat} {xs ys : List Nat} {a b : Nat} {w : World} (h : At w p n c xs) (k : At w q m d ys) (hx : Nf B64 xs a) (hy : Nf B64 ys b) (hlx : n ≤ 8192) (hly : m ≤ 8192) :
    Calls Tryz.prog 20 #[.slice p n c, .slice q m d] w fun e w' => Ans w.heap.size w' e (a * b) ∧ Below w.heap.size w w' := by
  have fx := hx.form (by rw [h.len]; exact hlx)
  have fy := hy.form (by rw [k.len]; exact hly)
  have HX : Hid (Nf B64 xs a) := hx
  have HY : Hid (Nf B64 ys b) := hy
  clear hx hy
  go_enter Tryz.func20, Tryz.ntmps20
  go_wp2_with fail
  refine (form_true h fx).mono ?_
  rintro e w' ⟨rfl, hw⟩
  obtain rfl := hw.symm
  clear hw
  go_wp2_with fail
  refine (form_true k fy).mono ?_
  rintro e w' ⟨rfl, hw⟩
  obtain rfl := hw.symm
  clear hw fx fy
  by_cases hn0 : n = 0
  · have HA : Hid (a = 0) := HX.out.zero (by rw [h.len]; exact hn0)
    subst hn0
    go_wp2_with fail
    go_ret2
    rw [HA.out, Nat.zero_mul]
    exact ⟨ans_zero _ _, Below.refl _ _⟩
  · by_cases hm0 : m = 0
    · have HA : Hid (b = 0) := HY.out.zero (by rw [k.len]; exact hm0)
      subst hm0
      go_wp2_with fail
      go_ret2
      rw [HA.out, Nat.mul_zero]
      exact ⟨ans_zero _ _, Below.refl _ _⟩
    · have hn0' : ((n : Int) == 0) = false := by simp; omega
      have hm0' : ((m : Int) == 0) = false := by simp; omega
      by_cases hbig : 8192 < n + m - 1
      · go_wp2_with fail
        go_ret2
        exact ⟨.inr ⟨mul_lim HX.out HY.out h.len k.len (by omega) (by omega) hbig, rfl⟩, Below.refl _ _⟩
      · go_wp2_with fail
        refine (mult_any h k (by omega) (by omega) hlx hly).mono ?_
        rintro e w1 ⟨p', m', zs, rfl, ho, hN, hb⟩
        rw [HX.out.val, HY.out.val] at hN
        have HV : Hid (Nf B64 zs (a * b)) := hN
        have HO : Hid (Own w.heap.size w1 p' m' zs) := ho
        have hlen : zs.length = m' := ho.1
        have HL : Hid (zs.length = m') := hlen
        clear hN ho hlen
        by_cases hle : m' ≤ 8192
        · go_wp2_with fail
          go_ret2
          exact ⟨.inl ⟨HV.out.lim.1 (by rw [HL.out]; exact hle), p', m', zs, rfl, HO.out, HV.out, hle⟩, hb⟩
        · go_wp2_with fail
          go_ret2
          refine ⟨.inr ⟨?_, rfl⟩, hb⟩
          have := mt HV.out.lim.2 (by rw [HL.out]; exact hle)
          omega
end Go.Proofs.YtmekccpbcjpddaaGreatDoor
namespace Go.Proofs.YtmekccpbcjpddaaGreatDoor
open Go.RowKit Go.Shelf
set_option maxRecDepth 100000
set_option maxHeartbeats 0
structure It where
  p : Option Addr
  n : Nat
  c : Nat
  xs : List Nat
  a : Nat
structure Lists (w : World) (P : Option Addr) (N C : Nat) (its : List It) : Prop where
  len : its.length = N
  cap : N ≤ C
  big : C ≤ maxLen
  cells : N = 0 ∨ ∃ g off, P = some ⟨g, off, none⟩ ∧ ∀ j (h : j < its.length), w.cell? ⟨g, off + j, none⟩ = some (.slice its[j].p its[j].n its[j].c)
  nums : ∀ t ∈ its, Num w t.p t.n t.c t.xs t.a
theorem Lists.below {w w' : World} {P : Option Addr} {N C : Nat} {its : List It} (h : Lists w P N C its) (hb : Below w.heap.size w w') : Lists w' P N C its := by
  refine ⟨h.len, h.cap, h.big, ?_, fun t ht => (h.nums t ht).below hb⟩
  rcases h.cells with h0 | ⟨g, off, rfl, hc⟩
  · exact .inl h0
  · exact .inr ⟨g, off, rfl, fun j hj => (hb.cell (p := ⟨g, off + j, none⟩) (World.block_lt_of_cell? w _ (hc j hj))).trans (hc j hj)⟩
def prodI : List It → Nat
  | [] => 1
  | t :: ts => t.a * prodI ts
theorem Lists.take {w : World} {g off N C : Nat} {its : List It} (h : Lists w (some ⟨g, off, none⟩) N C its) (k : Nat) (hk : k ≤ N) : Lists w (some ⟨g, off, none⟩) k k (its.take k) := by
  have hl := h.len; have hc := h.cap; have hb := h.big
  refine ⟨by rw [List.length_take]; omega, Nat.le_refl _, by omega, ?_, fun t ht => h.nums t (List.mem_of_mem_take ht)⟩
  rcases h.cells with h0 | ⟨g', off', he, hcl⟩
  · exact .inl (by omega)
  · refine .inr ⟨g', off', he, fun j hj => ?_⟩
    have hj2 : j < its.length := by rw [List.length_take] at hj; omega
    rw [hcl j hj2]; simp
theorem Lists.drop {w : World} {g off N C : Nat} {its : List It} (h : Lists w (some ⟨g, off, none⟩) N C its) (k : Nat) (hk : k < N) : Lists w (some ⟨g, off + k, none⟩) (N - k) (C - k) (its.drop k) := by
  have hl := h.len; have hc := h.cap; have hb := h.big
  refine ⟨by rw [List.length_drop]; omega, by omega, by omega, ?_, fun t ht => h.nums t (List.mem_of_mem_drop ht)⟩
  rcases h.cells with h0 | ⟨g', off', he, hcl⟩
  · omega
  · simp only [Option.some.injEq, Addr.mk.injEq, and_true] at he
    obtain ⟨rfl, rfl⟩ := he
    refine .inr ⟨g, off + k, rfl, fun j hj => ?_⟩
    have hj2 : k + j < its.length := by rw [List.length_drop] at hj; omega
    have := hcl (k + j) hj2
    rw [← Nat.add_assoc] at this
    rw [this]; simp
theorem Lists.pos {w : World} {P : Option Addr} {N C : Nat} {its : List It} (_h : Lists w P N C its) (hp : ∀ t ∈ its, 0 < t.a) : 0 < prodI its := by
  clear _h
  induction its with
  | nil => simp [prodI]
  | cons t ts ih => exact Nat.mul_pos (hp t (by simp)) (ih (fun u hu => hp u (by simp [hu])))
end Go.Proofs.YtmekccpbcjpddaaGreatDoor
namespace Go.Proofs.YtmekccpbcjpddaaGreatDoor
open Go.RowKit
set_option maxRecDepth 100000
set_option maxHeartbeats 0
def B32 : Nat := 4294967296
theorem B32_eq : B32 = 4294967296 := rfl
theorem B32_pos : 0 < B32 := by decide
theorem B32_two : B32 * B32 = B64 := by decide
abbrev V (n : Nat) : Value := .int .u32 (n : Int)

structure At32 (w : World) (p : Option Addr) (n c : Nat) (xs : List Nat) : Prop where
  len : xs.length = n
  cap : n ≤ c
  big : c ≤ maxLen
  dig : Dig B32 xs
  cells : n = 0 ∨ ∃ g off, p = some ⟨g, off, none⟩ ∧ ∀ j, j < n → w.cell? ⟨g, off + j, none⟩ = some (V (xs.getD j 0))
theorem At32.below {w w' : World} {p : Option Addr} {n c : Nat} {xs : List Nat} (h : At32 w p n c xs) (hb : Below w.heap.size w w') : At32 w' p n c xs := by
  refine ⟨h.len, h.cap, h.big, h.dig, ?_⟩
  rcases h.cells with h0 | ⟨g, off, rfl, hc⟩
  · exact .inl h0
  · exact .inr ⟨g, off, rfl, fun j hj => (hb.cell (p := ⟨g, off + j, none⟩) (World.block_lt_of_cell? w _ (hc j hj))).trans (hc j hj)⟩
theorem At32.drewN {w : World} {p : Option Addr} {n c : Nat} {xs : List Nat} (h : At32 w p n c xs) (q : Nat) : At32 (w.drewN q) p n c xs := ⟨h.len, h.cap, h.big, h.dig, h.cells⟩
theorem At32.alloc {w : World} {p : Option Addr} {n c : Nat} {xs : List Nat} (h : At32 w p n c xs) (o : Obj) : At32 (w.alloc o) p n c xs :=
  h.below ((Below.refl _ _).alloc (Nat.le_refl _) o)
theorem At32.take {w : World} {p : Option Addr} {n c : Nat} {xs : List Nat} (h : At32 w p n c xs) (m : Nat) (hm : m ≤ n) (c' : Nat) (hc : m ≤ c') (hb : c' ≤ maxLen) : At32 w p m c' (xs.take m) := by
  refine ⟨by rw [List.length_take, h.len]; omega, hc, hb, h.dig.take m, ?_⟩
  rcases h.cells with h0 | ⟨g, off, rfl, hcl⟩
  · exact .inl (by omega)
  · refine .inr ⟨g, off, rfl, fun j hj => ?_⟩
    have e : (xs.take m).getD j 0 = xs.getD j 0 := by rw [List.getD_eq_getElem?_getD, List.getD_eq_getElem?_getD, List.getElem?_take, if_pos hj]
    rw [e]; exact hcl j (by omega)
theorem At32.empty (w : World) (p : Option Addr) (c : Nat) (hb : c ≤ maxLen) : At32 w p 0 c [] := ⟨rfl, Nat.zero_le _, hb, Dig.nil _, .inl rfl⟩
theorem Tryz.infoU32 : (Tryz.prog.info? 70).map (fun i => (i.zero, i.size, i.bytes)) = some (some (.int .u32 0), 1, 4) := by kernel_rfl
theorem Tryz.sizeU32 : (Tryz.prog.info? 70).map (·.size) = some 1 := by kernel_rfl
def cellsV (xs : List Nat) : List Value := xs.map V
theorem madeV (n : Nat) : (madeCells (Value.cells (.int .u32 0)) (n * 1)).toList = cellsV (List.replicate n 0) := by
  unfold madeCells cellsV
  apply List.ext_getElem
  · simp
  · intro i h1 h2
    have e : i % 1 = 0 := Nat.mod_one i
    simp [Value.cells, V, e]
def Blk32 (w : World) (g : Nat) (xs : List Nat) : Prop := w.heap[g]? = some (.cells (cellsV xs).toArray 70 (0, 0))
theorem cellsV_get (xs : List Nat) (j : Nat) (h : j < xs.length) : (cellsV xs)[j]? = some (V (xs.getD j 0)) := by
  unfold cellsV
  rw [List.getElem?_map, List.getElem?_eq_getElem h, List.getD_eq_getElem?_getD, List.getElem?_eq_getElem h]; rfl
theorem Blk32.cell {w : World} {g : Nat} {xs : List Nat} (h : Blk32 w g xs) (j : Nat) (hj : j < xs.length) : w.cell? ⟨g, j, none⟩ = some (V (xs.getD j 0)) := by
  rw [cell_of_row w g j _ _ _ h]
  rw [List.getElem?_toArray]; exact cellsV_get xs j hj
theorem Blk32.lt {w : World} {g : Nat} {xs : List Nat} (h : Blk32 w g xs) : g < w.heap.size := (Array.getElem?_eq_some_iff.1 h).1
theorem own_blk32 {w : World} {base g n : Nat} {xs : List Nat} (h : w.ownsRow base 70 1 (.slice (some ⟨g, 0, none⟩) n n) n (cellsV xs)) : Blk32 w g xs := by
  rcases h.2 with ⟨h', _⟩ | ⟨g', cap', cur, h', _, hg, _, _, hsz, htake⟩
  · simp at h'
  · simp only [Value.slice.injEq, Option.some.injEq, Addr.mk.injEq, and_true, true_and] at h'
    obtain ⟨rfl, rfl⟩ := h'
    have e : cur = (cellsV xs).toArray := by
      rw [← htake, List.take_of_length_le (by rw [Array.length_toList, hsz]; exact Nat.le_refl _)]
    unfold Blk32; rw [← e]; exact hg
theorem splice_cellsV (n : Nat) (xs : List Nat) : splice (cellsV (List.replicate n 0)) 0 (cellsV xs) = cellsV (xs ++ List.replicate (n - xs.length) 0) := by
  unfold splice cellsV
  simp only [List.take_zero, List.nil_append, List.length_map, Nat.zero_add, List.map_append, List.map_replicate, List.drop_replicate]
theorem made_blk32 {w w1 : World} {n : Nat} (hown : w1.ownsRow w.heap.size 70 1 (.slice (some ⟨w.heap.size, 0, none⟩) n n) n (madeCells (Value.cells (.int .u32 0)) (n * 1)).toList) (hgrow : w.grownBy w1 none) :
    Blk32 w1 w.heap.size (List.replicate n 0) ∧ Below w.heap.size w w1 := by
  rw [madeV] at hown
  exact ⟨own_blk32 hown, (Below.refl _ _).grown hgrow (Nat.le_refl _) (fun k hk => by simp at hk)⟩
theorem cellsV_one (xs : List Nat) : ∀ v ∈ cellsV xs, v.oneCell' = true := by
  intro v hv; unfold cellsV at hv; rw [List.mem_map] at hv; obtain ⟨x, _, rfl⟩ := hv; rfl
theorem cellsV_length (xs : List Nat) : (cellsV xs).length = xs.length := by simp [cellsV]
theorem At32.src {w : World} {p : Option Addr} {n c : Nat} {xs : List Nat} (h : At32 w p n c xs) (hn : 0 < n) : ∃ ad, p = some ad ∧ ∀ j v, (cellsV xs)[j]? = some v → w.cell? (ad.add j) = some v := by
  rcases h.cells with h0 | ⟨g, off, rfl, hc⟩
  · omega
  · refine ⟨_, rfl, fun j v hv => ?_⟩
    have hj : j < xs.length := by
      have := (List.getElem?_eq_some_iff.1 hv).1
      rwa [cellsV_length] at this
    have hadd : (⟨g, off, none⟩ : Addr).add j = ⟨g, off + j, none⟩ := by unfold Addr.add; split <;> simp_all
    rw [hadd, hc j (by have := h.len; omega)]
    rw [cellsV_get xs j hj] at hv; exact hv

theorem Blk32.at_ {w : World} {g : Nat} {xs : List Nat} (h : Blk32 w g xs) (hd : Dig B32 xs) {n : Nat} (hn : xs.length = n) (hb : n ≤ maxLen) : At32 w (some ⟨g, 0, none⟩) n n xs := by
  subst hn
  exact ⟨rfl, Nat.le_refl _, hb, hd, .inr ⟨g, 0, rfl, fun j hj => by rw [Nat.zero_add]; exact h.cell j hj⟩⟩
theorem At32.cellAt {w : World} {g off n c : Nat} {xs : List Nat} (h : At32 w (some ⟨g, off, none⟩) n c xs) (j : Nat) (hj : j < n) : w.cell? ⟨g, off + j, none⟩ = some (V (xs.getD j 0)) := by
  obtain ⟨g', o', he, hcell⟩ := h.cells.resolve_left (by omega)
  simp only [Option.some.injEq, Addr.mk.injEq, and_true] at he
  obtain ⟨rfl, rfl⟩ := he
  exact hcell j hj

def dig32 : List Nat → List Nat
  | [] => []
  | x :: xs => x % B32 :: x / B32 :: dig32 xs
theorem dig32_val (xs : List Nat) : valB B32 (dig32 xs) = valB B64 xs := by
  induction xs with
  | nil => rfl
  | cons x xs ih =>
    show x % B32 + B32 * (x / B32 + B32 * valB B32 (dig32 xs)) = x + B64 * valB B64 xs
    rw [ih, Nat.mul_add, ← Nat.mul_assoc, B32_two]
    have := Nat.mod_add_div x B32
    omega
theorem dig32_len (xs : List Nat) : (dig32 xs).length = 2 * xs.length := by
  induction xs with
  | nil => rfl
  | cons x xs ih => show (dig32 xs).length + 1 + 1 = 2 * (xs.length + 1); omega
theorem dig32_dig {xs : List Nat} (h : Dig B64 xs) : Dig B32 (dig32 xs) := by
  induction xs with
  | nil => exact Dig.nil _
  | cons x xs ih =>
    refine Dig.cons (Nat.mod_lt _ B32_pos) (Dig.cons ?_ (ih h.tail))
    refine Nat.div_lt_of_lt_mul ?_
    rw [B32_two]; exact h.head
theorem dig32_append (xs ys : List Nat) : dig32 (xs ++ ys) = dig32 xs ++ dig32 ys := by
  induction xs with
  | nil => rfl
  | cons x xs ih => show _ :: _ :: dig32 (xs ++ ys) = _; rw [ih]; rfl
theorem dig32_snoc (xs : List Nat) (k : Nat) (h : k < xs.length) : dig32 (xs.take (k + 1)) = dig32 (xs.take k) ++ [xs.getD k 0 % B32, xs.getD k 0 / B32] := by
  rw [take_succ_getD xs k h, dig32_append]; rfl

theorem rnorm_any {p : Option Addr} {n c : Nat} {xs : List Nat} {w : World} (h : At32 w p n c xs) (hn : n ≤ 35184372088832) :
    Calls Tryz.prog 50 #[.slice p n c] w fun e w' =>
      ∃ g, e = .returned (.slice (some ⟨g, 0, none⟩) (trimL xs).length (trimL xs).length) ∧ w.heap.size ≤ g ∧ Blk32 w' g (trimL xs) ∧ Below w.heap.size w w' := by
  obtain ⟨i0, hi, hz0, hz1, hz2⟩ := info_parts Tryz.infoU32
  have hl := h.len; have cap := h.cap; have big := h.big
  unfold maxLen at big
  have HL : Hid (xs.length = n) := hl
  clear hl
  go_enter Tryz.func50, Tryz.ntmps50
  go_wp2
  go_loopg [3] n (fun gk nv wr => nv = .int .i64 gk ∧ gk ≤ n ∧ Hid (∀ j, gk ≤ j → j < n → xs.getD j 0 = 0) ∧ wr = w)
  case atStart => exact ⟨rfl, Nat.le_refl _, fun j h1 h2 => absurd h1 (by omega), rfl⟩
  case round =>
    obtain ⟨rfl, hgn, HZ, hwr⟩ := hrel
    obtain rfl := hwr.symm
    clear hwr
    by_cases hg0 : gk = 0
    · have HG0 : Hid (gk = 0) := hg0
      have hng : ¬ 0 < gk := by omega
      have hgc : gk ≤ c := by omega
      clear hg0
      cases p
      · have ht : trimL xs = xs.take gk := trimL_of_take xs gk (by rw [HL.out]; omega) (fun j h1 h2 => HZ.out j h1 (by rw [← HL.out]; exact h2)) (.inl HG0.out)
        have hlt : (trimL xs).length = gk := by rw [ht, List.length_take, HL.out]; omega
        have HT : Hid (trimL xs = xs.take gk) := ht
        have HLT : Hid ((trimL xs).length = gk) := hlt
        have hA := h.take gk (by omega) c (by omega) (by unfold maxLen; omega)
        clear ht hlt h
        go_wp2_with (first
          | (at_make; refine wpList_make_full _ rfl _ _ 46 rfl w.heap.size 70 i0 (.int .u32 0) 1 Tryz.underlying46 hi hz0 hz1 _ _ _ _ gk rfl rfl (by omega) (by omega) (by rw [hz2]; omega) (by unfold maxLen; omega) (Nat.le_refl _) ?_; intro w1 hown hgrow; have hb := made_blk32 hown hgrow; clear hown hgrow)
          | (refine wpList_copy_splice rfl (.tmp 21) (.tmp 24) 46 46 rfl 70 Tryz.underlying46 Tryz.sizeU32 (some ⟨w.heap.size, 0, none⟩) _ gk gk gk c rfl rfl w.heap.size 0 (cellsV (List.replicate gk 0)) 70 hb.1 (cellsV (xs.take gk)) (by rw [cellsV_length, hA.len]; exact (Nat.min_self gk).symm) (fun h0 => ⟨rfl, (hA.below hb.2).src (by rw [cellsV_length, hA.len] at h0; exact h0)⟩) (by simp [cellsV_length]; omega) (cellsV_one _) w.heap.size w hb.2 (Nat.le_refl _) ?_; intro w2 hg2 hb2))
        go_ret
        rw [HLT.out, HT.out]
        refine ⟨_, rfl, Nat.le_refl _, ?_, hb2⟩
        rw [splice_cellsV, hA.len, Nat.sub_self, List.replicate_zero, List.append_nil] at hg2
        exact hg2
      · have ht : trimL xs = xs.take gk := trimL_of_take xs gk (by rw [HL.out]; omega) (fun j h1 h2 => HZ.out j h1 (by rw [← HL.out]; exact h2)) (.inl HG0.out)
        have hlt : (trimL xs).length = gk := by rw [ht, List.length_take, HL.out]; omega
        have HT : Hid (trimL xs = xs.take gk) := ht
        have HLT : Hid ((trimL xs).length = gk) := hlt
        have hA := h.take gk (by omega) c (by omega) (by unfold maxLen; omega)
        clear ht hlt h
        go_wp2_with (first
          | (at_make; refine wpList_make_full _ rfl _ _ 46 rfl w.heap.size 70 i0 (.int .u32 0) 1 Tryz.underlying46 hi hz0 hz1 _ _ _ _ gk rfl rfl (by omega) (by omega) (by rw [hz2]; omega) (by unfold maxLen; omega) (Nat.le_refl _) ?_; intro w1 hown hgrow; have hb := made_blk32 hown hgrow; clear hown hgrow)
          | (refine wpList_copy_splice rfl (.tmp 21) (.tmp 24) 46 46 rfl 70 Tryz.underlying46 Tryz.sizeU32 (some ⟨w.heap.size, 0, none⟩) _ gk gk gk c rfl rfl w.heap.size 0 (cellsV (List.replicate gk 0)) 70 hb.1 (cellsV (xs.take gk)) (by rw [cellsV_length, hA.len]; exact (Nat.min_self gk).symm) (fun h0 => ⟨rfl, (hA.below hb.2).src (by rw [cellsV_length, hA.len] at h0; exact h0)⟩) (by simp [cellsV_length]; omega) (cellsV_one _) w.heap.size w hb.2 (Nat.le_refl _) ?_; intro w2 hg2 hb2))
        go_ret
        rw [HLT.out, HT.out]
        refine ⟨_, rfl, Nat.le_refl _, ?_, hb2⟩
        rw [splice_cellsV, hA.len, Nat.sub_self, List.replicate_zero, List.append_nil] at hg2
        exact hg2
    · obtain ⟨g, off, rfl, hc⟩ := h.cells.resolve_left (by omega)
      obtain ⟨x, hx⟩ : ∃ x, x = xs.getD (gk - 1) 0 := ⟨_, rfl⟩
      have hcx : w.cell? ⟨g, off + (gk - 1), none⟩ = some (V x) := by rw [hx]; exact hc (gk - 1) (by omega)
      have hdg : decide ((0 : Int) < (gk : Int)) = true := decide_eq_true (by omega)
      have HX : Hid (x = xs.getD (gk - 1) 0) := hx
      clear hc hx
      by_cases h0 : x = 0
      · subst h0
        go_wp2_with fail
        go_roundg (gk - 1)
        case measure => omega
        case rel =>
          refine ⟨by go_num, by omega, fun j h1 h2 => ?_, rfl⟩
          by_cases hj : j = gk - 1
          · subst hj; exact HX.out.symm
          · exact HZ.out j (by omega) h2
      · have h0' : ((x : Int) == 0) = false := by simp; omega
        have hgc : gk ≤ c := by omega
        have HXN : Hid (xs.getD (gk - 1) 0 ≠ 0) := by rw [← HX.out]; exact h0
        clear h0
        have ht : trimL xs = xs.take gk := trimL_of_take xs gk (by rw [HL.out]; omega) (fun j h1 h2 => HZ.out j h1 (by rw [← HL.out]; exact h2)) (.inr HXN.out)
        have hlt : (trimL xs).length = gk := by rw [ht, List.length_take, HL.out]; omega
        have HT : Hid (trimL xs = xs.take gk) := ht
        have HLT : Hid ((trimL xs).length = gk) := hlt
        have hA := h.take gk (by omega) c (by omega) (by unfold maxLen; omega)
        clear ht hlt h
        go_wp2_with (first
          | (at_make; refine wpList_make_full _ rfl _ _ 46 rfl w.heap.size 70 i0 (.int .u32 0) 1 Tryz.underlying46 hi hz0 hz1 _ _ _ _ gk rfl rfl (by omega) (by omega) (by rw [hz2]; omega) (by unfold maxLen; omega) (Nat.le_refl _) ?_; intro w1 hown hgrow; have hb := made_blk32 hown hgrow; clear hown hgrow)
          | (refine wpList_copy_splice rfl (.tmp 21) (.tmp 24) 46 46 rfl 70 Tryz.underlying46 Tryz.sizeU32 (some ⟨w.heap.size, 0, none⟩) _ gk gk gk c rfl rfl w.heap.size 0 (cellsV (List.replicate gk 0)) 70 hb.1 (cellsV (xs.take gk)) (by rw [cellsV_length, hA.len]; exact (Nat.min_self gk).symm) (fun h0 => ⟨rfl, (hA.below hb.2).src (by rw [cellsV_length, hA.len] at h0; exact h0)⟩) (by simp [cellsV_length]; omega) (cellsV_one _) w.heap.size w hb.2 (Nat.le_refl _) ?_; intro w2 hg2 hb2))
        go_ret
        rw [HLT.out, HT.out]
        refine ⟨_, rfl, Nat.le_refl _, ?_, hb2⟩
        rw [splice_cellsV, hA.len, Nat.sub_self, List.replicate_zero, List.append_nil] at hg2
        exact hg2
theorem B64_p : B64 = 2 ^ 64 := rfl
theorem pow_split (s : Nat) (hs : s ≤ 64) : 2 ^ s * 2 ^ (64 - s) = B64 := by rw [← Nat.pow_add, show s + (64 - s) = 64 by omega]; rfl

def shlW (x s : Nat) : Nat := x * 2 ^ s % B64
theorem shlW_lt (x s : Nat) : shlW x s < B64 := Nat.mod_lt _ B64_pos
theorem shlW_eq (x s : Nat) (hs : s ≤ 64) : shlW x s = 2 ^ s * (x % 2 ^ (64 - s)) := by
  unfold shlW
  rw [← pow_split s hs, Nat.mul_comm x, Nat.mul_mod_mul_left]
theorem shrW_eq (y s : Nat) (hs : s ≤ 64) : y / 2 ^ (64 - s) = y * 2 ^ s / B64 := by
  rw [← pow_split s hs, Nat.mul_comm y, Nat.mul_div_mul_left _ _ (Nat.two_pow_pos s)]
theorem shrW_lt (y s : Nat) (hs : s ≤ 64) (hy : y < B64) : y / 2 ^ (64 - s) < 2 ^ s := by
  rw [Nat.div_lt_iff_lt_mul (Nat.two_pow_pos _), pow_split s hs]; exact hy
theorem or_low (s A b : Nat) (hb : b < 2 ^ s) : (2 ^ s * A) ||| b = 2 ^ s * A + b := (Nat.two_pow_add_eq_or_of_lt hb A).symm

theorem int_pow (s : Nat) : ((2 : Int) ^ s) = ((2 ^ s : Nat) : Int) := by
  induction s with
  | zero => rfl
  | succ s ih => rw [Int.pow_succ, ih, Nat.pow_succ]; simp
theorem walk_shl (x s : Nat) : Value.int .u64 (IntKind.u64.wrap ((x : Int) * 2 ^ s)) = U (shlW x s) := by
  unfold U shlW
  rw [int_pow, IntKind.wrap_u64, B64_eq, ← Int.natCast_mul]
  congr 1
theorem walk_shr (y s : Nat) : Value.int .u64 ((y : Int) / 2 ^ s) = U (y / 2 ^ s) := by
  unfold U
  rw [int_pow]
  congr 1
theorem walk_or (a b : Nat) (ha : a < B64) (hb : b < B64) : bits .or .u64 (a : Int) (b : Int) = ((a ||| b : Nat) : Int) := by
  rw [B64_eq] at ha hb
  exact bits_or_u64_nat a b ha hb
theorem wrap_nat (x s : Nat) : IntKind.u64.wrap ((x : Int) * 2 ^ s) = ((shlW x s : Nat) : Int) := by
  have := walk_shl x s
  simpa [U] using this
theorem div_nat (y s : Nat) : (y : Int) / 2 ^ s = ((y / 2 ^ s : Nat) : Int) := by
  simp
theorem walk_up (x y s : Nat) (hs : s ≤ 64) (hy : y < B64) : Value.int .u64 (bits .or .u64 (IntKind.u64.wrap ((x : Int) * 2 ^ s)) ((y : Int) / 2 ^ (64 - s))) = U (shlW x s + y * 2 ^ s / B64) := by
  have h1 := shrW_lt y s hs hy
  have h2 : 2 ^ s ≤ B64 := by rw [B64_p]; exact Nat.pow_le_pow_right (by decide) hs
  rw [wrap_nat, div_nat, walk_or _ _ (shlW_lt x s) (by omega), shlW_eq x s hs, or_low s _ _ h1, shrW_eq y s hs]
theorem up_lt (x y s : Nat) (hs : s ≤ 64) (hy : y < B64) : shlW x s + y * 2 ^ s / B64 < B64 := by
  have h1 := shrW_lt y s hs hy
  rw [← shrW_eq y s hs, shlW_eq x s hs]
  have h2 : x % 2 ^ (64 - s) + 1 ≤ 2 ^ (64 - s) := Nat.mod_lt _ (Nat.two_pow_pos _)
  have h3 := Nat.mul_le_mul_left (2 ^ s) h2
  rw [pow_split s hs, Nat.mul_add] at h3
  omega
theorem walk_down (x z s : Nat) (hs : s ≤ 64) (hx : x < B64) : Value.int .u64 (bits .or .u64 ((x : Int) / 2 ^ s) (IntKind.u64.wrap ((z : Int) * 2 ^ (64 - s)))) = U (x / 2 ^ s + 2 ^ (64 - s) * (z % 2 ^ s)) := by
  have e : 64 - (64 - s) = s := by omega
  have h1 := shrW_lt x (64 - s) (by omega) hx
  rw [e] at h1
  have h2 : 2 ^ (64 - s) ≤ B64 := by rw [B64_p]; exact Nat.pow_le_pow_right (by decide) (by omega)
  rw [wrap_nat, div_nat, walk_or _ _ (by omega) (shlW_lt _ _), shlW_eq z (64 - s) (by omega), e, Nat.or_comm, or_low (64 - s) _ _ h1, Nat.add_comm]
theorem down_lt (x z s : Nat) (hs : s ≤ 64) (hx : x < B64) : x / 2 ^ s + 2 ^ (64 - s) * (z % 2 ^ s) < B64 := by
  have e : 64 - (64 - s) = s := by omega
  have h1 := shrW_lt x (64 - s) (by omega) hx
  rw [e] at h1
  have h2 : z % 2 ^ s + 1 ≤ 2 ^ s := Nat.mod_lt _ (Nat.two_pow_pos _)
  have h3 := Nat.mul_le_mul_left (2 ^ (64 - s)) h2
  rw [Nat.mul_comm (2 ^ (64 - s)) (2 ^ s), pow_split s hs, Nat.mul_add] at h3
  omega

def cin (zs : List Nat) (s j : Nat) : Nat := if j = 0 then 0 else zs.getD (j - 1) 0 * 2 ^ s / B64
theorem up_step {zs T : List Nat} {s a ov k d : Nat} (ha : a < zs.length) (hd : d = shlW (zs.getD a 0) s + cin zs s a) (h : valB B64 T + B64 ^ k * ov = 2 ^ s * valB B64 (zs.drop (a + 1)) + cin zs s (a + 1)) :
    valB B64 (d :: T) + B64 ^ (k + 1) * ov = 2 ^ s * valB B64 (zs.drop a) + cin zs s a := by
  have e1 : cin zs s (a + 1) = zs.getD a 0 * 2 ^ s / B64 := by unfold cin; rw [if_neg (by omega), Nat.add_sub_cancel]
  have e2 := Nat.mod_add_div (zs.getD a 0 * 2 ^ s) B64
  rw [valB_cons, valB_drop _ zs a ha, hd]
  unfold shlW
  rw [e1] at h
  have e3 : B64 * (valB B64 T + B64 ^ k * ov) = B64 * (2 ^ s * valB B64 (zs.drop (a + 1)) + zs.getD a 0 * 2 ^ s / B64) := by rw [h]
  rw [Nat.mul_add, Nat.mul_add] at e3
  rw [Nat.pow_succ, Nat.mul_add]
  have e4 : B64 ^ k * B64 * ov = B64 * (B64 ^ k * ov) := by rw [Nat.mul_comm (B64 ^ k) B64, Nat.mul_assoc]
  have e5 : 2 ^ s * (B64 * valB B64 (zs.drop (a + 1))) = B64 * (2 ^ s * valB B64 (zs.drop (a + 1))) := by rw [← Nat.mul_assoc, ← Nat.mul_assoc, Nat.mul_comm (2 ^ s) B64]
  rw [e4, e5, Nat.mul_comm (2 ^ s) (zs.getD a 0)]
  generalize B64 * (B64 ^ k * ov) = X1 at *
  generalize B64 * (2 ^ s * valB B64 (zs.drop (a + 1))) = X2 at *
  generalize B64 * valB B64 T = X3 at *
  generalize B64 * (zs.getD a 0 * 2 ^ s / B64) = X4 at *
  generalize zs.getD a 0 * 2 ^ s = X5 at *
  omega

def cout (zs : List Nat) (s j : Nat) : Nat := zs.getD j 0 % 2 ^ s
theorem down_step {zs dk : List Nat} {s i rem d : Nat} (hs : s ≤ 64) (hd : d = zs.getD i 0 / 2 ^ s + 2 ^ (64 - s) * cout zs s (i + 1)) (h : 2 ^ s * valB B64 (dk.take i) + rem = valB B64 (zs.take i) + B64 ^ i * cout zs s i) (hi : i < zs.length) :
    2 ^ s * (valB B64 (dk.take i) + B64 ^ i * d) + rem = valB B64 (zs.take (i + 1)) + B64 ^ (i + 1) * cout zs s (i + 1) := by
  have e1 := Nat.mod_add_div (zs.getD i 0) (2 ^ s)
  rw [valB_take_succ _ zs i hi, Nat.pow_succ, hd, Nat.mul_add (2 ^ s)]
  have e2 : 2 ^ s * (B64 ^ i * (zs.getD i 0 / 2 ^ s + 2 ^ (64 - s) * cout zs s (i + 1))) = B64 ^ i * (2 ^ s * (zs.getD i 0 / 2 ^ s)) + B64 ^ i * B64 * cout zs s (i + 1) := by
    rw [← Nat.mul_assoc, Nat.mul_comm (2 ^ s) (B64 ^ i), Nat.mul_assoc, Nat.mul_add, Nat.mul_add, ← Nat.mul_assoc (2 ^ s) (2 ^ (64 - s)), pow_split s hs, Nat.mul_assoc]
  have e3 : B64 ^ i * (zs.getD i 0 % 2 ^ s) + B64 ^ i * (2 ^ s * (zs.getD i 0 / 2 ^ s)) = B64 ^ i * zs.getD i 0 := by rw [← Nat.mul_add, e1]
  rw [e2]
  have e4 : cout zs s i = zs.getD i 0 % 2 ^ s := rfl
  rw [e4] at h
  generalize B64 ^ i * (2 ^ s * (zs.getD i 0 / 2 ^ s)) = X1 at *
  generalize B64 ^ i * (zs.getD i 0 % 2 ^ s) = X2 at *
  generalize B64 ^ i * B64 * cout zs s (i + 1) = X3 at *
  omega
end Go.Proofs.YtmekccpbcjpddaaGreatDoor
namespace Go.Proofs.YtmekccpbcjpddaaGreatDoor
set_option maxRecDepth 100000
set_option maxHeartbeats 0
theorem kn_init {b y1 y0 u d : Nat} (hd : d < b) (hu : u < y1 * b + y0) (h0 : y0 < b) (h1 : b ≤ 2 * y1) : (u * b + d) / (y1 * b + y0) ≤ u / y1 ∧ u / y1 ≤ b + 1 := by
  have hy1 : 0 < y1 := by omega
  have hY : 0 < y1 * b + y0 := by
    have := Nat.mul_pos hy1 (show 0 < b by omega)
    omega
  have hm := Nat.div_add_mod u y1
  have hl := Nat.mod_lt u hy1
  refine ⟨?_, ?_⟩
  · refine Nat.le_of_lt_succ ((Nat.div_lt_iff_lt_mul hY).2 ?_)
    have a1 : (u + 1) * b ≤ (u / y1 + 1) * y1 * b := by
      refine Nat.mul_le_mul_right b ?_
      rw [Nat.add_mul, Nat.one_mul, Nat.mul_comm (u / y1) y1]; omega
    have a2 : (u / y1 + 1) * (y1 * b + y0) = (u / y1 + 1) * y1 * b + (u / y1 + 1) * y0 := by rw [Nat.mul_add, Nat.mul_assoc]
    rw [Nat.succ_eq_add_one, a2]
    rw [Nat.add_mul, Nat.one_mul] at a1
    omega
  · refine Nat.le_of_lt_succ ((Nat.div_lt_iff_lt_mul hy1).2 ?_)
    have : (b + 1).succ * y1 = y1 * b + 2 * y1 := by rw [Nat.succ_eq_add_one, show b + 1 + 1 = b + 2 by omega, Nat.add_mul, Nat.mul_comm b y1]
    rw [this]; omega
theorem kn_more {b y1 y0 u d q r : Nat} (hd : d < b) (hu : u < y1 * b + y0) (hq : q * y1 + r = u) (hc : b ≤ q ∨ b * r + d < q * y0) : (u * b + d) / (y1 * b + y0) + 1 ≤ q := by
  refine (Nat.div_lt_iff_lt_mul (by omega)).2 ?_
  rcases hc with hc | hc
  · have a1 : b * (y1 * b + y0) ≤ q * (y1 * b + y0) := Nat.mul_le_mul_right _ hc
    have a2 : b * (u + 1) ≤ b * (y1 * b + y0) := Nat.mul_le_mul_left _ hu
    rw [Nat.mul_add, Nat.mul_one, Nat.mul_comm b u] at a2
    omega
  · have a1 : q * (y1 * b + y0) = q * y1 * b + q * y0 := by rw [Nat.mul_add, Nat.mul_assoc]
    have a2 : u * b = q * y1 * b + r * b := by rw [← hq, Nat.add_mul]
    rw [Nat.mul_comm b r] at hc
    omega
theorem kn_exit {b y1 y0 u d q r : Nat} (hu : u < y1 * b + y0) (hq : q * y1 + r = u) (hQ : (u * b + d) / (y1 * b + y0) ≤ q) (hc : q * y0 ≤ b * r + d) : q = (u * b + d) / (y1 * b + y0) := by
  refine Nat.le_antisymm ((Nat.le_div_iff_mul_le (by omega)).2 ?_) hQ
  have a1 : q * (y1 * b + y0) = q * y1 * b + q * y0 := by rw [Nat.mul_add, Nat.mul_assoc]
  have a2 : u * b = q * y1 * b + r * b := by rw [← hq, Nat.add_mul]
  rw [Nat.mul_comm b r] at hc
  omega
theorem kn_far {b y0 d q r : Nat} (h0 : y0 < b) (hq : q ≤ b) (hr : b ≤ r) : q * y0 ≤ b * r + d := by
  have a1 : q * y0 ≤ b * b := Nat.mul_le_mul hq (by omega)
  have a2 : b * b ≤ b * r := Nat.mul_le_mul_left b hr
  omega
theorem kn_lt {b y1 y0 u d : Nat} (hd : d < b) (hu : u < y1 * b + y0) : (u * b + d) / (y1 * b + y0) < b := by
  refine (Nat.div_lt_iff_lt_mul (by omega)).2 ?_
  have a2 : b * (u + 1) ≤ b * (y1 * b + y0) := Nat.mul_le_mul_left _ hu
  rw [Nat.mul_add, Nat.mul_one, Nat.mul_comm b u] at a2
  omega

theorem kn_join {b Y u un1 un0 q1 q0 r1 r0 : Nat} (h1 : u * b + un1 = q1 * Y + r1) (h0 : r1 * b + un0 = q0 * Y + r0) : u * (b * b) + (un1 * b + un0) = (q1 * b + q0) * Y + r0 := by
  have e1 : (u * b + un1) * b = (q1 * Y + r1) * b := by rw [h1]
  rw [Nat.add_mul, Nat.add_mul] at e1
  have e2 : u * b * b = u * (b * b) := Nat.mul_assoc _ _ _
  have e3 : q1 * Y * b = q1 * b * Y := by rw [Nat.mul_assoc, Nat.mul_comm Y b, ← Nat.mul_assoc]
  rw [Nat.add_mul]
  omega
theorem kn_scale {P y n q r0 : Nat} (hP : 0 < P) (h : P * n = q * (y * P) + r0) (hr : r0 < y * P) : n = q * y + r0 / P ∧ r0 / P < y := by
  have e : q * (y * P) = P * (q * y) := by rw [← Nat.mul_assoc, Nat.mul_comm]
  rw [e] at h
  have hd : P ∣ r0 := by
    have : r0 = P * n - P * (q * y) := by omega
    rw [this, ← Nat.mul_sub]; exact Nat.dvd_mul_right _ _
  obtain ⟨t, rfl⟩ := hd
  rw [Nat.mul_div_cancel_left _ hP]
  rw [← Nat.mul_add] at h
  refine ⟨Nat.eq_of_mul_eq_mul_left hP h, ?_⟩
  rw [Nat.mul_comm y P] at hr
  exact Nat.lt_of_mul_lt_mul_left hr
end Go.Proofs.YtmekccpbcjpddaaGreatDoor
namespace Go.Proofs.YtmekccpbcjpddaaGreatDoor
open Go.RowKit
set_option maxRecDepth 100000
set_option maxHeartbeats 0
theorem lz_any (x s : Nat) (w : World) (hx : x < B64) (hs : s + bitsN x = 64) : Calls Tryz.prog 45 #[U x] w fun e w' => e = .returned (.int .i64 s) ∧ w' = w := by
  go_enter Tryz.func45, Tryz.ntmps45
  go_wp2_with fail
  refine (len_any x _ hx).mono ?_
  rintro e w' ⟨rfl, hw⟩
  obtain rfl := hw.symm
  clear hw
  go_wp2_with fail
  go_ret
  exact ⟨ret_int (by omega), rfl⟩

theorem wrap_mod (n : Int) (m : Nat) (h : n % 18446744073709551616 = (m : Int)) : IntKind.u64.wrap n = (m : Int) := by rw [IntKind.wrap_u64]; exact h
theorem u_quo (lo y : Nat) (hlo : lo < B64) : IntKind.u64.wrap ((lo : Int) / (y : Int)) = ((lo / y : Nat) : Int) := by
  have := Nat.div_le_self lo y
  rw [B64_eq] at hlo
  refine wrap_mod _ _ ?_
  rw [← Int.natCast_ediv]
  generalize lo / y = Q at *
  omega

theorem div64_zero (lo y : Nat) (w : World) (hy0 : ((y : Int) == 0) = false) (hlo : lo < B64) :
    Calls Tryz.prog 43 #[U 0, U lo, U y] w fun e w' => e = .returned (.tuple #[U (lo / y), U (lo % y)]) ∧ ∃ r, w' = w.drewN r := by
  have hy : 0 < y := by simp at hy0; omega
  have hq := u_quo lo y hlo
  generalize lo / y = Q at *
  go_enter Tryz.func43, Tryz.ntmps43
  go_wp2_with fail
  go_quiet (fail)
  go_wp2_with fail
  go_ret2
  exact ⟨rfl, _, rfl⟩

structure Kn (y1 y0 u d q r : Nat) : Prop where
  eq : q * y1 + r = u
  ge : (u * 4294967296 + d) / (y1 * 4294967296 + y0) ≤ q
  le : q ≤ 4294967297
def jq (a b : Nat) : Nat := a * 4294967296 + b
structure KnB (r : Nat) : Prop where
  lt : r < 4294967296
structure KnC (y1 y0 u d : Nat) : Prop where
  hy0 : y0 < 4294967296
  hd : d < 4294967296
  hu : u < y1 * 4294967296 + y0
  hy1 : 4294967296 ≤ 2 * y1
theorem Kn.init {y1 y0 u d : Nat} (h : KnC y1 y0 u d) : Kn y1 y0 u d (u / y1) (u - u / y1 * y1) := by
  have := kn_init h.hd h.hu h.hy0 h.hy1
  have h2 := Nat.div_mul_le_self u y1
  exact ⟨by omega, this.1, this.2⟩
theorem Kn.down {y1 y0 u d q r : Nat} (k : Kn y1 y0 u d q r) (h : KnC y1 y0 u d) (hc : 4294967296 ≤ q ∨ 4294967296 * r + d < q * y0) : 1 ≤ q ∧ Kn y1 y0 u d (q - 1) (r + y1) := by
  have h1 := kn_more h.hd h.hu k.eq hc
  have h2 := k.le
  have h3 := k.eq
  refine ⟨by generalize (u * 4294967296 + d) / (y1 * 4294967296 + y0) = T at *; omega, ?_, by generalize (u * 4294967296 + d) / (y1 * 4294967296 + y0) = T at *; omega, by omega⟩
  have h4 : 1 ≤ q := by generalize (u * 4294967296 + d) / (y1 * 4294967296 + y0) = T at *; omega
  obtain ⟨t, rfl⟩ : ∃ t, q = t + 1 := ⟨q - 1, by omega⟩
  rw [Nat.add_sub_cancel]
  rw [Nat.add_mul, Nat.one_mul] at h3
  omega
theorem dm (N M : Nat) : N = N / M * M + N % M := by rw [Nat.mul_comm]; exact (Nat.div_add_mod N M).symm
structure KnD (y1 y0 u d q : Nat) (rest : Nat) : Prop where
  lt : q < 4294967296
  eq : u * 4294967296 + d = q * (y1 * 4294967296 + y0) + rest
  rlt : rest < y1 * 4294967296 + y0
theorem Kn.done {y1 y0 u d q r : Nat} (k : Kn y1 y0 u d q r) (h : KnC y1 y0 u d) (hc : q * y0 ≤ 4294967296 * r + d) : KnD y1 y0 u d q ((u * 4294967296 + d) % (y1 * 4294967296 + y0)) := by
  have h1 := kn_exit h.hu k.eq k.ge hc
  have h2 := kn_lt h.hd h.hu
  refine ⟨by omega, ?_, Nat.mod_lt _ (by have := h.hu; omega)⟩
  rw [h1]; exact dm _ _
theorem Kn.far {y1 y0 u d q r : Nat} (k : Kn y1 y0 u d q r) (h : KnC y1 y0 u d) (hq : q ≤ 4294967296) (hr : 4294967296 ≤ r) : KnD y1 y0 u d q ((u * 4294967296 + d) % (y1 * 4294967296 + y0)) :=
  k.done h (kn_far h.hy0 hq hr)
theorem kn_words {y1 y0 u d q rest Y : Nat} (k : KnD y1 y0 u d q rest) (hY : Y = y1 * 4294967296 + y0) (hYb : Y < 18446744073709551616) :
    ∃ a1 a2 a3, IntKind.u64.wrap ((u : Int) * 4294967296) = (a1 : Nat) ∧ IntKind.u64.wrap ((a1 : Nat) + (d : Int)) = (a2 : Nat) ∧ IntKind.u64.wrap ((q : Int) * (Y : Int)) = (a3 : Nat) ∧ IntKind.u64.wrap (((a2 : Nat) : Int) - ((a3 : Nat) : Int)) = (rest : Nat) := by
  have h1 := k.eq
  have h2 := k.rlt
  rw [← hY] at h1 h2
  refine ⟨u * 4294967296 % 18446744073709551616, (u * 4294967296 % 18446744073709551616 + d) % 18446744073709551616, q * Y % 18446744073709551616, ?_, ?_, ?_, ?_⟩
  · exact wrap_mod _ _ (by omega)
  · exact wrap_mod _ _ (by omega)
  · refine wrap_mod _ _ ?_
    rw [← Int.natCast_mul]; omega
  · refine wrap_mod _ _ ?_
    generalize q * Y = Z at *
    omega

theorem ret_two {a b c d : Int} (h : a = c) (k : b = d) : Ending.returned (.tuple #[.int .u64 a, .int .u64 b]) = .returned (.tuple #[.int .u64 c, .int .u64 d]) := by rw [h, k]
theorem norm_y {y s : Nat} (hy : y ≠ 0) (hs : s + bitsN y = 64) : y * 2 ^ s < 18446744073709551616 ∧ 9223372036854775808 ≤ y * 2 ^ s := by
  have h1 := bitsN_lt y
  have h2 := bitsN_le y hy
  have hp := Nat.two_pow_pos s
  constructor
  · have := Nat.mul_lt_mul_of_pos_right h1 hp
    rw [← Nat.pow_add, show bitsN y + s = 64 by omega] at this; exact this
  · have h3 := Nat.mul_le_mul_right (2 ^ s) h2
    have h4 : bitsN y ≠ 0 := by unfold bitsN; rw [if_neg hy]; omega
    rw [← Nat.pow_add, show bitsN y - 1 + s = 63 by omega] at h3; exact h3
theorem and32 (v : Nat) (h : v < 18446744073709551616) : bits .and .u64 (v : Int) 4294967295 = ((v % 4294967296 : Nat) : Int) := by
  have h1 := bits_and_u64_nat v 4294967295 h (by omega)
  rw [show v &&& 4294967295 = v % 4294967296 from Nat.and_two_pow_sub_one_eq_mod v 32] at h1
  exact h1
theorem div32 (v : Nat) : (v : Int) / 4294967296 = ((v / 4294967296 : Nat) : Int) := by omega

theorem div64_walk (hi lo y s Y y1 y0 hs ls u v un1 un0 qi qy ri : Nat) (w : World) (hh0 : ((hi : Int) == 0) = false) (hy0 : ((y : Int) == 0) = false) (hhy : hi < y) (hyb : y < B64) (HSB : Hid (s + bitsN y = 64)) (hs64 : s < 64)
    (eY : IntKind.u64.wrap ((y : Int) * 2 ^ s) = (Y : Int)) (ey1 : (Y : Int) / 4294967296 = (y1 : Int)) (ey0 : bits .and .u64 (Y : Int) 4294967295 = (y0 : Int))
    (ehs : IntKind.u64.wrap ((hi : Int) * 2 ^ s) = (hs : Int)) (els : (lo : Int) / 2 ^ (64 - s) = (ls : Int)) (eu : bits .or .u64 (hs : Int) (ls : Int) = (u : Int))
    (ev : IntKind.u64.wrap ((lo : Int) * 2 ^ s) = (v : Int)) (eun1 : (v : Int) / 4294967296 = (un1 : Int)) (eun0 : bits .and .u64 (v : Int) 4294967295 = (un0 : Int))
    (eqi : (u : Int) / (y1 : Int) = (qi : Int)) (eqy : (qi : Int) * (y1 : Int) = (qy : Int)) (eri : (u : Int) - (qy : Int) = (ri : Int)) (hqi : qi ≤ 4294967297) (hqy : qy ≤ 18446744073709551615) (hri : ri < 4294967296)
    (hy1 : 1 ≤ y1) (hy1b : y1 < 4294967296) (hy0b : y0 < 4294967296) (hun1 : un1 < 4294967296) (hun0 : un0 < 4294967296)
    (HC : Hid (KnC y1 y0 u un1)) (HK : Hid (Kn y1 y0 u un1 qi ri)) (HY : Hid (Y = y1 * 4294967296 + y0)) (HYB : Hid (Y < 18446744073709551616)) :
    Calls Tryz.prog 43 #[U hi, U lo, U y] w fun e w' => ∃ q1 q0 r1 r0, e = .returned (.tuple #[U (jq q1 q0), U (r0 / 2 ^ s)]) ∧ w' = w ∧ KnD y1 y0 u un1 q1 r1 ∧ KnD y1 y0 r1 un0 q0 r0 := by
  go_enter Tryz.func43, Tryz.ntmps43
  go_wp2_with fail
  refine (lz_any y s _ hyb HSB.out).mono ?_
  rintro e w' ⟨rfl, hw⟩
  obtain rfl := hw.symm
  clear hw
  go_wp2_with fail
  go_loop [15, 16] (fun a b => ∃ q r : Nat, a = U q ∧ b = U r ∧ KnB r ∧ Kn y1 y0 u un1 q r) (fun a _ => (intOf a).toNat)
  case atStart => exact ⟨qi, ri, rfl, rfl, ⟨hri⟩, HK.out⟩
  case round =>
    obtain ⟨q, r, rfl, rfl, hrb, hk⟩ := hrel
    have hr := hrb.lt
    have hq := hk.le
    have HK2 : Hid (Kn y1 y0 u un1 q r) := hk
    clear hk HK eY ey1 ey0 ehs els eu ev eun1 eun0 eqi eqy eri hyb hqi hqy hri hh0 hy0 hhy
    obtain ⟨pq, epq⟩ : ∃ pq : Nat, (q : Int) * (y0 : Int) = (pq : Int) := ⟨q * y0, by simp⟩
    have HPQ : Hid (pq = q * y0) := by have := epq; rw [← Int.natCast_mul] at this; exact (Int.ofNat.inj this).symm
    have hpb : q < 4294967296 → pq ≤ 18446744073709551615 := by
      intro hlt
      rw [HPQ.out]
      have := Nat.mul_le_mul (show q ≤ 4294967295 by omega) (show y0 ≤ 4294967295 by omega)
      omega
    by_cases c1 : 4294967296 ≤ q
    · have c1b : decide ((4294967296 : Int) ≤ (q : Int)) = true := decide_eq_true (by omega)
      obtain ⟨hq1, hk2⟩ := HK2.out.down HC.out (.inl c1)
      clear hpb epq HPQ c1
      by_cases c3 : 4294967296 ≤ r + y1
      · have HD : Hid (KnD y1 y0 u un1 (q - 1) ((u * 4294967296 + un1) % (y1 * 4294967296 + y0))) := hk2.far HC.out (by omega) c3
        generalize (u * 4294967296 + un1) % (y1 * 4294967296 + y0) = R1 at HD
        obtain ⟨q', hq'⟩ : ∃ q', q' = q - 1 := ⟨_, rfl⟩
        have eq' : (q : Int) - 1 = (q' : Int) := by omega
        rw [← hq'] at HD
        have c3b : decide ((4294967296 : Int) ≤ (r : Int) + (y1 : Int)) = true := decide_eq_true (by omega)
        clear hk2 hq'
        have hqb : q' < 4294967296 := HD.out.lt
        have hrlt := HD.out.rlt
        obtain ⟨a1, a2, a3, e1, e2, e3, e4⟩ := kn_words HD.out HY.out HYB.out
        have HC2 : Hid (KnC y1 y0 R1 un0) := ⟨hy0b, hun0, hrlt, HC.out.hy1⟩
        have hin := Kn.init HC2.out
        have hrb2 : R1 ≤ 18446744073709551615 := by have h1 := HY.out; have h2 := HYB.out; omega
        obtain ⟨qj, hqj⟩ : ∃ qj, qj = R1 / y1 := ⟨_, rfl⟩
        obtain ⟨qjy, hqjy⟩ : ∃ qjy, qjy = R1 / y1 * y1 := ⟨_, rfl⟩
        obtain ⟨rj, hrj⟩ : ∃ rj, rj = R1 - R1 / y1 * y1 := ⟨_, rfl⟩
        have hle := Nat.div_mul_le_self R1 y1
        have hml := Nat.mod_lt R1 (show 0 < y1 by omega)
        have hdm := Nat.div_add_mod R1 y1
        rw [Nat.mul_comm] at hdm
        rw [← hrj, ← hqj] at hin
        have g1 : (R1 : Int) / (y1 : Int) = (qj : Int) := by rw [hqj]; exact (Int.natCast_ediv _ _).symm
        have g2 : (qj : Int) * (y1 : Int) = (qjy : Int) := by rw [hqjy, hqj]; exact (Int.natCast_mul _ _).symm
        have g3 : (R1 : Int) - (qjy : Int) = (rj : Int) := by rw [hqjy, hrj]; omega
        have hqjb : qj ≤ 4294967297 := hin.le
        have hqjyb : qjy ≤ R1 := by rw [hqjy]; exact hle
        have hrjb : rj < 4294967296 := by rw [hrj]; omega
        have HIN : Hid (Kn y1 y0 R1 un0 qj rj) := hin
        clear hin hle hml hdm hqj hqjy hrj hrlt
        go_wp2_with fail
        go_loop [18, 16] (fun a b => ∃ t z : Nat, a = U t ∧ b = U z ∧ KnB z ∧ Kn y1 y0 R1 un0 t z) (fun a _ => (intOf a).toNat)
        case atStart => exact ⟨qj, rj, rfl, rfl, ⟨hrjb⟩, HIN.out⟩
        case round =>
          obtain ⟨t, z, rfl, rfl, hzb, hkt⟩ := hrel
          have hz := hzb.lt
          have ht := hkt.le
          have HKT : Hid (Kn y1 y0 R1 un0 t z) := hkt
          clear hkt HIN e1 e2 e3 e4 g1 g2 g3 hqjb hqjyb hrjb
          obtain ⟨pt, ept⟩ : ∃ pt : Nat, (t : Int) * (y0 : Int) = (pt : Int) := ⟨t * y0, by simp⟩
          have HPT : Hid (pt = t * y0) := by have := ept; rw [← Int.natCast_mul] at this; exact (Int.ofNat.inj this).symm
          have hptb : t < 4294967296 → pt ≤ 18446744073709551615 := by
            intro hlt
            rw [HPT.out]
            have := Nat.mul_le_mul (show t ≤ 4294967295 by omega) (show y0 ≤ 4294967295 by omega)
            omega
          by_cases d1 : 4294967296 ≤ t
          · have d1b : decide ((4294967296 : Int) ≤ (t : Int)) = true := decide_eq_true (by omega)
            obtain ⟨ht1, hk3⟩ := HKT.out.down HC2.out (.inl d1)
            clear hptb ept HPT
            by_cases d3 : 4294967296 ≤ z + y1
            · have HE : Hid (KnD y1 y0 R1 un0 (t - 1) ((R1 * 4294967296 + un0) % (y1 * 4294967296 + y0))) := hk3.far HC2.out (by omega) d3
              generalize (R1 * 4294967296 + un0) % (y1 * 4294967296 + y0) = R0 at HE
              obtain ⟨t', ht'⟩ : ∃ t', t' = t - 1 := ⟨_, rfl⟩
              have et' : (t : Int) - 1 = (t' : Int) := by omega
              rw [← ht'] at HE
              have d3b : decide ((4294967296 : Int) ≤ (z : Int) + (y1 : Int)) = true := decide_eq_true (by omega)
              clear hk3 ht'
              have htb : t' < 4294967296 := HE.out.lt
              have hqb2 : q' < 4294967296 := HD.out.lt
              obtain ⟨b1, b2, b3, f1, f2, f3, f4⟩ := kn_words HE.out HY.out HYB.out
              go_wp2_with fail
              go_ret2
              refine ⟨q', t', R1, R0, ?_, rfl, HD.out, HE.out⟩
              exact ret_two (by unfold jq; omega) (by rw [div_nat])
            · have HK4 : Hid (Kn y1 y0 R1 un0 (t - 1) (z + y1)) := hk3
              have d3b : decide ((4294967296 : Int) ≤ (z : Int) + (y1 : Int)) = false := decide_eq_false (by omega)
              clear hk3
              go_wp2_with fail
              go_round
              case rel => exact ⟨t - 1, z + y1, by go_num, by go_num, ⟨by omega⟩, HK4.out⟩
              case measure => simp [intOf]; omega
          · have hptb' := hptb (by omega)
            have d1b : decide ((4294967296 : Int) ≤ (t : Int)) = false := decide_eq_false (by omega)
            by_cases d2 : 4294967296 * z + un0 < pt
            · obtain ⟨ht1, hk3⟩ := HKT.out.down HC2.out (.inr (by rw [← HPT.out]; exact d2))
              have d2b : decide (4294967296 * (z : Int) + (un0 : Int) < (pt : Int)) = true := decide_eq_true (by omega)
              clear hptb
              by_cases d3 : 4294967296 ≤ z + y1
              · have HE : Hid (KnD y1 y0 R1 un0 (t - 1) ((R1 * 4294967296 + un0) % (y1 * 4294967296 + y0))) := hk3.far HC2.out (by omega) d3
                generalize (R1 * 4294967296 + un0) % (y1 * 4294967296 + y0) = R0 at HE
                obtain ⟨t', ht'⟩ : ∃ t', t' = t - 1 := ⟨_, rfl⟩
                have et' : (t : Int) - 1 = (t' : Int) := by omega
                rw [← ht'] at HE
                have d3b : decide ((4294967296 : Int) ≤ (z : Int) + (y1 : Int)) = true := decide_eq_true (by omega)
                clear hk3 ht'
                have htb : t' < 4294967296 := HE.out.lt
                have hqb2 : q' < 4294967296 := HD.out.lt
                obtain ⟨b1, b2, b3, f1, f2, f3, f4⟩ := kn_words HE.out HY.out HYB.out
                go_wp2_with fail
                go_ret2
                refine ⟨q', t', R1, R0, ?_, rfl, HD.out, HE.out⟩
                exact ret_two (by unfold jq; omega) (by rw [div_nat])
              · have HK4 : Hid (Kn y1 y0 R1 un0 (t - 1) (z + y1)) := hk3
                have d3b : decide ((4294967296 : Int) ≤ (z : Int) + (y1 : Int)) = false := decide_eq_false (by omega)
                clear hk3
                go_wp2_with fail
                go_round
                case rel => exact ⟨t - 1, z + y1, by go_num, by go_num, ⟨by omega⟩, HK4.out⟩
                case measure => simp [intOf]; omega
            · have HE : Hid (KnD y1 y0 R1 un0 t ((R1 * 4294967296 + un0) % (y1 * 4294967296 + y0))) := HKT.out.done HC2.out (by rw [← HPT.out]; omega)
              have d2b : decide (4294967296 * (z : Int) + (un0 : Int) < (pt : Int)) = false := decide_eq_false (by omega)
              clear hptb
              generalize (R1 * 4294967296 + un0) % (y1 * 4294967296 + y0) = R0 at HE
              have htb : t < 4294967296 := HE.out.lt
              have hqb2 : q' < 4294967296 := HD.out.lt
              obtain ⟨b1, b2, b3, f1, f2, f3, f4⟩ := kn_words HE.out HY.out HYB.out
              go_wp2_with fail
              go_ret2
              refine ⟨q', t, R1, R0, ?_, rfl, HD.out, HE.out⟩
              exact ret_two (by unfold jq; omega) (by rw [div_nat])
      · have HK3 : Hid (Kn y1 y0 u un1 (q - 1) (r + y1)) := hk2
        have c3b : decide ((4294967296 : Int) ≤ (r : Int) + (y1 : Int)) = false := decide_eq_false (by omega)
        clear hk2
        go_wp2_with fail
        go_round
        case rel => exact ⟨q - 1, r + y1, by go_num, by go_num, ⟨by omega⟩, HK3.out⟩
        case measure => simp [intOf]; omega
    · have hpb' := hpb (by omega)
      have c1b : decide ((4294967296 : Int) ≤ (q : Int)) = false := decide_eq_false (by omega)
      by_cases c2 : 4294967296 * r + un1 < pq
      · obtain ⟨hq1, hk2⟩ := HK2.out.down HC.out (.inr (by rw [← HPQ.out]; exact c2))
        have c2b : decide (4294967296 * (r : Int) + (un1 : Int) < (pq : Int)) = true := decide_eq_true (by omega)
        clear hpb
        by_cases c3 : 4294967296 ≤ r + y1
        · have HD : Hid (KnD y1 y0 u un1 (q - 1) ((u * 4294967296 + un1) % (y1 * 4294967296 + y0))) := hk2.far HC.out (by omega) c3
          generalize (u * 4294967296 + un1) % (y1 * 4294967296 + y0) = R1 at HD
          obtain ⟨q', hq'⟩ : ∃ q', q' = q - 1 := ⟨_, rfl⟩
          have eq' : (q : Int) - 1 = (q' : Int) := by omega
          rw [← hq'] at HD
          have c3b : decide ((4294967296 : Int) ≤ (r : Int) + (y1 : Int)) = true := decide_eq_true (by omega)
          clear hk2 hq'
          have hqb : q' < 4294967296 := HD.out.lt
          have hrlt := HD.out.rlt
          obtain ⟨a1, a2, a3, e1, e2, e3, e4⟩ := kn_words HD.out HY.out HYB.out
          have HC2 : Hid (KnC y1 y0 R1 un0) := ⟨hy0b, hun0, hrlt, HC.out.hy1⟩
          have hin := Kn.init HC2.out
          have hrb2 : R1 ≤ 18446744073709551615 := by have h1 := HY.out; have h2 := HYB.out; omega
          obtain ⟨qj, hqj⟩ : ∃ qj, qj = R1 / y1 := ⟨_, rfl⟩
          obtain ⟨qjy, hqjy⟩ : ∃ qjy, qjy = R1 / y1 * y1 := ⟨_, rfl⟩
          obtain ⟨rj, hrj⟩ : ∃ rj, rj = R1 - R1 / y1 * y1 := ⟨_, rfl⟩
          have hle := Nat.div_mul_le_self R1 y1
          have hml := Nat.mod_lt R1 (show 0 < y1 by omega)
          have hdm := Nat.div_add_mod R1 y1
          rw [Nat.mul_comm] at hdm
          rw [← hrj, ← hqj] at hin
          have g1 : (R1 : Int) / (y1 : Int) = (qj : Int) := by rw [hqj]; exact (Int.natCast_ediv _ _).symm
          have g2 : (qj : Int) * (y1 : Int) = (qjy : Int) := by rw [hqjy, hqj]; exact (Int.natCast_mul _ _).symm
          have g3 : (R1 : Int) - (qjy : Int) = (rj : Int) := by rw [hqjy, hrj]; omega
          have hqjb : qj ≤ 4294967297 := hin.le
          have hqjyb : qjy ≤ R1 := by rw [hqjy]; exact hle
          have hrjb : rj < 4294967296 := by rw [hrj]; omega
          have HIN : Hid (Kn y1 y0 R1 un0 qj rj) := hin
          clear hin hle hml hdm hqj hqjy hrj hrlt
          go_wp2_with fail
          go_loop [18, 16] (fun a b => ∃ t z : Nat, a = U t ∧ b = U z ∧ KnB z ∧ Kn y1 y0 R1 un0 t z) (fun a _ => (intOf a).toNat)
          case atStart => exact ⟨qj, rj, rfl, rfl, ⟨hrjb⟩, HIN.out⟩
          case round =>
            obtain ⟨t, z, rfl, rfl, hzb, hkt⟩ := hrel
            have hz := hzb.lt
            have ht := hkt.le
            have HKT : Hid (Kn y1 y0 R1 un0 t z) := hkt
            clear hkt HIN e1 e2 e3 e4 g1 g2 g3 hqjb hqjyb hrjb
            obtain ⟨pt, ept⟩ : ∃ pt : Nat, (t : Int) * (y0 : Int) = (pt : Int) := ⟨t * y0, by simp⟩
            have HPT : Hid (pt = t * y0) := by have := ept; rw [← Int.natCast_mul] at this; exact (Int.ofNat.inj this).symm
            have hptb : t < 4294967296 → pt ≤ 18446744073709551615 := by
              intro hlt
              rw [HPT.out]
              have := Nat.mul_le_mul (show t ≤ 4294967295 by omega) (show y0 ≤ 4294967295 by omega)
              omega
            by_cases d1 : 4294967296 ≤ t
            · have d1b : decide ((4294967296 : Int) ≤ (t : Int)) = true := decide_eq_true (by omega)
              obtain ⟨ht1, hk3⟩ := HKT.out.down HC2.out (.inl d1)
              clear hptb ept HPT
              by_cases d3 : 4294967296 ≤ z + y1
              · have HE : Hid (KnD y1 y0 R1 un0 (t - 1) ((R1 * 4294967296 + un0) % (y1 * 4294967296 + y0))) := hk3.far HC2.out (by omega) d3
                generalize (R1 * 4294967296 + un0) % (y1 * 4294967296 + y0) = R0 at HE
                obtain ⟨t', ht'⟩ : ∃ t', t' = t - 1 := ⟨_, rfl⟩
                have et' : (t : Int) - 1 = (t' : Int) := by omega
                rw [← ht'] at HE
                have d3b : decide ((4294967296 : Int) ≤ (z : Int) + (y1 : Int)) = true := decide_eq_true (by omega)
                clear hk3 ht'
                have htb : t' < 4294967296 := HE.out.lt
                have hqb2 : q' < 4294967296 := HD.out.lt
                obtain ⟨b1, b2, b3, f1, f2, f3, f4⟩ := kn_words HE.out HY.out HYB.out
                go_wp2_with fail
                go_ret2
                refine ⟨q', t', R1, R0, ?_, rfl, HD.out, HE.out⟩
                exact ret_two (by unfold jq; omega) (by rw [div_nat])
              · have HK4 : Hid (Kn y1 y0 R1 un0 (t - 1) (z + y1)) := hk3
                have d3b : decide ((4294967296 : Int) ≤ (z : Int) + (y1 : Int)) = false := decide_eq_false (by omega)
                clear hk3
                go_wp2_with fail
                go_round
                case rel => exact ⟨t - 1, z + y1, by go_num, by go_num, ⟨by omega⟩, HK4.out⟩
                case measure => simp [intOf]; omega
            · have hptb' := hptb (by omega)
              have d1b : decide ((4294967296 : Int) ≤ (t : Int)) = false := decide_eq_false (by omega)
              by_cases d2 : 4294967296 * z + un0 < pt
              · obtain ⟨ht1, hk3⟩ := HKT.out.down HC2.out (.inr (by rw [← HPT.out]; exact d2))
                have d2b : decide (4294967296 * (z : Int) + (un0 : Int) < (pt : Int)) = true := decide_eq_true (by omega)
                clear hptb
                by_cases d3 : 4294967296 ≤ z + y1
                · have HE : Hid (KnD y1 y0 R1 un0 (t - 1) ((R1 * 4294967296 + un0) % (y1 * 4294967296 + y0))) := hk3.far HC2.out (by omega) d3
                  generalize (R1 * 4294967296 + un0) % (y1 * 4294967296 + y0) = R0 at HE
                  obtain ⟨t', ht'⟩ : ∃ t', t' = t - 1 := ⟨_, rfl⟩
                  have et' : (t : Int) - 1 = (t' : Int) := by omega
                  rw [← ht'] at HE
                  have d3b : decide ((4294967296 : Int) ≤ (z : Int) + (y1 : Int)) = true := decide_eq_true (by omega)
                  clear hk3 ht'
                  have htb : t' < 4294967296 := HE.out.lt
                  have hqb2 : q' < 4294967296 := HD.out.lt
                  obtain ⟨b1, b2, b3, f1, f2, f3, f4⟩ := kn_words HE.out HY.out HYB.out
                  go_wp2_with fail
                  go_ret2
                  refine ⟨q', t', R1, R0, ?_, rfl, HD.out, HE.out⟩
                  exact ret_two (by unfold jq; omega) (by rw [div_nat])
                · have HK4 : Hid (Kn y1 y0 R1 un0 (t - 1) (z + y1)) := hk3
                  have d3b : decide ((4294967296 : Int) ≤ (z : Int) + (y1 : Int)) = false := decide_eq_false (by omega)
                  clear hk3
                  go_wp2_with fail
                  go_round
                  case rel => exact ⟨t - 1, z + y1, by go_num, by go_num, ⟨by omega⟩, HK4.out⟩
                  case measure => simp [intOf]; omega
              · have HE : Hid (KnD y1 y0 R1 un0 t ((R1 * 4294967296 + un0) % (y1 * 4294967296 + y0))) := HKT.out.done HC2.out (by rw [← HPT.out]; omega)
                have d2b : decide (4294967296 * (z : Int) + (un0 : Int) < (pt : Int)) = false := decide_eq_false (by omega)
                clear hptb
                generalize (R1 * 4294967296 + un0) % (y1 * 4294967296 + y0) = R0 at HE
                have htb : t < 4294967296 := HE.out.lt
                have hqb2 : q' < 4294967296 := HD.out.lt
                obtain ⟨b1, b2, b3, f1, f2, f3, f4⟩ := kn_words HE.out HY.out HYB.out
                go_wp2_with fail
                go_ret2
                refine ⟨q', t, R1, R0, ?_, rfl, HD.out, HE.out⟩
                exact ret_two (by unfold jq; omega) (by rw [div_nat])
        · have HK3 : Hid (Kn y1 y0 u un1 (q - 1) (r + y1)) := hk2
          have c3b : decide ((4294967296 : Int) ≤ (r : Int) + (y1 : Int)) = false := decide_eq_false (by omega)
          clear hk2
          go_wp2_with fail
          go_round
          case rel => exact ⟨q - 1, r + y1, by go_num, by go_num, ⟨by omega⟩, HK3.out⟩
          case measure => simp [intOf]; omega
      · have HD : Hid (KnD y1 y0 u un1 q ((u * 4294967296 + un1) % (y1 * 4294967296 + y0))) := HK2.out.done HC.out (by rw [← HPQ.out]; omega)
        have c2b : decide (4294967296 * (r : Int) + (un1 : Int) < (pq : Int)) = false := decide_eq_false (by omega)
        clear hpb
        generalize (u * 4294967296 + un1) % (y1 * 4294967296 + y0) = R1 at HD
        have hqb : q < 4294967296 := HD.out.lt
        have hrlt := HD.out.rlt
        obtain ⟨a1, a2, a3, e1, e2, e3, e4⟩ := kn_words HD.out HY.out HYB.out
        have HC2 : Hid (KnC y1 y0 R1 un0) := ⟨hy0b, hun0, hrlt, HC.out.hy1⟩
        have hin := Kn.init HC2.out
        have hrb2 : R1 ≤ 18446744073709551615 := by have h1 := HY.out; have h2 := HYB.out; omega
        obtain ⟨qj, hqj⟩ : ∃ qj, qj = R1 / y1 := ⟨_, rfl⟩
        obtain ⟨qjy, hqjy⟩ : ∃ qjy, qjy = R1 / y1 * y1 := ⟨_, rfl⟩
        obtain ⟨rj, hrj⟩ : ∃ rj, rj = R1 - R1 / y1 * y1 := ⟨_, rfl⟩
        have hle := Nat.div_mul_le_self R1 y1
        have hml := Nat.mod_lt R1 (show 0 < y1 by omega)
        have hdm := Nat.div_add_mod R1 y1
        rw [Nat.mul_comm] at hdm
        rw [← hrj, ← hqj] at hin
        have g1 : (R1 : Int) / (y1 : Int) = (qj : Int) := by rw [hqj]; exact (Int.natCast_ediv _ _).symm
        have g2 : (qj : Int) * (y1 : Int) = (qjy : Int) := by rw [hqjy, hqj]; exact (Int.natCast_mul _ _).symm
        have g3 : (R1 : Int) - (qjy : Int) = (rj : Int) := by rw [hqjy, hrj]; omega
        have hqjb : qj ≤ 4294967297 := hin.le
        have hqjyb : qjy ≤ R1 := by rw [hqjy]; exact hle
        have hrjb : rj < 4294967296 := by rw [hrj]; omega
        have HIN : Hid (Kn y1 y0 R1 un0 qj rj) := hin
        clear hin hle hml hdm hqj hqjy hrj hrlt
        go_wp2_with fail
        go_loop [18, 16] (fun a b => ∃ t z : Nat, a = U t ∧ b = U z ∧ KnB z ∧ Kn y1 y0 R1 un0 t z) (fun a _ => (intOf a).toNat)
        case atStart => exact ⟨qj, rj, rfl, rfl, ⟨hrjb⟩, HIN.out⟩
        case round =>
          obtain ⟨t, z, rfl, rfl, hzb, hkt⟩ := hrel
          have hz := hzb.lt
          have ht := hkt.le
          have HKT : Hid (Kn y1 y0 R1 un0 t z) := hkt
          clear hkt HIN e1 e2 e3 e4 g1 g2 g3 hqjb hqjyb hrjb
          obtain ⟨pt, ept⟩ : ∃ pt : Nat, (t : Int) * (y0 : Int) = (pt : Int) := ⟨t * y0, by simp⟩
          have HPT : Hid (pt = t * y0) := by have := ept; rw [← Int.natCast_mul] at this; exact (Int.ofNat.inj this).symm
          have hptb : t < 4294967296 → pt ≤ 18446744073709551615 := by
            intro hlt
            rw [HPT.out]
            have := Nat.mul_le_mul (show t ≤ 4294967295 by omega) (show y0 ≤ 4294967295 by omega)
            omega
          by_cases d1 : 4294967296 ≤ t
          · have d1b : decide ((4294967296 : Int) ≤ (t : Int)) = true := decide_eq_true (by omega)
            obtain ⟨ht1, hk3⟩ := HKT.out.down HC2.out (.inl d1)
            clear hptb ept HPT
            by_cases d3 : 4294967296 ≤ z + y1
            · have HE : Hid (KnD y1 y0 R1 un0 (t - 1) ((R1 * 4294967296 + un0) % (y1 * 4294967296 + y0))) := hk3.far HC2.out (by omega) d3
              generalize (R1 * 4294967296 + un0) % (y1 * 4294967296 + y0) = R0 at HE
              obtain ⟨t', ht'⟩ : ∃ t', t' = t - 1 := ⟨_, rfl⟩
              have et' : (t : Int) - 1 = (t' : Int) := by omega
              rw [← ht'] at HE
              have d3b : decide ((4294967296 : Int) ≤ (z : Int) + (y1 : Int)) = true := decide_eq_true (by omega)
              clear hk3 ht'
              have htb : t' < 4294967296 := HE.out.lt
              have hqb2 : q < 4294967296 := HD.out.lt
              obtain ⟨b1, b2, b3, f1, f2, f3, f4⟩ := kn_words HE.out HY.out HYB.out
              go_wp2_with fail
              go_ret2
              refine ⟨q, t', R1, R0, ?_, rfl, HD.out, HE.out⟩
              exact ret_two (by unfold jq; omega) (by rw [div_nat])
            · have HK4 : Hid (Kn y1 y0 R1 un0 (t - 1) (z + y1)) := hk3
              have d3b : decide ((4294967296 : Int) ≤ (z : Int) + (y1 : Int)) = false := decide_eq_false (by omega)
              clear hk3
              go_wp2_with fail
              go_round
              case rel => exact ⟨t - 1, z + y1, by go_num, by go_num, ⟨by omega⟩, HK4.out⟩
              case measure => simp [intOf]; omega
          · have hptb' := hptb (by omega)
            have d1b : decide ((4294967296 : Int) ≤ (t : Int)) = false := decide_eq_false (by omega)
            by_cases d2 : 4294967296 * z + un0 < pt
            · obtain ⟨ht1, hk3⟩ := HKT.out.down HC2.out (.inr (by rw [← HPT.out]; exact d2))
              have d2b : decide (4294967296 * (z : Int) + (un0 : Int) < (pt : Int)) = true := decide_eq_true (by omega)
              clear hptb
              by_cases d3 : 4294967296 ≤ z + y1
              · have HE : Hid (KnD y1 y0 R1 un0 (t - 1) ((R1 * 4294967296 + un0) % (y1 * 4294967296 + y0))) := hk3.far HC2.out (by omega) d3
                generalize (R1 * 4294967296 + un0) % (y1 * 4294967296 + y0) = R0 at HE
                obtain ⟨t', ht'⟩ : ∃ t', t' = t - 1 := ⟨_, rfl⟩
                have et' : (t : Int) - 1 = (t' : Int) := by omega
                rw [← ht'] at HE
                have d3b : decide ((4294967296 : Int) ≤ (z : Int) + (y1 : Int)) = true := decide_eq_true (by omega)
                clear hk3 ht'
                have htb : t' < 4294967296 := HE.out.lt
                have hqb2 : q < 4294967296 := HD.out.lt
                obtain ⟨b1, b2, b3, f1, f2, f3, f4⟩ := kn_words HE.out HY.out HYB.out
                go_wp2_with fail
                go_ret2
                refine ⟨q, t', R1, R0, ?_, rfl, HD.out, HE.out⟩
                exact ret_two (by unfold jq; omega) (by rw [div_nat])
              · have HK4 : Hid (Kn y1 y0 R1 un0 (t - 1) (z + y1)) := hk3
                have d3b : decide ((4294967296 : Int) ≤ (z : Int) + (y1 : Int)) = false := decide_eq_false (by omega)
                clear hk3
                go_wp2_with fail
                go_round
                case rel => exact ⟨t - 1, z + y1, by go_num, by go_num, ⟨by omega⟩, HK4.out⟩
                case measure => simp [intOf]; omega
            · have HE : Hid (KnD y1 y0 R1 un0 t ((R1 * 4294967296 + un0) % (y1 * 4294967296 + y0))) := HKT.out.done HC2.out (by rw [← HPT.out]; omega)
              have d2b : decide (4294967296 * (z : Int) + (un0 : Int) < (pt : Int)) = false := decide_eq_false (by omega)
              clear hptb
              generalize (R1 * 4294967296 + un0) % (y1 * 4294967296 + y0) = R0 at HE
              have htb : t < 4294967296 := HE.out.lt
              have hqb2 : q < 4294967296 := HD.out.lt
              obtain ⟨b1, b2, b3, f1, f2, f3, f4⟩ := kn_words HE.out HY.out HYB.out
              go_wp2_with fail
              go_ret2
              refine ⟨q, t, R1, R0, ?_, rfl, HD.out, HE.out⟩
              exact ret_two (by unfold jq; omega) (by rw [div_nat])
theorem step_append_own {P : Program} {ops : Array Oper} {o : Oper} {a : Act} {w : World} {K : Act → World → Prop} {Q : Exit → Act → World → Prop} {E : Prop}
    (hg : o.guard = none) (s x : Operand) (t : TypeId) (hop : o.op = Op.call { callee := Callee.builtin Builtin.append, args := #[s, x], argTypes := #[t, t] })
    (base : Nat) (e : TypeId) (i : TypeInfo) (size : Nat) (h1 : P.underlying t = some (.slice e)) (h2 : P.info? e = some i) (h4 : i.size = size)
    (g k cap : Nat) (xs : List Value) (hs : a.eval s = .slice (some ⟨g, 0, none⟩) k cap) (hown : w.ownsRow base e size (.slice (some ⟨g, 0, none⟩) k cap) k xs) (ad : Addr) (m c : Nat) (news : List Value) (hx : a.eval x = .slice (some ad) m c) (hn : news.length = m * size)
    (hc : ∀ j u, news[j]? = some u → w.cell? (ad.add j) = some u) (h1c : ∀ u ∈ news, u.oneCell' = true) (b1 : k + m ≤ cap)
    (hK : ∀ w', w'.ownsRow base e size (.slice (some ⟨g, 0, none⟩) (k + m) cap) (k + m) (xs ++ news) → w.grownBy w' (some g) → K (a.put o.dst (.slice (some ⟨g, 0, none⟩) (k + m) cap)) w') :
    if Region.wanted o (yielded ops a.tmps) = true then Oper.wp P o a w K Q else E := by
  have hw : Region.wanted o (yielded ops a.tmps) = true := by simp [Region.wanted, hg]
  rw [if_pos hw]
  obtain ⟨w', hrun, r1, r2⟩ := run_append_fits (P := P) w base t o.type e i size h1 h2 h4 g k cap xs hown ad m c news hn hc h1c b1
  unfold Oper.wp
  simp [execOp, hop, resolve, invoke, builtin, hs, hx, hrun, Result.andThen]
  exact hK _ r1 r2
theorem bDrew {B : Nat} {a w : World} (h : Below B a w) : Below B a w.drew := ⟨h.os, h.tape, h.output, h.size, h.block⟩
theorem wrap32 (v : Nat) (h : v < B32) : IntKind.u32.wrap (v : Int) = (v : Int) := by
  rw [B32_eq] at h
  simp [IntKind.wrap, IntKind.signed, IntKind.bits]
  omega
theorem two_cells (w : World) (x y : Nat) : ∀ (j : Nat) (u : Value), [V x, V y][j]? = some u → (w.alloc (.cells #[V x, V y] 70)).cell? ((⟨w.heap.size, 0, none⟩ : Addr).add j) = some u := by
  intro j u h
  have hb : Blk32 (w.alloc (.cells #[V x, V y] 70)) w.heap.size [x, y] := heap_alloc_new w _
  have hj : j < 2 := by
    have := (List.getElem?_eq_some_iff.1 h).1
    simpa using this
  have hadd : (⟨w.heap.size, 0, none⟩ : Addr).add j = ⟨w.heap.size, j, none⟩ := by unfold Addr.add; split <;> simp_all
  rw [hadd, hb.cell j (by simpa using hj)]
  rcases Nat.lt_or_ge j 1 with h1 | h1
  · obtain rfl : j = 0 := by omega
    simpa using h
  · obtain rfl : j = 1 := by omega
    simpa using h

theorem from_any {p : Option Addr} {n c : Nat} {xs : List Nat} {w : World} (h : At w p n c xs) (hn : n ≤ 17592186044416) :
    Calls Tryz.prog 19 #[.slice p n c] w fun e w' =>
      ∃ g zs, e = .returned (.slice (some ⟨g, 0, none⟩) zs.length zs.length) ∧ w.heap.size ≤ g ∧ Blk32 w' g zs ∧ Nf B32 zs (valB B64 xs) ∧ zs.length ≤ 2 * n ∧ Below w.heap.size w w' := by
  obtain ⟨i0, hi, hz0, hz1, hz2⟩ := info_parts Tryz.infoU32
  have hl := h.len; have cap := h.cap; have big := h.big
  unfold maxLen at big
  have HL : Hid (xs.length = n) := hl
  clear hl
  go_enter Tryz.func19, Tryz.ntmps19
  go_wp2_with (at_make; refine wpList_make_own _ rfl _ _ 46 rfl w.heap.size 70 i0 (.int .u32 0) 1 Tryz.underlying46 hi hz0 hz1 _ _ _ (2 * n) rfl rfl (by omega) (by rw [hz2]; omega) (by unfold maxLen; omega) (Nat.le_refl _) ?_; intro w1 hown hgrow)
  have HO : Hid (w1.ownsRow w.heap.size 70 1 (.slice (some ⟨w.heap.size, 0, none⟩) 0 (2 * n)) 0 []) := hown
  have hb1 : Below w.heap.size w w1 := (Below.refl _ _).grown hgrow (Nat.le_refl _) (fun k hk => by simp at hk)
  clear hown hgrow
  obtain ⟨N, hN⟩ : ∃ N, N = 2 * n := ⟨_, rfl⟩
  rw [← hN] at HO ⊢
  have HN : Hid (N = 2 * n) := hN
  clear hN
  go_loopg [3, 4] n (fun gk dv iv wr => ∃ k K2 : Nat, k + gk = n ∧ iv = .int .i64 k ∧ Hid (K2 = 2 * k) ∧ dv = .slice (some ⟨w.heap.size, 0, none⟩) K2 N ∧ Hid (wr.ownsRow w.heap.size 70 1 (.slice (some ⟨w.heap.size, 0, none⟩) K2 N) K2 (cellsV (dig32 (xs.take k)))) ∧ Below w.heap.size w wr)
  case atStart => exact ⟨0, 0, by omega, rfl, rfl, rfl, HO, hb1⟩
  case round =>
    obtain ⟨k, K2, hkg, rfl, HK2, rfl, HOW, hbx⟩ := hrel
    cases gk with
    | zero =>
      obtain rfl : k = n := by omega
      have hO := HOW.out
      rcases hO.2 with ⟨h', _⟩ | ⟨g', cap', cur, h', hbase, hgc, hcap', hmx, hsz, htake⟩
      · simp at h'
      simp only [Value.slice.injEq, Option.some.injEq, Addr.mk.injEq, and_true, true_and] at h'
      obtain ⟨rfl, rfl⟩ := h'
      have hK := HK2.out
      have hNN := HN.out
      have hdl : (dig32 xs).length = K2 := by rw [dig32_len, HL.out, hK]
      have etk : xs.take k = xs := List.take_of_length_le (by rw [HL.out]; omega)
      rw [etk] at htake
      have A32 : At32 wr (some ⟨w.heap.size, 0, none⟩) K2 N (dig32 xs) := by
        refine ⟨hdl, hcap', hmx, dig32_dig h.dig, .inr ⟨w.heap.size, 0, rfl, fun jj hj => ?_⟩⟩
        rw [Nat.zero_add, cell_of_row wr w.heap.size jj _ _ _ hgc]
        have e1 := cellsV_get (dig32 xs) jj (by omega)
        rw [← htake, Nat.mul_one, List.getElem?_take, if_pos hj] at e1
        rw [← Array.getElem?_toList]; exact e1
      have hle := trimL_length_le (dig32 xs)
      have HNF : Hid (Nf B32 (trimL (dig32 xs)) (valB B64 xs)) := by
        have := Nf.trim (dig32_dig h.dig)
        rw [dig32_val] at this; exact this
      have HLE : Hid ((trimL (dig32 xs)).length ≤ 2 * k) := by show _ ≤ _; omega
      clear hO hbase hgc hcap' hmx hsz htake hK hNN hle hdl
      go_wp2_with fail
      refine (rnorm_any A32 (by have := HK2.out; omega)).mono ?_
      rintro e w5 ⟨g5, rfl, hg5, hblk5, hb5⟩
      generalize trimL (dig32 xs) = zs at *
      go_wp2_with fail
      go_ret
      exact ⟨g5, zs, rfl, by have := hbx.size; omega, hblk5, HNF.out, HLE.out, Below.on hbx hb5⟩
    | succ gg =>
      obtain ⟨g, off, rfl, hc⟩ := h.cells.resolve_left (by omega)
      obtain ⟨x, hx⟩ : ∃ x, x = xs.getD k 0 := ⟨_, rfl⟩
      have hcx0 : w.cell? ⟨g, off + k, none⟩ = some (U x) := by rw [hx]; exact hc k (by omega)
      have hcx : wr.cell? ⟨g, off + k, none⟩ = some (U x) := (hbx.cell (p := ⟨g, off + k, none⟩) (World.block_lt_of_cell? w _ hcx0)).trans hcx0
      have hxb : x < B64 := by rw [hx]; exact h.dig.getD B64_pos k
      have HX : Hid (x = xs.getD k 0) := hx
      clear hc hx hcx0
      obtain ⟨lo, hlo⟩ : ∃ lo, lo = x % B32 := ⟨_, rfl⟩
      obtain ⟨hh, hhi⟩ : ∃ hh, hh = x / B32 := ⟨_, rfl⟩
      have hlob : lo < B32 := by rw [hlo]; exact Nat.mod_lt _ B32_pos
      have hhib : hh < B32 := by rw [hhi]; exact Nat.div_lt_of_lt_mul (by rw [B32_two]; exact hxb)
      have e1 : bits .and .u64 (x : Int) 4294967295 = (lo : Int) := by rw [hlo, B32_eq]; exact and32 x (by rw [← B64_eq]; exact hxb)
      have e2 : (x : Int) / 4294967296 = (hh : Int) := by rw [hhi, B32_eq]; exact div32 x
      have e3 : IntKind.u32.wrap (lo : Int) = (lo : Int) := wrap32 lo hlob
      have e4 : IntKind.u32.wrap (hh : Int) = (hh : Int) := wrap32 hh hhib
      have HLO : Hid (lo = x % B32) := hlo
      have HHI : Hid (hh = x / B32) := hhi
      have hsp : K2 + 2 ≤ N := by have := HK2.out; have := HN.out; omega
      have HOA : Hid ((wr.drew.alloc (.cells #[V lo, V hh] 70)).ownsRow w.heap.size 70 1 (.slice (some ⟨w.heap.size, 0, none⟩) K2 N) K2 (cellsV (dig32 (xs.take k)))) := by
        have h0 : wr.drew.ownsRow w.heap.size 70 1 (.slice (some ⟨w.heap.size, 0, none⟩) K2 N) K2 (cellsV (dig32 (xs.take k))) := HOW.out
        exact h0.alloc _
      clear hlo hhi
      go_wp2_with fail
      go_region_law (refine step_append_own rfl (.tmp 15) (.tmp 28) 46 rfl w.heap.size 70 i0 1 Tryz.underlying46 hi hz1 w.heap.size K2 N (cellsV (dig32 (xs.take k))) (by simp [Act.eval]) HOA.out ⟨wr.heap.size, 0, none⟩ 2 2 [V lo, V hh] (by simp [Act.eval]) rfl (two_cells wr.drew lo hh) (by intro u hu; simp at hu; rcases hu with rfl | rfl <;> rfl) hsp ?_; intro w3 hw3 hgr3)
      all_goals
        (have hbx3 : Below w.heap.size w w3 := ((bDrew hbx).alloc (by have := hbx.size; exact this) _).grown hgr3 (by have := hbx.size; simp; omega) (fun q hq => by simp at hq; omega)
         have HW3 : Hid (w3.ownsRow w.heap.size 70 1 (.slice (some ⟨w.heap.size, 0, none⟩) (K2 + 2) N) (K2 + 2) (cellsV (dig32 (xs.take (k + 1))))) := by
           have e0 : cellsV (dig32 (xs.take (k + 1))) = cellsV (dig32 (xs.take k)) ++ [V lo, V hh] := by
             rw [dig32_snoc xs k (by rw [HL.out]; omega), ← HX.out, ← HLO.out, ← HHI.out]; unfold cellsV; rw [List.map_append]; rfl
           rw [e0]; exact hw3
         clear hw3 hgr3
         go_wp2_with fail
         go_roundg gg
         case measure => omega
         case rel => exact ⟨k + 1, K2 + 2, by omega, by go_num, by have := HK2.out; show _ = _; omega, rfl, HW3, hbx3⟩)
end Go.Proofs.YtmekccpbcjpddaaGreatDoor
namespace Go.Proofs.YtmekccpbcjpddaaGreatDoor
open Go.RowKit Go.Shelf
set_option maxRecDepth 100000
set_option maxHeartbeats 0
theorem B64_sq (k : Nat) : B64 ^ k = B32 ^ (2 * k) := by rw [Nat.pow_mul, show B32 ^ 2 = B64 from rfl]
structure RToR (w : World) (g N m : Nat) (ds : List Nat) (k : Nat) (us : List Nat) (wr : World) : Prop where
  bel : Below g w wr
  own : wr.ownsRow g 28 1 (.slice (some ⟨g, 0, none⟩) k N) k (cellsU us)
  len : us.length = k
  dig : Dig B64 us
  top : m ≤ 2 * k → Top us
  val : valB B64 us = valB B32 (ds.take (2 * k))
theorem rto_val {us ds : List Nat} {k x y : Nat} (h : valB B64 us = valB B32 (ds.take (2 * k))) (hl : us.length = k) (ex : x = ds.getD (2 * k) 0) (ey : y = ds.getD (2 * k + 1) 0) : valB B64 (us ++ [x + B32 * y]) = valB B32 (ds.take (2 * (k + 1))) := by
  rw [valB_snoc, hl, h, B64_sq, show 2 * (k + 1) = 2 * k + 1 + 1 by omega, valB_take_any _ ds (2 * k + 1), valB_take_any _ ds (2 * k), ← ex, ← ey, Nat.pow_succ, Nat.mul_add, Nat.mul_assoc]
  omega
theorem top_snoc (us : List Nat) {x : Nat} (h : x ≠ 0) : Top (us ++ [x]) := by
  intro z hz; simp at hz; omega
theorem own_at {wr : World} {g i N : Nat} {ss : List Nat} (ho : wr.ownsRow g 28 1 (.slice (some ⟨g, 0, none⟩) i N) i (cellsU ss)) (hl : ss.length = i) (hd : Dig B64 ss) : At wr (some ⟨g, 0, none⟩) i N ss := by
  rcases ho.2 with ⟨h', _⟩ | ⟨g', cap', cur, h', hbase, hgc, hcap', hmx, hsz, htake⟩
  · simp at h'
  · simp only [Value.slice.injEq, Option.some.injEq, Addr.mk.injEq, and_true, true_and] at h'
    obtain ⟨rfl, rfl⟩ := h'
    refine ⟨hl, hcap', hmx, hd, .inr ⟨g, 0, rfl, fun jj hj => ?_⟩⟩
    rw [Nat.zero_add, cell_of_row wr g jj _ _ _ hgc]
    have e1 := cellsU_get ss jj (by rw [hl]; exact hj)
    rw [← htake, Nat.mul_one, List.getElem?_take, if_pos hj] at e1
    rw [← Array.getElem?_toList]; exact e1
theorem one_cellU (w : World) (x : Nat) : ∀ (j : Nat) (u : Value), [U x][j]? = some u → (w.alloc (.cells #[U x] 28)).cell? ((⟨w.heap.size, 0, none⟩ : Addr).add j) = some u := by
  intro j u h
  have hb : Blk (w.alloc (.cells #[U x] 28)) w.heap.size [x] := heap_alloc_new w _
  have hj : j < 1 := by
    have := (List.getElem?_eq_some_iff.1 h).1
    simpa using this
  have hadd : (⟨w.heap.size, 0, none⟩ : Addr).add j = ⟨w.heap.size, j, none⟩ := by unfold Addr.add; split <;> simp_all
  rw [hadd, hb.cell j (by simpa using hj)]
  obtain rfl : j = 0 := by omega
  simpa using h

theorem rto_any {p : Option Addr} {n c : Nat} {xs : List Nat} {w : World} (h : At32 w p n c xs) (hn : n ≤ 35184372088832) :
    Calls Tryz.prog 18 #[.slice p n c] w fun e w' => ∃ g k N us, e = .returned (.slice (some ⟨g, 0, none⟩) k N) ∧ w.heap.size ≤ g ∧ At w' (some ⟨g, 0, none⟩) k N us ∧ Nf B64 us (valB B32 xs) ∧ Below w.heap.size w w' := by
  obtain ⟨i0, hi, hz0, hz1, hz2⟩ := info_parts Tryz.infoU64
  have HDG : Hid (Dig B32 xs) := h.dig
  have hlx := h.len
  have hle := trimL_length_le xs
  have hm0 : (trimL xs).length ≤ 35184372088832 := by omega
  have HV : Hid (valB B32 (trimL xs) = valB B32 xs) := valB_trimL _ _
  have HTOP : Hid (Top (trimL xs)) := Top_trimL xs
  have HDT : Hid (Dig B32 (trimL xs)) := h.dig.trimL
  clear hlx hle
  go_enter Tryz.func18, Tryz.ntmps18
  go_wp2_with fail
  refine (rnorm_any h (by omega)).mono ?_
  rintro e w0 ⟨gd, rfl, hgd, hblk, hb0⟩
  have A0 := hblk.at_ HDT.out rfl (by unfold maxLen; omega)
  generalize trimL xs = ds at *
  obtain ⟨m, hm⟩ : ∃ m, m = ds.length := ⟨_, rfl⟩
  rw [← hm] at A0 hm0 ⊢
  have HM : Hid (m = ds.length) := hm
  clear hm hblk h
  have hNi : (m : Int).tdiv 2 = ((m / 2 : Nat) : Int) := by rw [Int.tdiv_eq_ediv_of_nonneg (by omega)]; omega
  go_wp2_with (at_make; refine wpList_make_own _ rfl _ _ 22 rfl w0.heap.size 28 i0 (.int .u64 0) 1 Tryz.underlying22 hi hz0 hz1 _ _ _ (m / 2 + 1) rfl rfl (by omega) (by rw [hz2]; omega) (by unfold maxLen; omega) (Nat.le_refl _) ?_; intro w1 hown hgrow)
  have hb1 : Below w0.heap.size w0 w1 := (Below.refl _ _).grown hgrow (Nat.le_refl _) (fun k hk => by simp at hk)
  have HO : Hid (RToR w0 w0.heap.size (m / 2 + 1) m ds 0 [] w1) := ⟨hb1, hown, rfl, Dig.nil _, fun _ => by intro x hx; simp at hx, by simp [valB]⟩
  clear hown hgrow hb1 hNi
  obtain ⟨N, hN⟩ : ∃ N, N = m / 2 + 1 := ⟨_, rfl⟩
  rw [← hN] at HO ⊢
  have HN : Hid (N = m / 2 + 1) := hN
  have hNb : N ≤ 17592186044417 := by omega
  clear hN
  go_loopg [4, 5] N (fun gk lv iv wr => ∃ (k i : Nat) (us : List Nat), k + gk = N ∧ Hid (i = 2 * k) ∧ iv = .int .i64 i ∧ lv = .slice (some ⟨w0.heap.size, 0, none⟩) k N ∧ Hid (RToR w0 w0.heap.size N m ds k us wr))
  case atStart => exact ⟨0, 0, [], by omega, rfl, rfl, rfl, HO⟩
  case round =>
    obtain ⟨k, i, us, hkg, HI, rfl, rfl, HR⟩ := hrel
    by_cases him : i < m
    · have hsp : k + 1 ≤ N := by have := HI.out; have := HN.out; omega
      obtain ⟨x, hx⟩ : ∃ x, x = ds.getD i 0 := ⟨_, rfl⟩
      obtain ⟨y, hy⟩ : ∃ y, y = ds.getD (i + 1) 0 := ⟨_, rfl⟩
      have hxb : x < B32 := by rw [hx]; exact HDT.out.getD B32_pos i
      have hyb : y < B32 := by rw [hy]; exact HDT.out.getD B32_pos (i + 1)
      rw [B32_eq] at hxb hyb
      have c0 : w0.cell? ⟨gd, i, none⟩ = some (V x) := by
        have := A0.cellAt i (by omega)
        rw [Nat.zero_add] at this
        rw [hx]; exact this
      have c1 : wr.cell? ⟨gd, i, none⟩ = some (V x) := (HR.out.bel.cell (p := ⟨gd, i, none⟩) (World.block_lt_of_cell? w0 _ c0)).trans c0
      have hxw : IntKind.u64.wrap (x : Int) = (x : Int) := wrap_mod _ _ (by omega)
      have hyw : IntKind.u64.wrap (y : Int) = (y : Int) := wrap_mod _ _ (by omega)
      obtain ⟨yh, eyh⟩ : ∃ yh, yh = 4294967296 * y := ⟨_, rfl⟩
      have f1 : IntKind.u64.wrap ((y : Int) * 4294967296) = (yh : Int) := wrap_mod _ _ (by omega)
      obtain ⟨ww, eww⟩ : ∃ ww, ww = x + yh := ⟨_, rfl⟩
      have f2 : IntKind.u64.wrap ((x : Int) + (yh : Int)) = (ww : Int) := wrap_mod _ _ (by omega)
      have hwb : ww < B64 := by rw [B64_eq]; omega
      have EW : Hid (ww = x + B32 * y) := by show _ = _; rw [B32_eq]; omega
      have HXE : Hid (x = ds.getD (2 * k) 0) := by rw [← HI.out]; exact hx
      have HYE : Hid (y = ds.getD (2 * k + 1) 0) := by rw [← HI.out]; exact hy
      have HTT : Hid (m ≤ 2 * (k + 1) → ww ≠ 0) := by
        intro hle
        have hi2 := HI.out
        by_cases h1 : i + 1 < m
        · have : y ≠ 0 := by
            refine HTOP.out y ?_
            rw [List.getLast?_eq_getElem?, ← HM.out, show m - 1 = i + 1 by omega, hy, List.getD_eq_getElem?_getD, List.getElem?_eq_getElem (by have := HM.out; omega)]; rfl
          omega
        · have : x ≠ 0 := by
            refine HTOP.out x ?_
            rw [List.getLast?_eq_getElem?, ← HM.out, show m - 1 = i by omega, hx, List.getD_eq_getElem?_getD, List.getElem?_eq_getElem (by have := HM.out; omega)]; rfl
          omega
      have HOA : Hid ((wr.alloc (.cells #[U ww] 28)).ownsRow w0.heap.size 28 1 (.slice (some ⟨w0.heap.size, 0, none⟩) k N) k (cellsU us)) := HR.out.own.alloc _
      by_cases h1 : i + 1 < m
      · have d0 : w0.cell? ⟨gd, i + 1, none⟩ = some (V y) := by
          have := A0.cellAt (i + 1) (by omega)
          rw [Nat.zero_add] at this
          rw [hy]; exact this
        have d1 : wr.cell? ⟨gd, i + 1, none⟩ = some (V y) := (HR.out.bel.cell (p := ⟨gd, i + 1, none⟩) (World.block_lt_of_cell? w0 _ d0)).trans d0
        clear hx hy c0 d0 eyh eww hxb hyb
        go_wp2_with (at_builtin; refine wpList_append_fits _ rfl (.tmp 39) (.tmp 41) 22 rfl w0.heap.size 28 i0 1 Tryz.underlying22 hi hz1 w0.heap.size k N (cellsU us) rfl HOA.out ⟨wr.heap.size, 0, none⟩ 1 1 [U ww] rfl rfl (one_cellU wr ww) (by intro u hu; simp at hu; subst hu; rfl) hsp ?_; intro w3 hw3 hgr3)
        have HR3 : Hid (RToR w0 w0.heap.size N m ds (k + 1) (us ++ [ww]) w3) := by
          have hR := HR.out
          refine ⟨(hR.bel.alloc hR.bel.size _).grown hgr3 (by have := hR.bel.size; simp; omega) (fun q hq => by simp at hq; omega), ?_, by simp [hR.len], hR.dig.append (dig1 hwb), fun hle => top_snoc us (HTT.out hle), ?_⟩
          · have e0 : cellsU (us ++ [ww]) = cellsU us ++ [U ww] := by unfold cellsU; rw [List.map_append]; rfl
            rw [e0]; exact hw3
          · rw [EW.out]; exact rto_val hR.val hR.len HXE.out HYE.out
        clear hw3 hgr3
        go_roundg (gk - 1)
        case measure => omega
        case rel => exact ⟨k + 1, i + 2, us ++ [ww], by omega, by have := HI.out; show _ = _; omega, by go_num, rfl, HR3⟩
      · have hy0 : y = 0 := by rw [hy, List.getD_eq_getElem?_getD, List.getElem?_eq_none (by have := HM.out; omega)]; rfl
        have eyx : ww = x := by omega
        subst eyx
        clear hx hy c0 eyh eww hxb hyb f1 f2 hyw
        go_wp2_with (at_builtin; refine wpList_append_fits _ rfl (.tmp 39) (.tmp 41) 22 rfl w0.heap.size 28 i0 1 Tryz.underlying22 hi hz1 w0.heap.size k N (cellsU us) rfl HOA.out ⟨wr.heap.size, 0, none⟩ 1 1 [U ww] rfl rfl (one_cellU wr ww) (by intro u hu; simp at hu; subst hu; rfl) hsp ?_; intro w3 hw3 hgr3)
        have HR3 : Hid (RToR w0 w0.heap.size N m ds (k + 1) (us ++ [ww]) w3) := by
          have hR := HR.out
          refine ⟨(hR.bel.alloc hR.bel.size _).grown hgr3 (by have := hR.bel.size; simp; omega) (fun q hq => by simp at hq; omega), ?_, by simp [hR.len], hR.dig.append (dig1 hwb), fun hle => top_snoc us (HTT.out hle), ?_⟩
          · have e0 : cellsU (us ++ [ww]) = cellsU us ++ [U ww] := by unfold cellsU; rw [List.map_append]; rfl
            rw [e0]; exact hw3
          · rw [EW.out]; exact rto_val hR.val hR.len HXE.out HYE.out
        clear hw3 hgr3
        go_roundg (gk - 1)
        case measure => omega
        case rel => exact ⟨k + 1, i + 2, us ++ [ww], by omega, by have := HI.out; show _ = _; omega, by go_num, rfl, HR3⟩
    · have hR := HR.out
      have hi2 := HI.out
      have AT := own_at hR.own hR.len hR.dig
      have HNF : Hid (Nf B64 us (valB B32 xs)) := by
        refine ⟨hR.dig, hR.top (by omega), ?_⟩
        have hv := hR.val
        rw [List.take_of_length_le (by have := HM.out; omega), HV.out] at hv; exact hv
      have hbx := Below.on hb0 hR.bel
      have hgz := hb0.size
      clear hR hi2
      go_wp2_with fail
      go_ret
      exact ⟨_, k, N, us, rfl, by omega, AT, HNF.out, hbx⟩
end Go.Proofs.YtmekccpbcjpddaaGreatDoor
namespace Go.Proofs.YtmekccpbcjpddaaGreatDoor
open Go.RowKit
set_option maxRecDepth 100000
set_option maxHeartbeats 0
theorem bits64 {y : Nat} (h : y < B64) : bitsN y ≤ 64 := by
  by_cases e : y = 0
  · subst e; simp [bitsN]
  · have h1 := bitsN_le y e
    have h2 : bitsN y - 1 < 64 := (Nat.pow_lt_pow_iff_right (by decide : 1 < 2)).1 (Nat.lt_of_le_of_lt h1 (by rw [B64_p] at h; exact h))
    omega
theorem split32 (v : Nat) : v / 4294967296 * 4294967296 + v % 4294967296 = v := by omega
theorem quo_unique {n q y r : Nat} (h : n = q * y + r) (hr : r < y) : q = n / y ∧ r = n % y := by
  have hy : 0 < y := by omega
  have h1 : n = r + y * q := by rw [h, Nat.mul_comm]; omega
  constructor
  · rw [h1, Nat.add_mul_div_left _ _ hy, Nat.div_eq_of_lt hr, Nat.zero_add]
  · rw [h1, Nat.add_mul_mod_self_left, Nat.mod_eq_of_lt hr]

theorem div64_big (hi lo y : Nat) (w : World) (hh : hi ≠ 0) (hhy : hi < y) (hyb : y < B64) (hlo : lo < B64) :
    Calls Tryz.prog 43 #[U hi, U lo, U y] w fun e w' => e = .returned (.tuple #[U ((hi * B64 + lo) / y), U ((hi * B64 + lo) % y)]) ∧ w' = w := by
  obtain ⟨s, hs⟩ : ∃ s, s + bitsN y = 64 := ⟨64 - bitsN y, by have := bits64 hyb; omega⟩
  have hy0 : y ≠ 0 := by omega
  have hs64 : s < 64 := by
    have : bitsN y ≠ 0 := by unfold bitsN; rw [if_neg hy0]; omega
    omega
  obtain ⟨nY, nY2⟩ := norm_y hy0 hs
  have hP := Nat.two_pow_pos s
  have hhs : hi * 2 ^ s < y * 2 ^ s := Nat.mul_lt_mul_of_pos_right hhy hP
  have hls := shrW_lt lo s (by omega) hlo
  have hlse := shrW_eq lo s (by omega)
  have hjoin : (hi * 2 ^ s + lo / 2 ^ (64 - s)) * B64 + shlW lo s = 2 ^ s * (hi * B64 + lo) := by
    have e1 := Nat.mod_add_div (lo * 2 ^ s) B64
    rw [hlse, Nat.add_mul, Nat.mul_add]
    unfold shlW
    have e2 : hi * 2 ^ s * B64 = 2 ^ s * (hi * B64) := by rw [Nat.mul_comm hi, Nat.mul_assoc]
    rw [e2, Nat.mul_comm (lo * 2 ^ s / B64), Nat.mul_comm (2 ^ s) lo]
    generalize B64 * (lo * 2 ^ s / B64) = X1 at *
    generalize lo * 2 ^ s % B64 = X2 at *
    generalize lo * 2 ^ s = X3 at *
    omega
  have huY : hi * 2 ^ s + lo / 2 ^ (64 - s) < y * 2 ^ s := by
    have e1 : (hi + 1) * 2 ^ s ≤ y * 2 ^ s := Nat.mul_le_mul_right _ hhy
    rw [Nat.add_mul, Nat.one_mul] at e1
    omega
  obtain ⟨Y, hY⟩ : ∃ Y, Y = y * 2 ^ s := ⟨_, rfl⟩
  obtain ⟨u, hu⟩ : ∃ u, u = hi * 2 ^ s + lo / 2 ^ (64 - s) := ⟨_, rfl⟩
  obtain ⟨v, hv⟩ : ∃ v, v = shlW lo s := ⟨_, rfl⟩
  have hvb : v < 18446744073709551616 := by rw [hv, ← B64_eq]; exact shlW_lt lo s
  rw [← hY] at nY nY2 huY
  rw [← hu] at huY hjoin
  rw [← hv] at hjoin
  have hsplitY := split32 Y
  have HC : KnC (Y / 4294967296) (Y % 4294967296) u (v / 4294967296) := ⟨by omega, by omega, by rw [hsplitY]; exact huY, by omega⟩
  have hin := Kn.init HC
  have hq := hin.le
  have hle := Nat.div_mul_le_self u (Y / 4294967296)
  have hml := Nat.mod_lt u (show 0 < Y / 4294967296 by omega)
  have hdm := Nat.div_add_mod u (Y / 4294967296)
  rw [Nat.mul_comm] at hdm
  have hub : u < 18446744073709551616 := by omega
  have eY : IntKind.u64.wrap ((y : Int) * 2 ^ s) = (Y : Int) := by
    rw [wrap_nat, hY]; unfold shlW; rw [Nat.mod_eq_of_lt (by rw [B64_eq, ← hY]; exact nY)]
  have ehs : IntKind.u64.wrap ((hi : Int) * 2 ^ s) = ((hi * 2 ^ s : Nat) : Int) := by
    rw [wrap_nat]; unfold shlW; rw [Nat.mod_eq_of_lt (by rw [B64_eq]; rw [← hY] at hhs; omega)]
  have eu : bits .or .u64 ((hi * 2 ^ s : Nat) : Int) ((lo / 2 ^ (64 - s) : Nat) : Int) = (u : Int) := by
    rw [walk_or _ _ (by rw [B64_eq]; rw [← hY] at hhs; omega) (by rw [B64_eq]; omega), Nat.mul_comm hi, or_low s _ _ hls, hu, Nat.mul_comm hi]
  refine (div64_walk hi lo y s Y (Y / 4294967296) (Y % 4294967296) (hi * 2 ^ s) (lo / 2 ^ (64 - s)) u v (v / 4294967296) (v % 4294967296) (u / (Y / 4294967296)) (u / (Y / 4294967296) * (Y / 4294967296)) (u - u / (Y / 4294967296) * (Y / 4294967296)) w
    (by simp; omega) (by simp; omega) hhy hyb hs hs64 eY (div32 Y) (and32 Y nY) ehs (div_nat lo (64 - s)) eu (by rw [wrap_nat, hv]) (div32 v) (and32 v hvb) (Int.natCast_ediv _ _).symm (Int.natCast_mul _ _).symm (by omega) hq (by omega) (by omega) (by omega) (by omega) (by omega) (by omega) (by omega)
    HC hin hsplitY.symm nY).mono ?_
  rintro e w' ⟨q1, q0, r1, r0, rfl, hw, k1, k0⟩
  refine ⟨?_, hw⟩
  have e1 := k1.eq
  have e0 := k0.eq
  have er := k0.rlt
  rw [hsplitY] at e1 e0 er
  have ej := kn_join e1 e0
  rw [split32 v, show (4294967296 : Nat) * 4294967296 = B64 from rfl, hjoin, hY] at ej
  rw [hY] at er
  obtain ⟨f1, f2⟩ := kn_scale hP ej er
  obtain ⟨g1, g2⟩ := quo_unique f1 f2
  have g3 : jq q1 q0 = (hi * B64 + lo) / y := g1
  rw [g3, g2]

theorem div64_any (hi lo y : Nat) (w : World) (hhy : hi < y) (hyb : y < B64) (hlo : lo < B64) :
    Calls Tryz.prog 43 #[U hi, U lo, U y] w fun e w' => e = .returned (.tuple #[U ((hi * B64 + lo) / y), U ((hi * B64 + lo) % y)]) ∧ ∃ r, w' = w.drewN r := by
  by_cases hh : hi = 0
  · subst hh
    rw [Nat.zero_mul, Nat.zero_add]
    exact div64_zero lo y w (by simp; omega) hlo
  · exact (div64_big hi lo y w hh hhy hyb hlo).mono fun e w' h => ⟨h.1, 0, h.2⟩
end Go.Proofs.YtmekccpbcjpddaaGreatDoor
