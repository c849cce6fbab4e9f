import Derived.Test.YtdkbfffpnpjpiaaKar
namespace Go.Proofs.Ytdkbfffpnpjpiaa
open Go.RowKit

/-- natmul.multiply at numbers whose shorter one has m limbs. -/
def MulAt (m : Nat) : Prop := ∀ (p q : Option Addr) (n cn l cl : Nat) (xs ys : List Nat) (w : World), At w p n cn xs → At w q l cl ys → 0 < n → 0 < l → n ≤ 8192 → l ≤ 8192 → (n = m ∧ m ≤ l ∨ l = m ∧ m ≤ n) →
  Calls Try.prog 37 #[.slice p n cn, .slice q l cl] w fun e w' => ∃ p' m' zs, e = .returned (.slice p' m' m') ∧ Own w.heap.size w' p' m' zs ∧ Nf B64 zs (valB B64 xs * valB B64 ys) ∧ Below w.heap.size w w'
/-- natmul.blocks at a shorter number of m limbs. -/
def BlkAt (m : Nat) : Prop := ∀ (gz oz cz n cn cm : Nat) (p q : Option Addr) (xs ys zs : List Nat) (w : World), Row w gz oz (n + m) zs → valB B64 zs = 0 → n + m ≤ cz → cz ≤ 1000000 → At w p n cn xs → At w q m cm ys → m ≤ n → n ≤ 8192 →
  (∀ g2 off2, p = some ⟨g2, off2, none⟩ → Dj g2 off2 n gz oz (n + m)) → (∀ g2 off2, q = some ⟨g2, off2, none⟩ → Dj g2 off2 m gz oz (n + m)) →
  Calls Try.prog 54 #[.slice (some ⟨gz, oz, none⟩) (n + m) cz, .slice p n cn, .slice q m cm] w fun e w' =>
    ∃ zs', e = .returned (.tuple #[]) ∧ Chg (Rg gz oz (n + m)) w w' ∧ Row w' gz oz (n + m) zs' ∧ valB B64 zs' = valB B64 xs * valB B64 ys

/-- What blocks has done at round i (o = i*m places). -/
structure BlkRel (w : World) (gz oz L gp gs m ns : Nat) (xs ys : List Nat) (o : Nat) (wr : World) : Prop where
  chg : Chg (fun b c => Rg gz oz L b c ∨ Rg gp 0 (2 * m) b c ∨ Rg gs 0 ns b c) w wr
  part : ∃ ps, Row wr gp 0 (2 * m) ps
  scr : ∃ ss, Row wr gs 0 ns ss
  z : ∃ dk, Row wr gz oz L dk ∧ valB B64 dk = valB B64 (xs.take o) * valB B64 ys

theorem blk_val {xs ys dk zz ps : List Nat} {o m L n : Nat} (hdk : dk.length = L) (ho : o ≤ L) (hx : xs.length = n) (hy : ys.length = m) (hL : L = n + m) (hdx : Dig B64 xs) (hdy : Dig B64 ys) (om : o + m ≤ n) (cy : Nat)
    (hv : valB B64 dk = valB B64 (xs.take o) * valB B64 ys) (hp : valB B64 ps = valB B64 ((xs.drop o).take m) * valB B64 ys) (hz : valB B64 zz + B64 ^ (L - o) * cy = valB B64 (dk.drop o) + valB B64 ps) :
    valB B64 (dk.take o ++ zz) = valB B64 (xs.take (o + m)) * valB B64 ys := by
  have e1 : valB B64 (xs.take (o + m)) = valB B64 (xs.take o) + B64 ^ o * valB B64 ((xs.drop o).take m) := by
    have := valB_split B64 (xs.take (o + m)) o (by simp; omega)
    rw [List.take_take, Nat.min_eq_left (by omega), List.drop_take, Nat.add_sub_cancel_left] at this
    exact this
  have e2 := valB_split B64 dk o (by omega)
  have b1 := valB_lt B64_pos (hdx.take (o + m))
  have b2 := valB_lt B64_pos hdy
  rw [List.length_take, hx, Nat.min_eq_left (by omega)] at b1
  rw [hy] at b2
  have b3 : valB B64 (xs.take (o + m)) * valB B64 ys < B64 ^ L := by
    have := Nat.mul_lt_mul'' b1 b2
    rw [← Nat.pow_add] at this
    exact Nat.lt_of_lt_of_le this (Nat.pow_le_pow_right B64_pos (by omega))
  have e3 : valB B64 (xs.take (o + m)) * valB B64 ys = valB B64 dk + B64 ^ o * valB B64 ps := by
    rw [e1, Nat.add_mul, hv, hp, Nat.mul_assoc]
  have eQ : B64 ^ L = B64 ^ o * B64 ^ (L - o) := by rw [← Nat.pow_add, show o + (L - o) = L by omega]
  have fit : valB B64 (dk.drop o) + valB B64 ps < B64 ^ (L - o) := by
    refine Nat.lt_of_mul_lt_mul_left (a := B64 ^ o) ?_
    rw [Nat.mul_add, ← eQ]
    rw [e3] at b3
    omega
  have ez := nc hz fit rfl
  rw [valB_append, List.length_take, hdk, Nat.min_eq_left ho, ez, e3, Nat.mul_add]
  omega

theorem blk_fin {xs ys dk zz ps : List Nat} {o m n cy : Nat} (hdk : dk.length = n + m) (ho : o ≤ n) (hx : xs.length = n) (hy : ys.length = m) (hdx : Dig B64 xs) (hdy : Dig B64 ys)
    (hv : valB B64 dk = valB B64 (xs.take o) * valB B64 ys) (hp : valB B64 ps = valB B64 ((xs.drop o).take (n - o)) * valB B64 ys) (hz : valB B64 zz + B64 ^ (n + m - o) * cy = valB B64 (dk.drop o) + valB B64 ps) :
    valB B64 (dk.take o ++ zz) = valB B64 xs * valB B64 ys := by
  have e1 : valB B64 xs = valB B64 (xs.take o) + B64 ^ o * valB B64 ((xs.drop o).take (n - o)) := by
    rw [List.take_of_length_le (i := n - o) (by rw [List.length_drop, hx]; exact Nat.le_refl _)]
    exact valB_split B64 xs o (by omega)
  have e2 := valB_split B64 dk o (by omega)
  have b1 := valB_lt B64_pos hdx
  have b2 := valB_lt B64_pos hdy
  rw [hx] at b1
  rw [hy] at b2
  have b3 : valB B64 xs * valB B64 ys < B64 ^ (n + m) := by
    have := Nat.mul_lt_mul'' b1 b2
    rw [← Nat.pow_add] at this; exact this
  have e3 : valB B64 xs * valB B64 ys = valB B64 dk + B64 ^ o * valB B64 ps := by
    rw [hv, hp]
    rw [← Nat.mul_assoc, ← Nat.add_mul, ← e1]
  have eQ : B64 ^ (n + m) = B64 ^ o * B64 ^ (n + m - o) := by rw [← Nat.pow_add, show o + (n + m - o) = n + m by omega]
  have fit : valB B64 (dk.drop o) + valB B64 ps < B64 ^ (n + m - o) := by
    refine Nat.lt_of_mul_lt_mul_left (a := B64 ^ o) ?_
    rw [Nat.mul_add, ← eQ]
    rw [e3] at b3
    omega
  have ez := nc hz fit rfl
  rw [valB_append, List.length_take, hdk, Nat.min_eq_left (by omega), ez, e3, Nat.mul_add]
  omega

theorem At.chg {w w' : World} {S : Nat → Nat → Prop} {p : Option Addr} {n c : Nat} {xs : List Nat} (h : At w p n c xs) (hc : Chg S w w') (hd : ∀ g off, p = some ⟨g, off, none⟩ → ∀ j, j < n → g < w.heap.size → ¬ S g (off + j)) : At w' p n c xs := by
  refine ⟨h.len, h.cap, h.big, h.dig, ?_⟩
  rcases h.cells with h0 | ⟨g, off, rfl, hcl⟩
  · exact .inl h0
  · exact .inr ⟨g, off, rfl, fun j hj => hc.cell (hd g off rfl j hj (World.block_lt_of_cell? w _ (hcl j hj))) (hcl j hj)⟩
theorem Below.rg {w w' : World} {g off n : Nat} {xs : List Nat} (h : Row w g off n xs) (hb : Below w.heap.size w w') (hn : 0 < n) : Row w' g off n xs := h.below hb (h.lt hn)

theorem Chg.trans_new {S T : Nat → Nat → Prop} {a b c : World} (h : Chg S a b) (k : Chg T b c) (hT : ∀ x o, x < a.heap.size → T x o → S x o) : Chg S a c := by
  refine ⟨k.os.trans h.os, k.tape.trans h.tape, k.output.trans h.output, Nat.le_trans h.size k.size, fun i cur t fr hi => ?_, fun i hi hn => ?_⟩
  · have hlt : i < a.heap.size := (Array.getElem?_eq_some_iff.1 hi).1
    obtain ⟨c1, g1, s1, e1⟩ := h.row i cur t fr hi
    obtain ⟨c2, g2, s2, e2⟩ := k.row i c1 t fr g1
    exact ⟨c2, g2, s2.trans s1, fun j hj => (e2 j (fun ht => hj (hT i j hlt ht))).trans (e1 j hj)⟩
  · have e1 := h.other i hi hn
    rw [← e1]
    exact k.other i (Nat.lt_of_lt_of_le hi h.size) (by rw [e1]; exact hn)
theorem mul_run (k m o : Nat) (h : k * m = o) (ho : o ≤ 1000000) (w : World) : (binOp .mul 3 (.int .i64 (k : Int)) (.int .i64 (m : Int))).run Try.prog w = .ok (.int .i64 (o : Int)) w := by
  have e : (k : Int) * (m : Int) = (o : Int) := by rw [← h]; exact (Int.natCast_mul _ _).symm
  simp [go_sem, e]
  simp [IntKind.wrap, IntKind.signed, IntKind.bits]
  omega
theorem slice_run (g off len c o : Nat) (ho : o ≤ len) (hc : o < c) (w : World) : (Instr.slice 23 (.slice (some ⟨g, off, none⟩) len c) (some (.int .i64 (o : Int))) none none).run Try.prog w = .ok (.slice (some ⟨g, off + o, none⟩) (len - o) (c - o)) w := by
  have h := run_slice_l (P := Try.prog) w 23 (some ⟨g, off, none⟩) len c (by kernel_rfl) .i64 (o : Int) (by omega) (by omega)
  rw [h]
  have hne : ¬ c = o := by omega
  simp [go_sem, hne, Addr.add]
theorem wrap_small (o : Nat) (h : o ≤ 1000000) : IntKind.i64.wrap (o : Int) = (o : Int) := by
  simp [IntKind.wrap, IntKind.signed, IntKind.bits]
  omega
theorem Own.at2 {B : Nat} {w : World} {p : Option Addr} {m : Nat} {zs : List Nat} (h : Own B w p m zs) (hm : m ≤ 9223372036854775807) : At w p m m zs := by
  refine ⟨h.len, Nat.le_refl _, by unfold maxLen; omega, h.dig, ?_⟩
  rcases h.mem with h0 | ⟨g, rfl, _, hr⟩
  · exact .inl h0
  · exact .inr ⟨g, 0, rfl, hr.cell⟩
theorem Own.dj {B : Nat} {w : World} {p : Option Addr} {m : Nat} {zs : List Nat} (h : Own B w p m zs) {g off n : Nat} (hg : g < B) : ∀ g2 off2, 0 < m → p = some ⟨g2, off2, none⟩ → g2 ≠ g ∨ off2 + m ≤ off ∨ off + n ≤ off2 := by
  intro g2 off2 h0 hp
  obtain ⟨g3, h1, h2, _⟩ := h.mem.resolve_left (by omega)
  rw [hp] at h1
  simp only [Option.some.injEq, Addr.mk.injEq, and_true] at h1
  omega

set_option maxRecDepth 20000 in
set_option maxHeartbeats 4000000 in
theorem blk_step (m : Nat) (h48 : 48 ≤ m) (ih : ∀ r, r < m → 0 < r → MulAt r) : BlkAt m := by
  intro gz oz cz n cn cm p q xs ys zs w hZ hz0 hcz bcz hA hB hmn hn8 dax dbx
  obtain ⟨ga, oa, rfl, hca⟩ := hA.cells.resolve_left (by omega)
  obtain ⟨gb, ob, rfl, hcb⟩ := hB.cells.resolve_left (by omega)
  have dA := dax ga oa rfl
  have dB := dbx gb ob rfl
  have ltz := hZ.lt (by omega)
  have lta : ga < w.heap.size := World.block_lt_of_cell? w _ (hca 0 (by omega))
  have ltb : gb < w.heap.size := World.block_lt_of_cell? w _ (hcb 0 (by omega))
  have al := hA.len; have bl := hB.len; have acap := hA.cap; have bcap := hB.cap; have abig := hA.big; have bbig := hB.big
  unfold maxLen at abig bbig
  have hscr := scr_le (m + 1) m (by omega)
  have hscp : 0 < scr m := by rw [scr_ge (by omega)]; omega
  obtain ⟨ns, hns⟩ : ∃ ns, ns = scr m := ⟨_, rfl⟩
  rw [← hns] at hscr hscp
  obtain ⟨cnt, hcnt⟩ : ∃ cnt, cnt = n / m := ⟨_, rfl⟩
  have ecnt : (n : Int) / (m : Int) = (cnt : Int) := by rw [hcnt]; exact (Int.natCast_ediv _ _).symm
  have hcm := Nat.div_mul_le_self n m
  have hdm := Nat.div_add_mod n m
  have hml := Nat.mod_lt n (show 0 < m by omega)
  rw [Nat.mul_comm] at hdm
  rw [← hcnt] at hcm hdm
  have hcb8 : cnt ≤ 8192 := by rw [hcnt]; exact Nat.le_trans (Nat.div_le_self _ _) hn8
  have HIH : Hid (∀ r, r < m → 0 < r → MulAt r) := ih
  have HNS : Hid (ns = scr m) := hns
  have HCM : Hid (cnt * m ≤ n) := hcm
  have HDM : Hid (cnt * m + n % m = n) := hdm
  have HDA : Hid (Dj ga oa n gz oz (n + m)) := dA
  have HDB : Hid (Dj gb ob m gz oz (n + m)) := dB
  have HZ0 : Hid (valB B64 zs = 0) := hz0
  clear ih hns hcm hdm hcnt dax dbx dA dB hz0
  obtain ⟨i0, hi, hzz0, hzz1, hzz2⟩ := info_parts Try.infoU64
  go_enter Try.func54, Try.ntmps54
  go_wp2_with (at_make; refine wpList_make_full _ rfl _ _ 23 rfl w.heap.size 27 i0 (.int .u64 0) 1 Try.underlying23 hi hzz0 hzz1 _ _ _ _ (2 * m) rfl rfl (by omega) (by omega) (by rw [hzz2]; omega) (by unfold maxLen; omega) (Nat.le_refl _) ?_; intro w1 hown hgrow; have hmk := made_blk hown hgrow; clear hown hgrow)
  obtain ⟨hblk1, hb1⟩ := hmk
  refine (scr_any m _ (by omega)).mono ?_
  rintro e w1' ⟨rfl, hw⟩
  obtain rfl := hw.symm
  rw [← HNS.out]
  clear hw
  go_wp2_with (at_make; refine wpList_make_full _ rfl _ _ 23 rfl w1.heap.size 27 i0 (.int .u64 0) 1 Try.underlying23 hi hzz0 hzz1 _ _ _ _ ns rfl rfl (by omega) (by omega) (by rw [hzz2]; omega) (by unfold maxLen; omega) (Nat.le_refl _) ?_; intro w2 hown hgrow; have hmk := made_blk hown hgrow; clear hown hgrow)
  obtain ⟨hblk2, hb2⟩ := hmk
  have hlt1 := hblk1.lt
  have hr1 := (hblk1.row (Dig.replicate _ _ B64_pos)).below hb2 hlt1
  have hr2 := hblk2.row (Dig.replicate _ _ B64_pos)
  rw [List.length_replicate] at hr1 hr2
  have hb12 : Below w.heap.size w w2 := hb1.trans (hb2.mono hb1.size)
  have Z2 := hZ.below hb12 ltz
  have A2 := hA.below hb12; have B2 := hB.below hb12
  have hgp : w.heap.size < w1.heap.size := hlt1
  obtain ⟨gp, hgpe⟩ : ∃ gp, gp = w.heap.size := ⟨_, rfl⟩
  obtain ⟨gs, hgse⟩ : ∃ gs, gs = w1.heap.size := ⟨_, rfl⟩
  rw [← hgpe] at hr1 ⊢
  rw [← hgse] at hr2 ⊢
  have hap : ga < gp ∧ gb < gp ∧ gz < gp ∧ gp < gs := by omega
  have HC2 : Hid (Chg (Rg gz oz (n + m)) w w2) := Below.chg hb12 _
  have hs2 := hb2.size; have hs1 := hb1.size
  have hgpw : w.heap.size ≤ gp := by omega
  have hsz : gs < w2.heap.size := hr2.lt hscp
  clear hblk1 hblk2 hb1 hb2 hlt1 hgp hb12 hgpe hgse
  go_wp2_with fail
  go_loopw [10, 11, 26] (fun _ _ i wr => ∃ k : Nat, k ≤ cnt ∧ i = .int .i64 k ∧ BlkRel w2 gz oz (n + m) gp gs m ns xs ys (k * m) wr) (fun _ _ i _ => cnt - (intOf i).toNat)
  case atStart => exact ⟨0, Nat.zero_le _, rfl, Chg.refl _ _, ⟨_, hr1⟩, ⟨_, hr2⟩, zs, Z2, by rw [HZ0.out]; simp [valB]⟩
  case round =>
    obtain ⟨k, hk, rfl, hR⟩ := hrel
    by_cases hlt : k < cnt
    · obtain ⟨o, ho⟩ : ∃ o, o = k * m := ⟨_, rfl⟩
      have hom : o + m ≤ n := by
        have h1 : (k + 1) * m ≤ cnt * m := Nat.mul_le_mul_right m hlt
        have h2 := HCM.out
        rw [Nat.add_mul, Nat.one_mul] at h1
        omega
      have e1 : (k : Int) * (m : Int) = (o : Int) := by rw [ho]; exact (Int.natCast_mul _ _).symm
      have e2 : ((k : Int) + 1) * (m : Int) = ((o + m : Nat) : Int) := by rw [Int.add_mul, e1]; omega
      rw [← ho] at hR
      obtain ⟨ps, P3⟩ := hR.part
      obtain ⟨ss, S3⟩ := hR.scr
      obtain ⟨dk, Z3, vZ⟩ := hR.z
      have C3 := hR.chg
      have A3 := A2.chg C3 (fun g off hp j hj hg => by
        simp only [Option.some.injEq, Addr.mk.injEq, and_true] at hp
        obtain ⟨rfl, rfl⟩ := hp
        have := HDA.out; unfold Dj at this; unfold Rg; omega)
      have B3 := B2.chg C3 (fun g off hp j hj hg => by
        simp only [Option.some.injEq, Addr.mk.injEq, and_true] at hp
        obtain ⟨rfl, rfl⟩ := hp
        have := HDB.out; unfold Dj at this; unfold Rg; omega)
      have RA : Rd wr ga oa n xs := by
        obtain ⟨g3, o3, hp3, hc3⟩ := A3.cells.resolve_left (by omega)
        simp only [Option.some.injEq, Addr.mk.injEq, and_true] at hp3
        obtain ⟨rfl, rfl⟩ := hp3
        exact ⟨al, A3.dig, hc3⟩
      have RB : Rd wr gb ob m ys := by
        obtain ⟨g3, o3, hp3, hc3⟩ := B3.cells.resolve_left (by omega)
        simp only [Option.some.injEq, Addr.mk.injEq, and_true] at hp3
        obtain ⟨rfl, rfl⟩ := hp3
        exact ⟨bl, B3.dig, hc3⟩
      have RK := RA.sub o m (by omega)
      have HVZ : Hid (valB B64 dk = valB B64 (xs.take o) * valB B64 ys) := vZ
      have HO : Hid (o = k * m) := ho
      clear hR vZ ho A3 B3
      go_wp2_with fail
      refine (kar_any (m + 1) m (by omega) (by omega) (by omega) gp 0 (2 * m) (2 * m) ga (oa + o) m gb ob cm gs 0 ns ns _ _ _ _ _ rfl P3 RK RB S3 (by rw [HNS.out]; exact Nat.le_refl _) (Nat.le_refl _) (Nat.le_refl _) bcap (Nat.le_refl _) (by omega) (by omega) (by omega) (by omega) (by unfold Dj; omega) (by unfold Dj; omega) (by unfold Dj; omega) (by unfold Dj; omega) (by unfold Dj; omega)).mono ?_
      rintro e w4 ⟨zp, s4, rfl, C4, P4, S4, vP⟩
      have Z4 := Z3.chg C4 (fun j hj => by unfold Rg; omega)
      have ZO := Z4.sub o (n + m - o) (by omega)
      have tz : (dk.drop o).take (n + m - o) = dk.drop o := List.take_of_length_le (by rw [List.length_drop, Z4.len]; exact Nat.le_refl _)
      rw [tz] at ZO
      have HVP : Hid (valB B64 zp = valB B64 ((xs.drop o).take m) * valB B64 ys) := vP
      clear vP tz P3 S3 Z3 RA RB RK
      go_wp2_with fail
      refine (ladd_any gz (oz + o) (n + m - o) (cz - o) _ (some ⟨gp, 0, none⟩) (2 * m) (2 * m) _ _ ZO (by omega) (by omega) (P4.at_ (Nat.le_refl _) (by unfold maxLen; omega)) (by omega) (fun g2 off2 _ hp => by
        simp only [Option.some.injEq, Addr.mk.injEq, and_true] at hp
        omega)).mono ?_
      rintro e w5 ⟨cy, zz, rfl, hcy, W5, ZZ5, e5⟩
      have HE5 : Hid (valB B64 zz + B64 ^ (n + m - o) * cy = valB B64 (dk.drop o) + valB B64 zp) := e5
      clear e5
      go_wp2_with fail
      go_roundw
      case rel =>
        have ho := HO.out
        have C5 := W5.chg
        refine ⟨k + 1, by omega, by go_num, ?_⟩
        rw [Nat.add_mul, Nat.one_mul, ← ho]
        refine ⟨(C3.trans (C4.mono (fun b c h => by unfold Rg at *; omega))).trans (C5.mono (fun b c h => by unfold Rg at *; omega)), ⟨_, P4.chg C5 (fun j hj => by unfold Rg; omega)⟩, ⟨_, S4.chg C5 (fun j hj => by unfold Rg; omega)⟩, dk.take o ++ zz, ?_, ?_⟩
        · have lo := (Z4.take o (by omega)).chg C5 (fun j hj => by unfold Rg; omega)
          have all := lo.join ZZ5
          rw [show o + (n + m - o) = n + m by omega] at all
          exact all
        · exact blk_val Z4.len (by omega) al bl rfl hA.dig hB.dig hom cy HVZ.out HVP.out HE5.out
      case measure => simp [intOf]; omega
    · obtain rfl : k = cnt := by omega
      obtain ⟨o, ho⟩ : ∃ o, o = k * m := ⟨_, rfl⟩
      have hon : o ≤ n := by rw [ho]; exact HCM.out
      have e1 : (k : Int) * (m : Int) = (o : Int) := by rw [ho]; exact (Int.natCast_mul _ _).symm
      have hrm : n - o < m := by have := HDM.out; rw [← ho] at this; omega
      rw [← ho] at hR
      have C3 := hR.chg
      obtain ⟨dk, Z3, vZ⟩ := hR.z
      have HC3 : Hid (Chg (Rg gz oz (n + m)) w wr) := HC2.out.trans_new C3 (fun x c hx h => by unfold Rg at *; omega)
      have A3 := A2.chg C3 (fun g off hp j hj hg => by
        simp only [Option.some.injEq, Addr.mk.injEq, and_true] at hp
        obtain ⟨rfl, rfl⟩ := hp
        have := HDA.out; unfold Dj at this; unfold Rg; omega)
      have B3 := B2.chg C3 (fun g off hp j hj hg => by
        simp only [Option.some.injEq, Addr.mk.injEq, and_true] at hp
        obtain ⟨rfl, rfl⟩ := hp
        have := HDB.out; unfold Dj at this; unfold Rg; omega)
      have hszr := C3.size
      have HVZ : Hid (valB B64 dk = valB B64 (xs.take o) * valB B64 ys) := vZ
      have HO2 : Hid (k * m = o) := ho.symm
      clear hR vZ ho HCM HDM
      by_cases hr0 : n ≤ o
      · go_wp2_with fail
        all_goals go_end0
        all_goals have hv2 : valB B64 dk = valB B64 xs * valB B64 ys := by rw [HVZ.out, List.take_of_length_le (by omega)]
        all_goals first | exact ⟨dk, rfl, HC3.out, Z3, hv2⟩ | exact ⟨rfl, HC3.out, dk, Z3, hv2⟩
      · have RA : Rd wr ga oa n xs := by
          obtain ⟨g3, o3, hp3, hc3⟩ := A3.cells.resolve_left (by omega)
          simp only [Option.some.injEq, Addr.mk.injEq, and_true] at hp3
          obtain ⟨rfl, rfl⟩ := hp3
          exact ⟨al, A3.dig, hc3⟩
        have RK := (RA.sub o (n - o) (by omega)).at_ (c := cn - o) (by omega) (by unfold maxLen; omega)
        have tk : (xs.drop o).take (n - o) = xs.drop o := List.take_of_length_le (by rw [List.length_drop, al]; exact Nat.le_refl _)
        rw [tk] at RK
        have RK2 : At wr.drew (some ⟨ga, oa + o, none⟩) (n - o) (cn - o) (xs.drop o) := ⟨RK.len, RK.cap, RK.big, RK.dig, RK.cells⟩
        have B32 : At wr.drew (some ⟨gb, ob, none⟩) m cm ys := ⟨B3.len, B3.cap, B3.big, B3.dig, B3.cells⟩
        have ZO := (Z3.sub o (n + m - o) (by omega)).drew
        have tz : (dk.drop o).take (n + m - o) = dk.drop o := List.take_of_length_le (by rw [List.length_drop, Z3.len]; exact Nat.le_refl _)
        rw [tz] at ZO
        have ZT := (Z3.take o (by omega)).drew
        have hzlt : gz < wr.heap.size := Z3.lt (by omega)
        have lenM : ∀ zs' : List Nat, Nf B64 zs' (valB B64 (xs.drop o) * valB B64 ys) → zs'.length ≤ n + m - o := by
          intro zs' hN
          refine (hN.len_le B64_one).2 ?_
          have b1 := valB_lt B64_pos (hA.dig.drop o); have b2 := valB_lt B64_pos hB.dig
          rw [List.length_drop, al] at b1; rw [bl] at b2
          have := Nat.mul_lt_mul'' b1 b2
          rw [← Nat.pow_add, show n - o + m = n + m - o by omega] at this; exact this
        have HLM : Hid (∀ zs' : List Nat, Nf B64 zs' (valB B64 (xs.drop o) * valB B64 ys) → zs'.length ≤ n + m - o) := lenM
        have HZL : Hid (dk.length = n + m) := Z3.len
        clear tk tz RA RK A3 B3 lenM C3 Z3
        have h1 : ¬ o = cz := by omega
        have h2 : ¬ cz = o := by omega
        have h3 : (o : Int) ≤ (n : Int) + (m : Int) := by omega
        have h3n : o ≤ n + m := by omega
        go_wp2_with fail
        have hkm0 : 0 ≤ (k : Int) * (m : Int) := by rw [e1]; omega
        have hkm1 : (k : Int) * (m : Int) ≤ 1000000 := by rw [e1]; omega
        have hwo : IntKind.i64.wrap (o : Int) = (o : Int) := wrap_small o (by omega)
        clear h1 hkm0 hkm1
        go_region_with (first | (go_at_call 37; refine (HIH.out (n - o) hrm (by omega) (some ⟨ga, oa + o, none⟩) (some ⟨gb, ob, none⟩) (n - o) (cn - o) m cm _ _ _ RK2 B32 (by omega) (by omega) (by omega) (by omega) (.inl ⟨rfl, by omega⟩)).mono ?_; rintro e w6 ⟨p', m', zs6, rfl, ho6, n6, hb6⟩; have hm6 : m' ≤ n + m - o := (by rw [← ho6.len]; exact HLM.out zs6 n6); have ZO6 := ZO.below hb6 hzlt; have ZT6 := ZT.below hb6 hzlt) | (go_at_call 55; refine (ladd_any gz (oz + o) (n + m - o) (cz - o) _ p' m' m' _ _ ZO6 (by omega) (by omega) (ho6.at2 (by omega)) hm6 (ho6.dj hzlt)).mono ?_; rintro e w7 ⟨cy, zz, rfl, hcy, W7, ZZ7, e7⟩))
        all_goals
          go_wp2_with fail
          go_end0
          have C7 := W7.chg
          have lo := ZT6.chg C7 (fun j hj => by unfold Rg; omega)
          have all := lo.join ZZ7
          rw [show o + (n + m - o) = n + m by omega] at all
          refine ⟨dk.take o ++ zz, rfl, (HC3.out.drew.trans_new (Below.chg hb6 (Rg gz oz (n + m))) (fun x c _ h => h)).trans (C7.mono (fun b c h => by unfold Rg at *; omega)), all, ?_⟩
          have vps : valB B64 zs6 = valB B64 ((xs.drop o).take (n - o)) * valB B64 ys := by
            rw [n6.val, List.take_of_length_le (by rw [List.length_drop, al]; exact Nat.le_refl _)]
          exact blk_fin HZL.out hon al bl hA.dig hB.dig HVZ.out vps e7
end Go.Proofs.Ytdkbfffpnpjpiaa
