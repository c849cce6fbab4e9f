import Derived.Test.YtfmbifocgljieaaGreatDoorJ15
import Derived.Test.YtfmbifocgljieaaGreatDoorJ14
import Derived.Test.YtfmbifocgljieaaGreatDoorJ13
import Derived.Test.YtfmbifocgljieaaGreatDoorJ12
import Derived.Test.YtfmbifocgljieaaGreatDoorJ11
import Derived.Test.YtfmbifocgljieaaGreatDoorJ9
import Derived.Test.YtfmbifocgljieaaGreatDoorJ8
import Derived.Laws.EntriesVeiled
namespace Go.Proofs.YtfmbifocgljieaaGreatDoor
open Go.RowKit Go.Shelf
set_option maxRecDepth 20000
set_option maxHeartbeats 0
theorem cell_p1 {f p m l : Int} {S I H sd : Nat} {Be : Int} (J : Jn f p m l S I H sd Be) (b : Nat) (hb : b < 2 * S) (h0 : b % S ≠ 0) (h1 : b % S < I) (hs : ¬ S ≤ b) (hc : clsN H I (b % S) = 1) (w : World) (hT : Tab w) :
    Calls Tryz.prog 9 #[.int .i64 f, U b] w fun en w' => ∃ s1 p1 m1 z1 e1 s2 p2 m2 z2 e2, en = .returned (.tuple #[SV s1 p1 m1 m1 e1 s2 p2 m2 m2 e2, .bool (decide (b % 2 = 0)), .int .i64 0]) ∧ DO w.heap.size w' s1 p1 m1 e1 z1 ∧ DO w.heap.size w' s2 p2 m2 e2 z2 ∧ dv z1 e1 = cLo H l (decide (S ≤ b)) (b % S) ∧ dv z2 e2 = cHi H l (decide (S ≤ b)) (b % S) ∧ Below w.heap.size w w' := by
  have HJN : Hid (Jn f p m l S I H sd Be) := J
  have TB : Hid (Tab w) := hT
  have hlt := J.jm.pm.fm.lt
  have hb0 : b ≠ 0 := fun h => h0 (by rw [h]; exact Nat.zero_mod _)
  have hle := J.jm.pm.fm.le
  have hp := J.jm.pm.hp
  have h9 := J.jm.pm.h9
  have hlo := J.jm.pm.lo
  have hst := J.jm.pm.st _ h1
  have hst2 := J.jm.pm.st _ (show b % S - 1 < I by omega)
  obtain ⟨z, hz⟩ : ∃ z, z = b % S := ⟨_, rfl⟩
  have hb1 : (b - 1) % S = z - 1 := by
    have e1 := Nat.div_add_mod b S
    have : b - 1 = z - 1 + S * (b / S) := by omega
    rw [this, Nat.add_mul_mod_self_left, Nat.mod_eq_of_lt (by omega)]
  have hsg : decide (S ≤ b - 1) = decide (S ≤ b) := by
    refine decide_eq_decide.2 ⟨fun h => by omega, fun h => ?_⟩
    have : b ≠ S := fun h2 => by rw [h2, Nat.mod_self] at h0; exact h0 rfl
    omega
  rw [← hz] at h0 h1 hst hst2
  have hmod : ∀ y : Nat, y < I → 2 * (y - (y / H - 1) * H) + 1 < 18446744073709551616 := fun y hy => by
    have e1 := Nat.div_add_mod y H
    have e2 := Nat.mod_lt y hp
    rw [Nat.mul_comm] at e1
    by_cases e3 : y / H = 0
    · rw [e3] at e1 ⊢; omega
    · rw [Nat.sub_mul]; omega
  obtain ⟨sb, hsb⟩ : ∃ sb, sb = decide (S ≤ b) := ⟨_, rfl⟩
  obtain ⟨n1, hn1⟩ : ∃ n1, n1 = 2 * ((z - 1) - ((z - 1) / H - 1) * H) + 1 := ⟨_, rfl⟩
  obtain ⟨n2, hn2⟩ : ∃ n2, n2 = 2 * (z - (z / H - 1) * H) + 1 := ⟨_, rfl⟩
  obtain ⟨e1, he1⟩ : ∃ e1 : Int, e1 = l + (((z - 1) / H - 1 : Nat) : Int) - 1 := ⟨_, rfl⟩
  obtain ⟨e2, he2⟩ : ∃ e2 : Int, e2 = l + ((z / H - 1 : Nat) : Int) - 1 := ⟨_, rfl⟩
  have hod : ∀ (s : Bool) (y : Nat), iv s (2 * y + 1) % 2 = 1 := fun s y => by cases s <;> simp [iv] <;> omega
  have HF : Hid (DFm (iv sb n1) e1 ∧ DFm (iv sb n2) e2) := ⟨.inr ⟨by rw [hn1]; exact hod _ _, by omega, by omega⟩, .inr ⟨by rw [hn2]; exact hod _ _, by omega, by omega⟩⟩
  have HD : Hid (dv (n1 : Int) e1 = dv (hv H (z - 1) : Int) (l - 1) ∧ dv (n2 : Int) e2 = dv (hv H z : Int) (l - 1)) := ⟨by rw [hn1, he1]; exact mid_dv _ (by omega), by rw [hn2, he2]; exact mid_dv _ (by omega)⟩
  have HN : Hid (0 < n1 ∧ 0 < n2) := by rw [hn1, hn2]; exact ⟨by omega, by omega⟩
  have HB : Hid (b < 2 * S ∧ b - 1 < 2 * S ∧ b % S < I ∧ (b - 1) % S < I ∧ decide (S ≤ b - 1) = sb ∧ decide (S ≤ b) = sb) := ⟨hb, by omega, by omega, by omega, by rw [hsg, hsb], hsb.symm⟩
  have HM1 : Hid (n1 = 2 * ((b - 1) % S - ((b - 1) % S / H - 1) * H) + 1 ∧ e1 = l + (((b - 1) % S / H - 1 : Nat) : Int) - 1) := by rw [hb1]; exact ⟨hn1, he1⟩
  have HM2 : Hid (n2 = 2 * (b % S - (b % S / H - 1) * H) + 1 ∧ e2 = l + ((b % S / H - 1 : Nat) : Int) - 1) := by rw [← hz]; exact ⟨hn2, he2⟩
  have HC : Hid (clsN H I (b % S) = 1) := hc
  obtain ⟨b1, hb1'⟩ : ∃ b1, b1 = b - 1 := ⟨_, rfl⟩
  have k1 : IntKind.u64.wrap ((b : Int) - 1) = (b1 : Int) := by rw [IntKind.wrap_u64]; omega
  obtain ⟨pr, hpr⟩ : ∃ pr, pr = decide (b % 2 = 0) := ⟨_, rfl⟩
  have k2 : (((b : Int).tmod 2) == 0) = pr := by rw [Int.tmod_eq_emod_of_nonneg (by omega), hpr]; by_cases a : b % 2 = 0 <;> simp [a] <;> omega
  have k3 : (((b : Int) % 2) == 0) = pr := by rw [hpr]; by_cases a : b % 2 = 0 <;> simp [a] <;> omega
  rw [← hb1'] at HB HM1
  rw [← hpr, ← hsb]
  have hsv : sb = false := by rw [hsb]; exact decide_eq_false hs
  subst hsv
  rw [← hz]
  clear hs J hT hlt hle hp h9 hlo hst hst2 hb1 hsg hmod hn1 hn2 he1 he2 hod hc hsb hpr hb h0 h1 hb0 hb1'
  go_enter Tryz.func9, Tryz.ntmps9
  go_wp2_with fail
  obtain ⟨W0, hW0⟩ : ∃ W0, W0 = (w.alloc (.cells #[.bool false, .slice none 0 0, .int .i64 0, .bool false, .slice none 0 0, .int .i64 0] 35)) := ⟨_, rfl⟩
  have Xr : Hid (B6q W0 (w.heap.size) (.bool false) (.slice none 0 0) (.int .i64 0) (.bool false) (.slice none 0 0) (.int .i64 0)) := by rw [hW0]; exact ⟨by go_simp, by go_simp, by go_simp, by go_simp, by go_simp, by go_simp, by go_simp, by go_simp, by go_simp, by go_simp, by go_simp, by go_simp⟩
  have hb0 : Below w.heap.size w W0 := by rw [hW0]; exact below1 w _
  rw [← hW0]
  clear hW0
  have hbw : Below w.heap.size w w := Below.refl _ _
  obtain ⟨gr, hgr⟩ : ∃ g, g = w.heap.size := ⟨_, rfl⟩
  have HGr : Hid (w.heap.size ≤ gr) := by rw [hgr]; show _ ≤ _; omega
  rw [← hgr] at Xr
  try rw [← hgr]
  clear hgr
  replace hbw := Below.on hbw hb0
  clear hb0
  refine (HJN.out.cl b _ HB.out.1).mono ?_
  rintro e v1 ⟨rfl, hb1⟩
  rw [HC.out]
  replace Xr : Hid _ := Xr.out.below hb1
  replace hbw := Below.on hbw hb1
  clear hb1
  go_wp2_with fail
  have hmk := mid_ok HJN.out.jm.pm b1 n1 e1 HB.out.2.1 HB.out.2.2.2.1 HM1.out.1 HM1.out.2 _ (TB.out.below hbw)
  rw [HB.out.2.2.2.2.1] at hmk
  have HWB2 : Hid (w.heap.size ≤ v1.heap.size) := hbw.size
  have HL2 : Hid (gr < v1.heap.size) := Xr.out.lt
  refine (hmk).mono ?_
  rintro e2 v2 ⟨hv, hb2⟩
  obtain ⟨v, rfl, hv2⟩ := hv.form (HF.out.1) (rfl)
  clear hv
  obtain ⟨p2, m2, z2s, rfl, ho2, hn2, hm2⟩ := hv2
  replace Xr : Hid _ := Xr.out.below hb2
  replace hbw := Below.on hbw hb2
  clear hb2
  have O2 : Hid (Own v1.heap.size v2 p2 m2 z2s) := ho2
  have N2 : Hid (Nf B64 z2s (iv false n1).natAbs ∧ m2 ≤ 8192) := ⟨hn2, hm2⟩
  obtain ⟨s2, hs2⟩ : ∃ b, b = decide ((iv false n1) < 0) := ⟨_, rfl⟩
  rw [← hs2]
  have HS2 : Hid (s2 = decide ((iv false n1) < 0)) := hs2
  clear ho2 hn2 hm2 hs2
  clear hmk
  have HR2 : Hid (∀ g, p2 = some ⟨g, 0, none⟩ → 0 < m2 → g ≠ gr ∧ g < v2.heap.size) := fun g h1 h2 => by have a1 := O2.out.inn g h1 h2; have a2 := HL2.out; exact ⟨by omega, by omega⟩
  clear HL2
  go_wp2_with fail
  have HDr : Hid (gr ≠ v2.heap.size) := Nat.ne_of_lt Xr.out.lt
  have Xlo0 : Hid (B3q (v2.alloc (.cells #[.bool s2, .slice p2 m2 m2, .int .i64 (e1)] 33)) v2.heap.size (.bool s2) (.slice p2 m2 m2) (.int .i64 (e1))) := B3q.new v2 _ _ _ _
  have hbn : Below v2.heap.size v2 (v2.alloc (.cells #[.bool s2, .slice p2 m2 m2, .int .i64 (e1)] 33)) := below1 v2 _
  generalize v2.alloc (.cells #[.bool s2, .slice p2 m2 m2, .int .i64 (e1)] 33) = Wl at *
  have HGlo : Hid (w.heap.size ≤ v2.heap.size) := hbw.size
  replace Xr : Hid _ := Xr.out.below hbn
  replace O2 : Hid (Own v1.heap.size Wl p2 m2 z2s) := O2.out.below hbn
  replace hbw := Below.on hbw hbn
  clear hbn
  generalize v2.heap.size = glo at *
  have Xlo := Xlo0
  clear Xlo0
  have hmk := mid_ok HJN.out.jm.pm b n2 e2 HB.out.1 HB.out.2.2.1 HM2.out.1 HM2.out.2 _ (TB.out.below hbw)
  rw [HB.out.2.2.2.2.2] at hmk
  have HWB3 : Hid (w.heap.size ≤ Wl.heap.size) := hbw.size
  have HL3 : Hid (gr < Wl.heap.size ∧ glo < Wl.heap.size) := ⟨Xr.out.lt, Xlo.out.lt⟩
  refine (hmk).mono ?_
  rintro e2 v3 ⟨hv, hb3⟩
  obtain ⟨v, rfl, hv2⟩ := hv.form (HF.out.2) (rfl)
  clear hv
  obtain ⟨p3, m3, z3s, rfl, ho3, hn3, hm3⟩ := hv2
  replace Xr : Hid _ := Xr.out.below hb3
  replace Xlo : Hid _ := Xlo.out.below hb3
  replace O2 : Hid (Own v1.heap.size v3 p2 m2 z2s) := O2.out.below hb3
  replace hbw := Below.on hbw hb3
  clear hb3
  have O3 : Hid (Own Wl.heap.size v3 p3 m3 z3s) := ho3
  have N3 : Hid (Nf B64 z3s (iv false n2).natAbs ∧ m3 ≤ 8192) := ⟨hn3, hm3⟩
  obtain ⟨s3, hs3⟩ : ∃ b, b = decide ((iv false n2) < 0) := ⟨_, rfl⟩
  rw [← hs3]
  have HS3 : Hid (s3 = decide ((iv false n2) < 0)) := hs3
  clear ho3 hn3 hm3 hs3
  clear hmk
  have HR3 : Hid (∀ g, p3 = some ⟨g, 0, none⟩ → 0 < m3 → g ≠ gr ∧ g ≠ glo) := fun g h1 h2 => by have a1 := O3.out.inn g h1 h2; have a2 := HL3.out; exact ⟨by omega, by omega⟩
  clear HL3
  have hs2 : s2 = false := by rw [HS2.out]; have := HN.out; rw [iv_f]; exact decide_eq_false (by omega)
  subst hs2
  have hs3 : s3 = false := by rw [HS3.out]; have := HN.out; rw [iv_f]; exact decide_eq_false (by omega)
  subst hs3
  have hlo2 : Hid (B3q v3 glo (.bool false) (.slice p2 m2 m2) (.int .i64 (e1))) := Xlo
  clear hlo2
  have qd1 := HDr.out
  have qd2 : glo ≠ gr := fun h => qd1 h.symm
  obtain ⟨clo0, clo1, clo2, flo0, flo1, flo2⟩ := Xlo.out
  have hnelo : glo < v3.heap.size := World.block_lt_of_cell? v3 _ clo0
  obtain ⟨cr0, cr1, cr2, cr3, cr4, cr5, fr0, fr1, fr2, fr3, fr4, fr5⟩ := Xr.out
  have hner : gr < v3.heap.size := World.block_lt_of_cell? v3 _ cr0
  go_wp2_with fail
  refine bodyPost_ret (v := .tuple #[SV false p2 m2 m2 e1 false p3 m3 m3 e2, .bool pr, .int .i64 0]) (by rw [results_ctt rfl]; go_simp) rfl ⟨false, p2, m2, iv false n1, e1, false, p3, m3, iv false n2, e2, rfl, ?_, ?_, ?_, ?_, ?_⟩
  · exact ⟨⟨z2s, (((((((O2.out.setNot _ _ _ (fun g h1 h2 => (HR2.out g h1 h2).1)).setNot _ _ _ (fun g h1 h2 => (HR2.out g h1 h2).1)).setNot _ _ _ (fun g h1 h2 => (HR2.out g h1 h2).1)).setNot _ _ _ (fun g h1 h2 => (HR2.out g h1 h2).1)).setNot _ _ _ (fun g h1 h2 => (HR2.out g h1 h2).1)).setNot _ _ _ (fun g h1 h2 => (HR2.out g h1 h2).1)).below (below1 _ _)).mono HWB2.out, N2.out.1, N2.out.2⟩, HS2.out, HF.out.1⟩
  · exact ⟨⟨z3s, (((((((O3.out.setNot _ _ _ (fun g h1 h2 => (HR3.out g h1 h2).1)).setNot _ _ _ (fun g h1 h2 => (HR3.out g h1 h2).1)).setNot _ _ _ (fun g h1 h2 => (HR3.out g h1 h2).1)).setNot _ _ _ (fun g h1 h2 => (HR3.out g h1 h2).1)).setNot _ _ _ (fun g h1 h2 => (HR3.out g h1 h2).1)).setNot _ _ _ (fun g h1 h2 => (HR3.out g h1 h2).1)).below (below1 _ _)).mono HWB3.out, N3.out.1, N3.out.2⟩, HS3.out, HF.out.2⟩
  · have := HD.out; unfold cLo; rw [dv_iv]; rw [if_neg (by simp), if_neg (by simp)]; exact this.1
  · have := HD.out; unfold cHi; rw [dv_iv]; rw [if_neg (by simp), if_neg (by simp)]; exact this.2
  · exact Below.on (bSet (bSet (bSet (bSet (bSet (bSet hbw _ _ _ HGr.out) _ _ _ HGr.out) _ _ _ HGr.out) _ _ _ HGr.out) _ _ _ HGr.out) _ _ _ HGr.out) (below1 _ _)
theorem cell_p2 {f p m l : Int} {S I H sd : Nat} {Be : Int} (J : Jn f p m l S I H sd Be) (b : Nat) (hb : b < 2 * S) (h0 : b % S ≠ 0) (h1 : b % S < I) (hs : ¬ S ≤ b) (hc : clsN H I (b % S) = 2) (w : World) (hT : Tab w) :
    Calls Tryz.prog 9 #[.int .i64 f, U b] w fun en w' => ∃ s1 p1 m1 z1 e1 s2 p2 m2 z2 e2, en = .returned (.tuple #[SV s1 p1 m1 m1 e1 s2 p2 m2 m2 e2, .bool (decide (b % 2 = 0)), .int .i64 0]) ∧ DO w.heap.size w' s1 p1 m1 e1 z1 ∧ DO w.heap.size w' s2 p2 m2 e2 z2 ∧ dv z1 e1 = cLo H l (decide (S ≤ b)) (b % S) ∧ dv z2 e2 = cHi H l (decide (S ≤ b)) (b % S) ∧ Below w.heap.size w w' := by
  have HJN : Hid (Jn f p m l S I H sd Be) := J
  have TB : Hid (Tab w) := hT
  have hlt := J.jm.pm.fm.lt
  have hb0 : b ≠ 0 := fun h => h0 (by rw [h]; exact Nat.zero_mod _)
  have hle := J.jm.pm.fm.le
  have hp := J.jm.pm.hp
  have h9 := J.jm.pm.h9
  have hlo := J.jm.pm.lo
  have hst := J.jm.pm.st _ h1
  have hst2 := J.jm.pm.st _ (show b % S - 1 < I by omega)
  obtain ⟨z, hz⟩ : ∃ z, z = b % S := ⟨_, rfl⟩
  have hb1 : (b - 1) % S = z - 1 := by
    have e1 := Nat.div_add_mod b S
    have : b - 1 = z - 1 + S * (b / S) := by omega
    rw [this, Nat.add_mul_mod_self_left, Nat.mod_eq_of_lt (by omega)]
  have hsg : decide (S ≤ b - 1) = decide (S ≤ b) := by
    refine decide_eq_decide.2 ⟨fun h => by omega, fun h => ?_⟩
    have : b ≠ S := fun h2 => by rw [h2, Nat.mod_self] at h0; exact h0 rfl
    omega
  rw [← hz] at h0 h1 hst hst2
  have hmod : ∀ y : Nat, y < I → 2 * (y - (y / H - 1) * H) + 1 < 18446744073709551616 := fun y hy => by
    have e1 := Nat.div_add_mod y H
    have e2 := Nat.mod_lt y hp
    rw [Nat.mul_comm] at e1
    by_cases e3 : y / H = 0
    · rw [e3] at e1 ⊢; omega
    · rw [Nat.sub_mul]; omega
  obtain ⟨sb, hsb⟩ : ∃ sb, sb = decide (S ≤ b) := ⟨_, rfl⟩
  obtain ⟨n1, hn1⟩ : ∃ n1, n1 = 2 * ((z - 1) - ((z - 1) / H - 1) * H) + 1 := ⟨_, rfl⟩
  obtain ⟨n2, hn2⟩ : ∃ n2, n2 = 2 * (z - (z / H - 1) * H) + 1 := ⟨_, rfl⟩
  obtain ⟨e1, he1⟩ : ∃ e1 : Int, e1 = l + (((z - 1) / H - 1 : Nat) : Int) - 1 := ⟨_, rfl⟩
  obtain ⟨e2, he2⟩ : ∃ e2 : Int, e2 = l + ((z / H - 1 : Nat) : Int) - 1 := ⟨_, rfl⟩
  have hod : ∀ (s : Bool) (y : Nat), iv s (2 * y + 1) % 2 = 1 := fun s y => by cases s <;> simp [iv] <;> omega
  have HF : Hid (DFm (iv sb n1) e1 ∧ DFm (iv sb n2) e2) := ⟨.inr ⟨by rw [hn1]; exact hod _ _, by omega, by omega⟩, .inr ⟨by rw [hn2]; exact hod _ _, by omega, by omega⟩⟩
  have HD : Hid (dv (n1 : Int) e1 = dv (hv H (z - 1) : Int) (l - 1) ∧ dv (n2 : Int) e2 = dv (hv H z : Int) (l - 1)) := ⟨by rw [hn1, he1]; exact mid_dv _ (by omega), by rw [hn2, he2]; exact mid_dv _ (by omega)⟩
  have HN : Hid (0 < n1 ∧ 0 < n2) := by rw [hn1, hn2]; exact ⟨by omega, by omega⟩
  have HB : Hid (b < 2 * S ∧ b - 1 < 2 * S ∧ b % S < I ∧ (b - 1) % S < I ∧ decide (S ≤ b - 1) = sb ∧ decide (S ≤ b) = sb) := ⟨hb, by omega, by omega, by omega, by rw [hsg, hsb], hsb.symm⟩
  have HM1 : Hid (n1 = 2 * ((b - 1) % S - ((b - 1) % S / H - 1) * H) + 1 ∧ e1 = l + (((b - 1) % S / H - 1 : Nat) : Int) - 1) := by rw [hb1]; exact ⟨hn1, he1⟩
  have HM2 : Hid (n2 = 2 * (b % S - (b % S / H - 1) * H) + 1 ∧ e2 = l + ((b % S / H - 1 : Nat) : Int) - 1) := by rw [← hz]; exact ⟨hn2, he2⟩
  have HC : Hid (clsN H I (b % S) = 2) := hc
  obtain ⟨b1, hb1'⟩ : ∃ b1, b1 = b - 1 := ⟨_, rfl⟩
  have k1 : IntKind.u64.wrap ((b : Int) - 1) = (b1 : Int) := by rw [IntKind.wrap_u64]; omega
  obtain ⟨pr, hpr⟩ : ∃ pr, pr = decide (b % 2 = 0) := ⟨_, rfl⟩
  have k2 : (((b : Int).tmod 2) == 0) = pr := by rw [Int.tmod_eq_emod_of_nonneg (by omega), hpr]; by_cases a : b % 2 = 0 <;> simp [a] <;> omega
  have k3 : (((b : Int) % 2) == 0) = pr := by rw [hpr]; by_cases a : b % 2 = 0 <;> simp [a] <;> omega
  rw [← hb1'] at HB HM1
  rw [← hpr, ← hsb]
  have hsv : sb = false := by rw [hsb]; exact decide_eq_false hs
  subst hsv
  rw [← hz]
  clear hs J hT hlt hle hp h9 hlo hst hst2 hb1 hsg hmod hn1 hn2 he1 he2 hod hc hsb hpr hb h0 h1 hb0 hb1'
  go_enter Tryz.func9, Tryz.ntmps9
  go_wp2_with fail
  obtain ⟨W0, hW0⟩ : ∃ W0, W0 = (w.alloc (.cells #[.bool false, .slice none 0 0, .int .i64 0, .bool false, .slice none 0 0, .int .i64 0] 35)) := ⟨_, rfl⟩
  have Xr : Hid (B6q W0 (w.heap.size) (.bool false) (.slice none 0 0) (.int .i64 0) (.bool false) (.slice none 0 0) (.int .i64 0)) := by rw [hW0]; exact ⟨by go_simp, by go_simp, by go_simp, by go_simp, by go_simp, by go_simp, by go_simp, by go_simp, by go_simp, by go_simp, by go_simp, by go_simp⟩
  have hb0 : Below w.heap.size w W0 := by rw [hW0]; exact below1 w _
  rw [← hW0]
  clear hW0
  have hbw : Below w.heap.size w w := Below.refl _ _
  obtain ⟨gr, hgr⟩ : ∃ g, g = w.heap.size := ⟨_, rfl⟩
  have HGr : Hid (w.heap.size ≤ gr) := by rw [hgr]; show _ ≤ _; omega
  rw [← hgr] at Xr
  try rw [← hgr]
  clear hgr
  replace hbw := Below.on hbw hb0
  clear hb0
  refine (HJN.out.cl b _ HB.out.1).mono ?_
  rintro e v1 ⟨rfl, hb1⟩
  rw [HC.out]
  replace Xr : Hid _ := Xr.out.below hb1
  replace hbw := Below.on hbw hb1
  clear hb1
  go_wp2_with fail
  have hmk := mid_ok HJN.out.jm.pm b1 n1 e1 HB.out.2.1 HB.out.2.2.2.1 HM1.out.1 HM1.out.2 _ (TB.out.below hbw)
  rw [HB.out.2.2.2.2.1] at hmk
  have HWB2 : Hid (w.heap.size ≤ v1.heap.size) := hbw.size
  have HL2 : Hid (gr < v1.heap.size) := Xr.out.lt
  refine (hmk).mono ?_
  rintro e2 v2 ⟨hv, hb2⟩
  obtain ⟨v, rfl, hv2⟩ := hv.form (HF.out.1) (rfl)
  clear hv
  obtain ⟨p2, m2, z2s, rfl, ho2, hn2, hm2⟩ := hv2
  replace Xr : Hid _ := Xr.out.below hb2
  replace hbw := Below.on hbw hb2
  clear hb2
  have O2 : Hid (Own v1.heap.size v2 p2 m2 z2s) := ho2
  have N2 : Hid (Nf B64 z2s (iv false n1).natAbs ∧ m2 ≤ 8192) := ⟨hn2, hm2⟩
  obtain ⟨s2, hs2⟩ : ∃ b, b = decide ((iv false n1) < 0) := ⟨_, rfl⟩
  rw [← hs2]
  have HS2 : Hid (s2 = decide ((iv false n1) < 0)) := hs2
  clear ho2 hn2 hm2 hs2
  clear hmk
  have HR2 : Hid (∀ g, p2 = some ⟨g, 0, none⟩ → 0 < m2 → g ≠ gr ∧ g < v2.heap.size) := fun g h1 h2 => by have a1 := O2.out.inn g h1 h2; have a2 := HL2.out; exact ⟨by omega, by omega⟩
  clear HL2
  go_wp2_with fail
  have HDr : Hid (gr ≠ v2.heap.size) := Nat.ne_of_lt Xr.out.lt
  have Xlo0 : Hid (B3q (v2.alloc (.cells #[.bool s2, .slice p2 m2 m2, .int .i64 (e1)] 33)) v2.heap.size (.bool s2) (.slice p2 m2 m2) (.int .i64 (e1))) := B3q.new v2 _ _ _ _
  have hbn : Below v2.heap.size v2 (v2.alloc (.cells #[.bool s2, .slice p2 m2 m2, .int .i64 (e1)] 33)) := below1 v2 _
  generalize v2.alloc (.cells #[.bool s2, .slice p2 m2 m2, .int .i64 (e1)] 33) = Wl at *
  have HGlo : Hid (w.heap.size ≤ v2.heap.size) := hbw.size
  replace Xr : Hid _ := Xr.out.below hbn
  replace O2 : Hid (Own v1.heap.size Wl p2 m2 z2s) := O2.out.below hbn
  replace hbw := Below.on hbw hbn
  clear hbn
  generalize v2.heap.size = glo at *
  have Xlo := Xlo0
  clear Xlo0
  have hmk := mid_ok HJN.out.jm.pm b n2 e2 HB.out.1 HB.out.2.2.1 HM2.out.1 HM2.out.2 _ (TB.out.below hbw)
  rw [HB.out.2.2.2.2.2] at hmk
  have HWB3 : Hid (w.heap.size ≤ Wl.heap.size) := hbw.size
  have HL3 : Hid (gr < Wl.heap.size ∧ glo < Wl.heap.size) := ⟨Xr.out.lt, Xlo.out.lt⟩
  refine (hmk).mono ?_
  rintro e2 v3 ⟨hv, hb3⟩
  obtain ⟨v, rfl, hv2⟩ := hv.form (HF.out.2) (rfl)
  clear hv
  obtain ⟨p3, m3, z3s, rfl, ho3, hn3, hm3⟩ := hv2
  replace Xr : Hid _ := Xr.out.below hb3
  replace Xlo : Hid _ := Xlo.out.below hb3
  replace O2 : Hid (Own v1.heap.size v3 p2 m2 z2s) := O2.out.below hb3
  replace hbw := Below.on hbw hb3
  clear hb3
  have O3 : Hid (Own Wl.heap.size v3 p3 m3 z3s) := ho3
  have N3 : Hid (Nf B64 z3s (iv false n2).natAbs ∧ m3 ≤ 8192) := ⟨hn3, hm3⟩
  obtain ⟨s3, hs3⟩ : ∃ b, b = decide ((iv false n2) < 0) := ⟨_, rfl⟩
  rw [← hs3]
  have HS3 : Hid (s3 = decide ((iv false n2) < 0)) := hs3
  clear ho3 hn3 hm3 hs3
  clear hmk
  have HR3 : Hid (∀ g, p3 = some ⟨g, 0, none⟩ → 0 < m3 → g ≠ gr ∧ g ≠ glo) := fun g h1 h2 => by have a1 := O3.out.inn g h1 h2; have a2 := HL3.out; exact ⟨by omega, by omega⟩
  clear HL3
  have hs2 : s2 = false := by rw [HS2.out]; have := HN.out; rw [iv_f]; exact decide_eq_false (by omega)
  subst hs2
  have hs3 : s3 = false := by rw [HS3.out]; have := HN.out; rw [iv_f]; exact decide_eq_false (by omega)
  subst hs3
  have hlo2 : Hid (B3q v3 glo (.bool false) (.slice p2 m2 m2) (.int .i64 (e1))) := Xlo
  clear hlo2
  have qd1 := HDr.out
  have qd2 : glo ≠ gr := fun h => qd1 h.symm
  obtain ⟨clo0, clo1, clo2, flo0, flo1, flo2⟩ := Xlo.out
  have hnelo : glo < v3.heap.size := World.block_lt_of_cell? v3 _ clo0
  obtain ⟨cr0, cr1, cr2, cr3, cr4, cr5, fr0, fr1, fr2, fr3, fr4, fr5⟩ := Xr.out
  have hner : gr < v3.heap.size := World.block_lt_of_cell? v3 _ cr0
  go_wp2_with fail
  refine bodyPost_ret (v := .tuple #[SV false p2 m2 m2 e1 false p3 m3 m3 e2, .bool pr, .int .i64 0]) (by rw [results_ctt rfl]; go_simp) rfl ⟨false, p2, m2, iv false n1, e1, false, p3, m3, iv false n2, e2, rfl, ?_, ?_, ?_, ?_, ?_⟩
  · exact ⟨⟨z2s, (((((((O2.out.setNot _ _ _ (fun g h1 h2 => (HR2.out g h1 h2).1)).setNot _ _ _ (fun g h1 h2 => (HR2.out g h1 h2).1)).setNot _ _ _ (fun g h1 h2 => (HR2.out g h1 h2).1)).setNot _ _ _ (fun g h1 h2 => (HR2.out g h1 h2).1)).setNot _ _ _ (fun g h1 h2 => (HR2.out g h1 h2).1)).setNot _ _ _ (fun g h1 h2 => (HR2.out g h1 h2).1)).below (below1 _ _)).mono HWB2.out, N2.out.1, N2.out.2⟩, HS2.out, HF.out.1⟩
  · exact ⟨⟨z3s, (((((((O3.out.setNot _ _ _ (fun g h1 h2 => (HR3.out g h1 h2).1)).setNot _ _ _ (fun g h1 h2 => (HR3.out g h1 h2).1)).setNot _ _ _ (fun g h1 h2 => (HR3.out g h1 h2).1)).setNot _ _ _ (fun g h1 h2 => (HR3.out g h1 h2).1)).setNot _ _ _ (fun g h1 h2 => (HR3.out g h1 h2).1)).setNot _ _ _ (fun g h1 h2 => (HR3.out g h1 h2).1)).below (below1 _ _)).mono HWB3.out, N3.out.1, N3.out.2⟩, HS3.out, HF.out.2⟩
  · have := HD.out; unfold cLo; rw [dv_iv]; rw [if_neg (by simp), if_neg (by simp)]; exact this.1
  · have := HD.out; unfold cHi; rw [dv_iv]; rw [if_neg (by simp), if_neg (by simp)]; exact this.2
  · exact Below.on (bSet (bSet (bSet (bSet (bSet (bSet hbw _ _ _ HGr.out) _ _ _ HGr.out) _ _ _ HGr.out) _ _ _ HGr.out) _ _ _ HGr.out) _ _ _ HGr.out) (below1 _ _)
theorem cell_n1 {f p m l : Int} {S I H sd : Nat} {Be : Int} (J : Jn f p m l S I H sd Be) (b : Nat) (hb : b < 2 * S) (h0 : b % S ≠ 0) (h1 : b % S < I) (hs : S ≤ b) (hc : clsN H I (b % S) = 1) (w : World) (hT : Tab w) :
    Calls Tryz.prog 9 #[.int .i64 f, U b] w fun en w' => ∃ s1 p1 m1 z1 e1 s2 p2 m2 z2 e2, en = .returned (.tuple #[SV s1 p1 m1 m1 e1 s2 p2 m2 m2 e2, .bool (decide (b % 2 = 0)), .int .i64 0]) ∧ DO w.heap.size w' s1 p1 m1 e1 z1 ∧ DO w.heap.size w' s2 p2 m2 e2 z2 ∧ dv z1 e1 = cLo H l (decide (S ≤ b)) (b % S) ∧ dv z2 e2 = cHi H l (decide (S ≤ b)) (b % S) ∧ Below w.heap.size w w' := by
  have HJN : Hid (Jn f p m l S I H sd Be) := J
  have TB : Hid (Tab w) := hT
  have hlt := J.jm.pm.fm.lt
  have hb0 : b ≠ 0 := fun h => h0 (by rw [h]; exact Nat.zero_mod _)
  have hle := J.jm.pm.fm.le
  have hp := J.jm.pm.hp
  have h9 := J.jm.pm.h9
  have hlo := J.jm.pm.lo
  have hst := J.jm.pm.st _ h1
  have hst2 := J.jm.pm.st _ (show b % S - 1 < I by omega)
  obtain ⟨z, hz⟩ : ∃ z, z = b % S := ⟨_, rfl⟩
  have hb1 : (b - 1) % S = z - 1 := by
    have e1 := Nat.div_add_mod b S
    have : b - 1 = z - 1 + S * (b / S) := by omega
    rw [this, Nat.add_mul_mod_self_left, Nat.mod_eq_of_lt (by omega)]
  have hsg : decide (S ≤ b - 1) = decide (S ≤ b) := by
    refine decide_eq_decide.2 ⟨fun h => by omega, fun h => ?_⟩
    have : b ≠ S := fun h2 => by rw [h2, Nat.mod_self] at h0; exact h0 rfl
    omega
  rw [← hz] at h0 h1 hst hst2
  have hmod : ∀ y : Nat, y < I → 2 * (y - (y / H - 1) * H) + 1 < 18446744073709551616 := fun y hy => by
    have e1 := Nat.div_add_mod y H
    have e2 := Nat.mod_lt y hp
    rw [Nat.mul_comm] at e1
    by_cases e3 : y / H = 0
    · rw [e3] at e1 ⊢; omega
    · rw [Nat.sub_mul]; omega
  obtain ⟨sb, hsb⟩ : ∃ sb, sb = decide (S ≤ b) := ⟨_, rfl⟩
  obtain ⟨n1, hn1⟩ : ∃ n1, n1 = 2 * ((z - 1) - ((z - 1) / H - 1) * H) + 1 := ⟨_, rfl⟩
  obtain ⟨n2, hn2⟩ : ∃ n2, n2 = 2 * (z - (z / H - 1) * H) + 1 := ⟨_, rfl⟩
  obtain ⟨e1, he1⟩ : ∃ e1 : Int, e1 = l + (((z - 1) / H - 1 : Nat) : Int) - 1 := ⟨_, rfl⟩
  obtain ⟨e2, he2⟩ : ∃ e2 : Int, e2 = l + ((z / H - 1 : Nat) : Int) - 1 := ⟨_, rfl⟩
  have hod : ∀ (s : Bool) (y : Nat), iv s (2 * y + 1) % 2 = 1 := fun s y => by cases s <;> simp [iv] <;> omega
  have HF : Hid (DFm (iv sb n1) e1 ∧ DFm (iv sb n2) e2) := ⟨.inr ⟨by rw [hn1]; exact hod _ _, by omega, by omega⟩, .inr ⟨by rw [hn2]; exact hod _ _, by omega, by omega⟩⟩
  have HD : Hid (dv (n1 : Int) e1 = dv (hv H (z - 1) : Int) (l - 1) ∧ dv (n2 : Int) e2 = dv (hv H z : Int) (l - 1)) := ⟨by rw [hn1, he1]; exact mid_dv _ (by omega), by rw [hn2, he2]; exact mid_dv _ (by omega)⟩
  have HN : Hid (0 < n1 ∧ 0 < n2) := by rw [hn1, hn2]; exact ⟨by omega, by omega⟩
  have HB : Hid (b < 2 * S ∧ b - 1 < 2 * S ∧ b % S < I ∧ (b - 1) % S < I ∧ decide (S ≤ b - 1) = sb ∧ decide (S ≤ b) = sb) := ⟨hb, by omega, by omega, by omega, by rw [hsg, hsb], hsb.symm⟩
  have HM1 : Hid (n1 = 2 * ((b - 1) % S - ((b - 1) % S / H - 1) * H) + 1 ∧ e1 = l + (((b - 1) % S / H - 1 : Nat) : Int) - 1) := by rw [hb1]; exact ⟨hn1, he1⟩
  have HM2 : Hid (n2 = 2 * (b % S - (b % S / H - 1) * H) + 1 ∧ e2 = l + ((b % S / H - 1 : Nat) : Int) - 1) := by rw [← hz]; exact ⟨hn2, he2⟩
  have HC : Hid (clsN H I (b % S) = 1) := hc
  obtain ⟨b1, hb1'⟩ : ∃ b1, b1 = b - 1 := ⟨_, rfl⟩
  have k1 : IntKind.u64.wrap ((b : Int) - 1) = (b1 : Int) := by rw [IntKind.wrap_u64]; omega
  obtain ⟨pr, hpr⟩ : ∃ pr, pr = decide (b % 2 = 0) := ⟨_, rfl⟩
  have k2 : (((b : Int).tmod 2) == 0) = pr := by rw [Int.tmod_eq_emod_of_nonneg (by omega), hpr]; by_cases a : b % 2 = 0 <;> simp [a] <;> omega
  have k3 : (((b : Int) % 2) == 0) = pr := by rw [hpr]; by_cases a : b % 2 = 0 <;> simp [a] <;> omega
  rw [← hb1'] at HB HM1
  rw [← hpr, ← hsb]
  have hsv : sb = true := by rw [hsb]; exact decide_eq_true hs
  subst hsv
  rw [← hz]
  clear hs J hT hlt hle hp h9 hlo hst hst2 hb1 hsg hmod hn1 hn2 he1 he2 hod hc hsb hpr hb h0 h1 hb0 hb1'
  go_enter Tryz.func9, Tryz.ntmps9
  go_wp2_with fail
  obtain ⟨W0, hW0⟩ : ∃ W0, W0 = (w.alloc (.cells #[.bool false, .slice none 0 0, .int .i64 0, .bool false, .slice none 0 0, .int .i64 0] 35)) := ⟨_, rfl⟩
  have Xr : Hid (B6q W0 (w.heap.size) (.bool false) (.slice none 0 0) (.int .i64 0) (.bool false) (.slice none 0 0) (.int .i64 0)) := by rw [hW0]; exact ⟨by go_simp, by go_simp, by go_simp, by go_simp, by go_simp, by go_simp, by go_simp, by go_simp, by go_simp, by go_simp, by go_simp, by go_simp⟩
  have hb0 : Below w.heap.size w W0 := by rw [hW0]; exact below1 w _
  rw [← hW0]
  clear hW0
  have hbw : Below w.heap.size w w := Below.refl _ _
  obtain ⟨gr, hgr⟩ : ∃ g, g = w.heap.size := ⟨_, rfl⟩
  have HGr : Hid (w.heap.size ≤ gr) := by rw [hgr]; show _ ≤ _; omega
  rw [← hgr] at Xr
  try rw [← hgr]
  clear hgr
  replace hbw := Below.on hbw hb0
  clear hb0
  refine (HJN.out.cl b _ HB.out.1).mono ?_
  rintro e v1 ⟨rfl, hb1⟩
  rw [HC.out]
  replace Xr : Hid _ := Xr.out.below hb1
  replace hbw := Below.on hbw hb1
  clear hb1
  go_wp2_with fail
  have hmk := mid_ok HJN.out.jm.pm b1 n1 e1 HB.out.2.1 HB.out.2.2.2.1 HM1.out.1 HM1.out.2 _ (TB.out.below hbw)
  rw [HB.out.2.2.2.2.1] at hmk
  have HWB2 : Hid (w.heap.size ≤ v1.heap.size) := hbw.size
  have HL2 : Hid (gr < v1.heap.size) := Xr.out.lt
  refine (hmk).mono ?_
  rintro e2 v2 ⟨hv, hb2⟩
  obtain ⟨v, rfl, hv2⟩ := hv.form (HF.out.1) (rfl)
  clear hv
  obtain ⟨p2, m2, z2s, rfl, ho2, hn2, hm2⟩ := hv2
  replace Xr : Hid _ := Xr.out.below hb2
  replace hbw := Below.on hbw hb2
  clear hb2
  have O2 : Hid (Own v1.heap.size v2 p2 m2 z2s) := ho2
  have N2 : Hid (Nf B64 z2s (iv true n1).natAbs ∧ m2 ≤ 8192) := ⟨hn2, hm2⟩
  obtain ⟨s2, hs2⟩ : ∃ b, b = decide ((iv true n1) < 0) := ⟨_, rfl⟩
  rw [← hs2]
  have HS2 : Hid (s2 = decide ((iv true n1) < 0)) := hs2
  clear ho2 hn2 hm2 hs2
  clear hmk
  have HR2 : Hid (∀ g, p2 = some ⟨g, 0, none⟩ → 0 < m2 → g ≠ gr ∧ g < v2.heap.size) := fun g h1 h2 => by have a1 := O2.out.inn g h1 h2; have a2 := HL2.out; exact ⟨by omega, by omega⟩
  clear HL2
  go_wp2_with fail
  have HDr : Hid (gr ≠ v2.heap.size) := Nat.ne_of_lt Xr.out.lt
  have Xlo0 : Hid (B3q (v2.alloc (.cells #[.bool s2, .slice p2 m2 m2, .int .i64 (e1)] 33)) v2.heap.size (.bool s2) (.slice p2 m2 m2) (.int .i64 (e1))) := B3q.new v2 _ _ _ _
  have hbn : Below v2.heap.size v2 (v2.alloc (.cells #[.bool s2, .slice p2 m2 m2, .int .i64 (e1)] 33)) := below1 v2 _
  generalize v2.alloc (.cells #[.bool s2, .slice p2 m2 m2, .int .i64 (e1)] 33) = Wl at *
  have HGlo : Hid (w.heap.size ≤ v2.heap.size) := hbw.size
  replace Xr : Hid _ := Xr.out.below hbn
  replace O2 : Hid (Own v1.heap.size Wl p2 m2 z2s) := O2.out.below hbn
  replace hbw := Below.on hbw hbn
  clear hbn
  generalize v2.heap.size = glo at *
  have Xlo := Xlo0
  clear Xlo0
  have hmk := mid_ok HJN.out.jm.pm b n2 e2 HB.out.1 HB.out.2.2.1 HM2.out.1 HM2.out.2 _ (TB.out.below hbw)
  rw [HB.out.2.2.2.2.2] at hmk
  have HWB3 : Hid (w.heap.size ≤ Wl.heap.size) := hbw.size
  have HL3 : Hid (gr < Wl.heap.size ∧ glo < Wl.heap.size) := ⟨Xr.out.lt, Xlo.out.lt⟩
  refine (hmk).mono ?_
  rintro e2 v3 ⟨hv, hb3⟩
  obtain ⟨v, rfl, hv2⟩ := hv.form (HF.out.2) (rfl)
  clear hv
  obtain ⟨p3, m3, z3s, rfl, ho3, hn3, hm3⟩ := hv2
  replace Xr : Hid _ := Xr.out.below hb3
  replace Xlo : Hid _ := Xlo.out.below hb3
  replace O2 : Hid (Own v1.heap.size v3 p2 m2 z2s) := O2.out.below hb3
  replace hbw := Below.on hbw hb3
  clear hb3
  have O3 : Hid (Own Wl.heap.size v3 p3 m3 z3s) := ho3
  have N3 : Hid (Nf B64 z3s (iv true n2).natAbs ∧ m3 ≤ 8192) := ⟨hn3, hm3⟩
  obtain ⟨s3, hs3⟩ : ∃ b, b = decide ((iv true n2) < 0) := ⟨_, rfl⟩
  rw [← hs3]
  have HS3 : Hid (s3 = decide ((iv true n2) < 0)) := hs3
  clear ho3 hn3 hm3 hs3
  clear hmk
  have HR3 : Hid (∀ g, p3 = some ⟨g, 0, none⟩ → 0 < m3 → g ≠ gr ∧ g ≠ glo) := fun g h1 h2 => by have a1 := O3.out.inn g h1 h2; have a2 := HL3.out; exact ⟨by omega, by omega⟩
  clear HL3
  have hs2 : s2 = true := by rw [HS2.out]; have := HN.out; rw [iv_t]; exact decide_eq_true (by omega)
  subst hs2
  have hs3 : s3 = true := by rw [HS3.out]; have := HN.out; rw [iv_t]; exact decide_eq_true (by omega)
  subst hs3
  have hlo2 : Hid (B3q v3 glo (.bool true) (.slice p2 m2 m2) (.int .i64 (e1))) := Xlo
  clear hlo2
  have qd1 := HDr.out
  have qd2 : glo ≠ gr := fun h => qd1 h.symm
  obtain ⟨clo0, clo1, clo2, flo0, flo1, flo2⟩ := Xlo.out
  have hnelo : glo < v3.heap.size := World.block_lt_of_cell? v3 _ clo0
  obtain ⟨cr0, cr1, cr2, cr3, cr4, cr5, fr0, fr1, fr2, fr3, fr4, fr5⟩ := Xr.out
  have hner : gr < v3.heap.size := World.block_lt_of_cell? v3 _ cr0
  go_wp2_with fail
  refine bodyPost_ret (v := .tuple #[SV true p3 m3 m3 e2 true p2 m2 m2 e1, .bool pr, .int .i64 0]) (by rw [results_ctt rfl]; go_simp) rfl ⟨true, p3, m3, iv true n2, e2, true, p2, m2, iv true n1, e1, rfl, ?_, ?_, ?_, ?_, ?_⟩
  · exact ⟨⟨z3s, ((((((((((O3.out.setNot _ _ _ (fun g h1 h2 => (HR3.out g h1 h2).2)).setNot _ _ _ (fun g h1 h2 => (HR3.out g h1 h2).2)).setNot _ _ _ (fun g h1 h2 => (HR3.out g h1 h2).2)).setNot _ _ _ (fun g h1 h2 => (HR3.out g h1 h2).1)).setNot _ _ _ (fun g h1 h2 => (HR3.out g h1 h2).1)).setNot _ _ _ (fun g h1 h2 => (HR3.out g h1 h2).1)).setNot _ _ _ (fun g h1 h2 => (HR3.out g h1 h2).1)).setNot _ _ _ (fun g h1 h2 => (HR3.out g h1 h2).1)).setNot _ _ _ (fun g h1 h2 => (HR3.out g h1 h2).1)).below (below1 _ _)).mono HWB3.out, N3.out.1, N3.out.2⟩, HS3.out, HF.out.2⟩
  · exact ⟨⟨z2s, ((((((((((O2.out.setNot _ _ _ (fun g h1 h2 => Nat.ne_of_lt (HR2.out g h1 h2).2)).setNot _ _ _ (fun g h1 h2 => Nat.ne_of_lt (HR2.out g h1 h2).2)).setNot _ _ _ (fun g h1 h2 => Nat.ne_of_lt (HR2.out g h1 h2).2)).setNot _ _ _ (fun g h1 h2 => (HR2.out g h1 h2).1)).setNot _ _ _ (fun g h1 h2 => (HR2.out g h1 h2).1)).setNot _ _ _ (fun g h1 h2 => (HR2.out g h1 h2).1)).setNot _ _ _ (fun g h1 h2 => (HR2.out g h1 h2).1)).setNot _ _ _ (fun g h1 h2 => (HR2.out g h1 h2).1)).setNot _ _ _ (fun g h1 h2 => (HR2.out g h1 h2).1)).below (below1 _ _)).mono HWB2.out, N2.out.1, N2.out.2⟩, HS2.out, HF.out.1⟩
  · have := HD.out; unfold cLo; rw [dv_iv]; rw [if_pos rfl, if_pos rfl, this.2]
  · have := HD.out; unfold cHi; rw [dv_iv]; rw [if_pos rfl, if_pos rfl, this.1]
  · exact Below.on (bSet (bSet (bSet (bSet (bSet (bSet (bSet (bSet (bSet hbw _ _ _ HGlo.out) _ _ _ HGlo.out) _ _ _ HGlo.out) _ _ _ HGr.out) _ _ _ HGr.out) _ _ _ HGr.out) _ _ _ HGr.out) _ _ _ HGr.out) _ _ _ HGr.out) (below1 _ _)
theorem cell_n2 {f p m l : Int} {S I H sd : Nat} {Be : Int} (J : Jn f p m l S I H sd Be) (b : Nat) (hb : b < 2 * S) (h0 : b % S ≠ 0) (h1 : b % S < I) (hs : S ≤ b) (hc : clsN H I (b % S) = 2) (w : World) (hT : Tab w) :
    Calls Tryz.prog 9 #[.int .i64 f, U b] w fun en w' => ∃ s1 p1 m1 z1 e1 s2 p2 m2 z2 e2, en = .returned (.tuple #[SV s1 p1 m1 m1 e1 s2 p2 m2 m2 e2, .bool (decide (b % 2 = 0)), .int .i64 0]) ∧ DO w.heap.size w' s1 p1 m1 e1 z1 ∧ DO w.heap.size w' s2 p2 m2 e2 z2 ∧ dv z1 e1 = cLo H l (decide (S ≤ b)) (b % S) ∧ dv z2 e2 = cHi H l (decide (S ≤ b)) (b % S) ∧ Below w.heap.size w w' := by
  have HJN : Hid (Jn f p m l S I H sd Be) := J
  have TB : Hid (Tab w) := hT
  have hlt := J.jm.pm.fm.lt
  have hb0 : b ≠ 0 := fun h => h0 (by rw [h]; exact Nat.zero_mod _)
  have hle := J.jm.pm.fm.le
  have hp := J.jm.pm.hp
  have h9 := J.jm.pm.h9
  have hlo := J.jm.pm.lo
  have hst := J.jm.pm.st _ h1
  have hst2 := J.jm.pm.st _ (show b % S - 1 < I by omega)
  obtain ⟨z, hz⟩ : ∃ z, z = b % S := ⟨_, rfl⟩
  have hb1 : (b - 1) % S = z - 1 := by
    have e1 := Nat.div_add_mod b S
    have : b - 1 = z - 1 + S * (b / S) := by omega
    rw [this, Nat.add_mul_mod_self_left, Nat.mod_eq_of_lt (by omega)]
  have hsg : decide (S ≤ b - 1) = decide (S ≤ b) := by
    refine decide_eq_decide.2 ⟨fun h => by omega, fun h => ?_⟩
    have : b ≠ S := fun h2 => by rw [h2, Nat.mod_self] at h0; exact h0 rfl
    omega
  rw [← hz] at h0 h1 hst hst2
  have hmod : ∀ y : Nat, y < I → 2 * (y - (y / H - 1) * H) + 1 < 18446744073709551616 := fun y hy => by
    have e1 := Nat.div_add_mod y H
    have e2 := Nat.mod_lt y hp
    rw [Nat.mul_comm] at e1
    by_cases e3 : y / H = 0
    · rw [e3] at e1 ⊢; omega
    · rw [Nat.sub_mul]; omega
  obtain ⟨sb, hsb⟩ : ∃ sb, sb = decide (S ≤ b) := ⟨_, rfl⟩
  obtain ⟨n1, hn1⟩ : ∃ n1, n1 = 2 * ((z - 1) - ((z - 1) / H - 1) * H) + 1 := ⟨_, rfl⟩
  obtain ⟨n2, hn2⟩ : ∃ n2, n2 = 2 * (z - (z / H - 1) * H) + 1 := ⟨_, rfl⟩
  obtain ⟨e1, he1⟩ : ∃ e1 : Int, e1 = l + (((z - 1) / H - 1 : Nat) : Int) - 1 := ⟨_, rfl⟩
  obtain ⟨e2, he2⟩ : ∃ e2 : Int, e2 = l + ((z / H - 1 : Nat) : Int) - 1 := ⟨_, rfl⟩
  have hod : ∀ (s : Bool) (y : Nat), iv s (2 * y + 1) % 2 = 1 := fun s y => by cases s <;> simp [iv] <;> omega
  have HF : Hid (DFm (iv sb n1) e1 ∧ DFm (iv sb n2) e2) := ⟨.inr ⟨by rw [hn1]; exact hod _ _, by omega, by omega⟩, .inr ⟨by rw [hn2]; exact hod _ _, by omega, by omega⟩⟩
  have HD : Hid (dv (n1 : Int) e1 = dv (hv H (z - 1) : Int) (l - 1) ∧ dv (n2 : Int) e2 = dv (hv H z : Int) (l - 1)) := ⟨by rw [hn1, he1]; exact mid_dv _ (by omega), by rw [hn2, he2]; exact mid_dv _ (by omega)⟩
  have HN : Hid (0 < n1 ∧ 0 < n2) := by rw [hn1, hn2]; exact ⟨by omega, by omega⟩
  have HB : Hid (b < 2 * S ∧ b - 1 < 2 * S ∧ b % S < I ∧ (b - 1) % S < I ∧ decide (S ≤ b - 1) = sb ∧ decide (S ≤ b) = sb) := ⟨hb, by omega, by omega, by omega, by rw [hsg, hsb], hsb.symm⟩
  have HM1 : Hid (n1 = 2 * ((b - 1) % S - ((b - 1) % S / H - 1) * H) + 1 ∧ e1 = l + (((b - 1) % S / H - 1 : Nat) : Int) - 1) := by rw [hb1]; exact ⟨hn1, he1⟩
  have HM2 : Hid (n2 = 2 * (b % S - (b % S / H - 1) * H) + 1 ∧ e2 = l + ((b % S / H - 1 : Nat) : Int) - 1) := by rw [← hz]; exact ⟨hn2, he2⟩
  have HC : Hid (clsN H I (b % S) = 2) := hc
  obtain ⟨b1, hb1'⟩ : ∃ b1, b1 = b - 1 := ⟨_, rfl⟩
  have k1 : IntKind.u64.wrap ((b : Int) - 1) = (b1 : Int) := by rw [IntKind.wrap_u64]; omega
  obtain ⟨pr, hpr⟩ : ∃ pr, pr = decide (b % 2 = 0) := ⟨_, rfl⟩
  have k2 : (((b : Int).tmod 2) == 0) = pr := by rw [Int.tmod_eq_emod_of_nonneg (by omega), hpr]; by_cases a : b % 2 = 0 <;> simp [a] <;> omega
  have k3 : (((b : Int) % 2) == 0) = pr := by rw [hpr]; by_cases a : b % 2 = 0 <;> simp [a] <;> omega
  rw [← hb1'] at HB HM1
  rw [← hpr, ← hsb]
  have hsv : sb = true := by rw [hsb]; exact decide_eq_true hs
  subst hsv
  rw [← hz]
  clear hs J hT hlt hle hp h9 hlo hst hst2 hb1 hsg hmod hn1 hn2 he1 he2 hod hc hsb hpr hb h0 h1 hb0 hb1'
  go_enter Tryz.func9, Tryz.ntmps9
  go_wp2_with fail
  obtain ⟨W0, hW0⟩ : ∃ W0, W0 = (w.alloc (.cells #[.bool false, .slice none 0 0, .int .i64 0, .bool false, .slice none 0 0, .int .i64 0] 35)) := ⟨_, rfl⟩
  have Xr : Hid (B6q W0 (w.heap.size) (.bool false) (.slice none 0 0) (.int .i64 0) (.bool false) (.slice none 0 0) (.int .i64 0)) := by rw [hW0]; exact ⟨by go_simp, by go_simp, by go_simp, by go_simp, by go_simp, by go_simp, by go_simp, by go_simp, by go_simp, by go_simp, by go_simp, by go_simp⟩
  have hb0 : Below w.heap.size w W0 := by rw [hW0]; exact below1 w _
  rw [← hW0]
  clear hW0
  have hbw : Below w.heap.size w w := Below.refl _ _
  obtain ⟨gr, hgr⟩ : ∃ g, g = w.heap.size := ⟨_, rfl⟩
  have HGr : Hid (w.heap.size ≤ gr) := by rw [hgr]; show _ ≤ _; omega
  rw [← hgr] at Xr
  try rw [← hgr]
  clear hgr
  replace hbw := Below.on hbw hb0
  clear hb0
  refine (HJN.out.cl b _ HB.out.1).mono ?_
  rintro e v1 ⟨rfl, hb1⟩
  rw [HC.out]
  replace Xr : Hid _ := Xr.out.below hb1
  replace hbw := Below.on hbw hb1
  clear hb1
  go_wp2_with fail
  have hmk := mid_ok HJN.out.jm.pm b1 n1 e1 HB.out.2.1 HB.out.2.2.2.1 HM1.out.1 HM1.out.2 _ (TB.out.below hbw)
  rw [HB.out.2.2.2.2.1] at hmk
  have HWB2 : Hid (w.heap.size ≤ v1.heap.size) := hbw.size
  have HL2 : Hid (gr < v1.heap.size) := Xr.out.lt
  refine (hmk).mono ?_
  rintro e2 v2 ⟨hv, hb2⟩
  obtain ⟨v, rfl, hv2⟩ := hv.form (HF.out.1) (rfl)
  clear hv
  obtain ⟨p2, m2, z2s, rfl, ho2, hn2, hm2⟩ := hv2
  replace Xr : Hid _ := Xr.out.below hb2
  replace hbw := Below.on hbw hb2
  clear hb2
  have O2 : Hid (Own v1.heap.size v2 p2 m2 z2s) := ho2
  have N2 : Hid (Nf B64 z2s (iv true n1).natAbs ∧ m2 ≤ 8192) := ⟨hn2, hm2⟩
  obtain ⟨s2, hs2⟩ : ∃ b, b = decide ((iv true n1) < 0) := ⟨_, rfl⟩
  rw [← hs2]
  have HS2 : Hid (s2 = decide ((iv true n1) < 0)) := hs2
  clear ho2 hn2 hm2 hs2
  clear hmk
  have HR2 : Hid (∀ g, p2 = some ⟨g, 0, none⟩ → 0 < m2 → g ≠ gr ∧ g < v2.heap.size) := fun g h1 h2 => by have a1 := O2.out.inn g h1 h2; have a2 := HL2.out; exact ⟨by omega, by omega⟩
  clear HL2
  go_wp2_with fail
  have HDr : Hid (gr ≠ v2.heap.size) := Nat.ne_of_lt Xr.out.lt
  have Xlo0 : Hid (B3q (v2.alloc (.cells #[.bool s2, .slice p2 m2 m2, .int .i64 (e1)] 33)) v2.heap.size (.bool s2) (.slice p2 m2 m2) (.int .i64 (e1))) := B3q.new v2 _ _ _ _
  have hbn : Below v2.heap.size v2 (v2.alloc (.cells #[.bool s2, .slice p2 m2 m2, .int .i64 (e1)] 33)) := below1 v2 _
  generalize v2.alloc (.cells #[.bool s2, .slice p2 m2 m2, .int .i64 (e1)] 33) = Wl at *
  have HGlo : Hid (w.heap.size ≤ v2.heap.size) := hbw.size
  replace Xr : Hid _ := Xr.out.below hbn
  replace O2 : Hid (Own v1.heap.size Wl p2 m2 z2s) := O2.out.below hbn
  replace hbw := Below.on hbw hbn
  clear hbn
  generalize v2.heap.size = glo at *
  have Xlo := Xlo0
  clear Xlo0
  have hmk := mid_ok HJN.out.jm.pm b n2 e2 HB.out.1 HB.out.2.2.1 HM2.out.1 HM2.out.2 _ (TB.out.below hbw)
  rw [HB.out.2.2.2.2.2] at hmk
  have HWB3 : Hid (w.heap.size ≤ Wl.heap.size) := hbw.size
  have HL3 : Hid (gr < Wl.heap.size ∧ glo < Wl.heap.size) := ⟨Xr.out.lt, Xlo.out.lt⟩
  refine (hmk).mono ?_
  rintro e2 v3 ⟨hv, hb3⟩
  obtain ⟨v, rfl, hv2⟩ := hv.form (HF.out.2) (rfl)
  clear hv
  obtain ⟨p3, m3, z3s, rfl, ho3, hn3, hm3⟩ := hv2
  replace Xr : Hid _ := Xr.out.below hb3
  replace Xlo : Hid _ := Xlo.out.below hb3
  replace O2 : Hid (Own v1.heap.size v3 p2 m2 z2s) := O2.out.below hb3
  replace hbw := Below.on hbw hb3
  clear hb3
  have O3 : Hid (Own Wl.heap.size v3 p3 m3 z3s) := ho3
  have N3 : Hid (Nf B64 z3s (iv true n2).natAbs ∧ m3 ≤ 8192) := ⟨hn3, hm3⟩
  obtain ⟨s3, hs3⟩ : ∃ b, b = decide ((iv true n2) < 0) := ⟨_, rfl⟩
  rw [← hs3]
  have HS3 : Hid (s3 = decide ((iv true n2) < 0)) := hs3
  clear ho3 hn3 hm3 hs3
  clear hmk
  have HR3 : Hid (∀ g, p3 = some ⟨g, 0, none⟩ → 0 < m3 → g ≠ gr ∧ g ≠ glo) := fun g h1 h2 => by have a1 := O3.out.inn g h1 h2; have a2 := HL3.out; exact ⟨by omega, by omega⟩
  clear HL3
  have hs2 : s2 = true := by rw [HS2.out]; have := HN.out; rw [iv_t]; exact decide_eq_true (by omega)
  subst hs2
  have hs3 : s3 = true := by rw [HS3.out]; have := HN.out; rw [iv_t]; exact decide_eq_true (by omega)
  subst hs3
  have hlo2 : Hid (B3q v3 glo (.bool true) (.slice p2 m2 m2) (.int .i64 (e1))) := Xlo
  clear hlo2
  have qd1 := HDr.out
  have qd2 : glo ≠ gr := fun h => qd1 h.symm
  obtain ⟨clo0, clo1, clo2, flo0, flo1, flo2⟩ := Xlo.out
  have hnelo : glo < v3.heap.size := World.block_lt_of_cell? v3 _ clo0
  obtain ⟨cr0, cr1, cr2, cr3, cr4, cr5, fr0, fr1, fr2, fr3, fr4, fr5⟩ := Xr.out
  have hner : gr < v3.heap.size := World.block_lt_of_cell? v3 _ cr0
  go_wp2_with fail
  refine bodyPost_ret (v := .tuple #[SV true p3 m3 m3 e2 true p2 m2 m2 e1, .bool pr, .int .i64 0]) (by rw [results_ctt rfl]; go_simp) rfl ⟨true, p3, m3, iv true n2, e2, true, p2, m2, iv true n1, e1, rfl, ?_, ?_, ?_, ?_, ?_⟩
  · exact ⟨⟨z3s, ((((((((((O3.out.setNot _ _ _ (fun g h1 h2 => (HR3.out g h1 h2).2)).setNot _ _ _ (fun g h1 h2 => (HR3.out g h1 h2).2)).setNot _ _ _ (fun g h1 h2 => (HR3.out g h1 h2).2)).setNot _ _ _ (fun g h1 h2 => (HR3.out g h1 h2).1)).setNot _ _ _ (fun g h1 h2 => (HR3.out g h1 h2).1)).setNot _ _ _ (fun g h1 h2 => (HR3.out g h1 h2).1)).setNot _ _ _ (fun g h1 h2 => (HR3.out g h1 h2).1)).setNot _ _ _ (fun g h1 h2 => (HR3.out g h1 h2).1)).setNot _ _ _ (fun g h1 h2 => (HR3.out g h1 h2).1)).below (below1 _ _)).mono HWB3.out, N3.out.1, N3.out.2⟩, HS3.out, HF.out.2⟩
  · exact ⟨⟨z2s, ((((((((((O2.out.setNot _ _ _ (fun g h1 h2 => Nat.ne_of_lt (HR2.out g h1 h2).2)).setNot _ _ _ (fun g h1 h2 => Nat.ne_of_lt (HR2.out g h1 h2).2)).setNot _ _ _ (fun g h1 h2 => Nat.ne_of_lt (HR2.out g h1 h2).2)).setNot _ _ _ (fun g h1 h2 => (HR2.out g h1 h2).1)).setNot _ _ _ (fun g h1 h2 => (HR2.out g h1 h2).1)).setNot _ _ _ (fun g h1 h2 => (HR2.out g h1 h2).1)).setNot _ _ _ (fun g h1 h2 => (HR2.out g h1 h2).1)).setNot _ _ _ (fun g h1 h2 => (HR2.out g h1 h2).1)).setNot _ _ _ (fun g h1 h2 => (HR2.out g h1 h2).1)).below (below1 _ _)).mono HWB2.out, N2.out.1, N2.out.2⟩, HS2.out, HF.out.1⟩
  · have := HD.out; unfold cLo; rw [dv_iv]; rw [if_pos rfl, if_pos rfl, this.2]
  · have := HD.out; unfold cHi; rw [dv_iv]; rw [if_pos rfl, if_pos rfl, this.1]
  · exact Below.on (bSet (bSet (bSet (bSet (bSet (bSet (bSet (bSet (bSet hbw _ _ _ HGlo.out) _ _ _ HGlo.out) _ _ _ HGlo.out) _ _ _ HGr.out) _ _ _ HGr.out) _ _ _ HGr.out) _ _ _ HGr.out) _ _ _ HGr.out) _ _ _ HGr.out) (below1 _ _)
theorem cell_ok {f p m l : Int} {S I H sd : Nat} {Be : Int} (J : Jn f p m l S I H sd Be) (b : Nat) (hb : b < 2 * S) (h0 : b % S ≠ 0) (h1 : b % S < I) (w : World) (hT : Tab w) :
    Calls Tryz.prog 9 #[.int .i64 f, U b] w fun en w' => ∃ s1 p1 m1 z1 e1 s2 p2 m2 z2 e2, en = .returned (.tuple #[SV s1 p1 m1 m1 e1 s2 p2 m2 m2 e2, .bool (decide (b % 2 = 0)), .int .i64 0]) ∧ DO w.heap.size w' s1 p1 m1 e1 z1 ∧ DO w.heap.size w' s2 p2 m2 e2 z2 ∧ dv z1 e1 = cLo H l (decide (S ≤ b)) (b % S) ∧ dv z2 e2 = cHi H l (decide (S ≤ b)) (b % S) ∧ Below w.heap.size w w' := by
  have hc : clsN H I (b % S) = 1 ∨ clsN H I (b % S) = 2 := by
    unfold clsN
    rw [if_neg h0]
    by_cases a2 : b % S < H
    · rw [if_pos a2]; exact .inl rfl
    · rw [if_neg a2, if_pos h1]; exact .inr rfl
  by_cases hs : S ≤ b
  · rcases hc with hc | hc
    · exact cell_n1 J b hb h0 h1 hs hc w hT
    · exact cell_n2 J b hb h0 h1 hs hc w hT
  · rcases hc with hc | hc
    · exact cell_p1 J b hb h0 h1 hs hc w hT
    · exact cell_p2 J b hb h0 h1 hs hc w hT
theorem num8 {w : World} (z e : Int) (h0 : -9223372036854775807 ≤ z ∧ z ≤ 9223372036854775807) (hz : z % 2 = 1) (he : -2000 ≤ e ∧ e ≤ 2000) :
    Calls Tryz.prog 11 #[.int .i64 z, .int .i64 e] w fun en w' => ∃ s' g m' c', en = .returned (DV s' (some ⟨g, 0, none⟩) m' c' e) ∧ w.heap.size ≤ g ∧ DN w' s' (some ⟨g, 0, none⟩) m' c' e z ∧ Below w.heap.size w w' := by
  have HZ : Hid (-9223372036854775807 ≤ z ∧ z ≤ 9223372036854775807 ∧ z % 2 = 1 ∧ -2000 ≤ e ∧ e ≤ 2000) := ⟨h0.1, h0.2, hz, he.1, he.2⟩
  clear h0 hz he
  go_enter Tryz.func11, Tryz.ntmps11
  go_wp2_with fail
  obtain ⟨W0, hW0⟩ : ∃ W0, W0 = (w.alloc (.cells #[.bool false, .slice none 0 0, .int .i64 0] 33)) := ⟨_, rfl⟩
  have Xr : Hid (B3q W0 (w.heap.size) (.bool false) (.slice none 0 0) (.int .i64 0)) := by rw [hW0]; exact ⟨by go_simp, by go_simp, by go_simp, by go_simp, by go_simp, by go_simp⟩
  have hb0 : Below w.heap.size w W0 := by rw [hW0]; exact below1 w _
  rw [← hW0]
  clear hW0
  have hbw : Below w.heap.size w w := Below.refl _ _
  obtain ⟨gr, hgr⟩ : ∃ g, g = w.heap.size := ⟨_, rfl⟩
  have HGr : Hid (w.heap.size ≤ gr) := by rw [hgr]; show _ ≤ _; omega
  rw [← hgr] at Xr
  try rw [← hgr]
  clear hgr
  replace hbw := Below.on hbw hb0
  clear hb0
  refine (docof5 z (by have := HZ.out; omega) (by have := HZ.out; omega) HZ.out.2.2.1).mono ?_
  rintro e2 v1 ⟨s1, g1, m1, c1, rfl, hg1, hd1, hb1⟩
  replace Xr : Hid _ := Xr.out.below hb1
  replace hbw := Below.on hbw hb1
  clear hb1
  have D1 : Hid (DN v1 s1 (some ⟨g1, 0, none⟩) m1 c1 0 z) := hd1
  have hm1 : m1 ≤ 4000 := by
    obtain ⟨xs, hX⟩ := hd1.zn.ex
    have := (hX.nf.len_le B64_one (k := 1)).2 (by rw [Nat.pow_one, B64_eq]; have := HZ.out; omega)
    rw [hX.at_.len] at this
    omega
  have HM1 : Hid (m1 ≤ 4000) := hm1
  clear hd1 hg1 hm1
  go_wp2_with fail
  refine (docscale5 D1.out HZ.out.2.2.1 HM1.out (by have := HZ.out; omega) (by omega)).mono ?_
  rw [Int.zero_add]
  rintro e2 v2 ⟨s2, g2, m2, c2, rfl, hg2, hd2, hb2⟩
  have HR2 : Hid (gr < g2 ∧ w.heap.size ≤ g2) := ⟨Nat.lt_of_lt_of_le Xr.out.lt hg2, Nat.le_trans hbw.size hg2⟩
  replace Xr : Hid _ := Xr.out.below hb2
  replace D1 : Hid _ := D1.out.below hb2
  replace hbw := Below.on hbw hb2
  clear hb2
  have D2 : Hid (DN v2 s2 (some ⟨g2, 0, none⟩) m2 c2 e z) := hd2
  clear hd2 hg2
  obtain ⟨cr0, cr1, cr2, fr0, fr1, fr2⟩ := Xr.out
  have hner : gr < v2.heap.size := World.block_lt_of_cell? v2 _ cr0
  go_wp2_with fail
  refine bodyPost_ret (v := DV s2 (some ⟨g2, 0, none⟩) m2 c2 e) (by rw [results_cell1 rfl]; go_simp) rfl ⟨s2, g2, m2, c2, rfl, HR2.out.2, ?_, ?_⟩
  · have := HR2.out.1
    exact (((D2.out.set _ _ _ (by omega)).set _ _ _ (by omega)).set _ _ _ (by omega)).below (below1 _ _)
  · exact Below.on (bSet (bSet (bSet hbw _ _ _ HGr.out) _ _ _ HGr.out) _ _ _ HGr.out) (below1 _ _)
theorem rcls_32_0 (s : Nat) (h0 : s = 0) (w : World) :
    Calls Tryz.prog 95 #[FV 2147483648 24 (-149) 104 2139095040 2143289345, U s] w fun en w' => en = .returned (.int .i64 0) ∧ Below w.heap.size w w' := by
  subst h0
  go_enter Tryz.func95, Tryz.ntmps95
  go_wp2_with fail
  go_ret
  exact ⟨rfl, bwAlloc w _⟩
theorem rcls_32_1 (s : Nat) (h0 : s ≠ 0) (h1 : s < 8388608) (w : World) :
    Calls Tryz.prog 95 #[FV 2147483648 24 (-149) 104 2139095040 2143289345, U s] w fun en w' => en = .returned (.int .i64 1) ∧ Below w.heap.size w w' := by
  have k0 : ((s : Int) == 0) = false := by simp; omega
  have k1 : decide ((s : Int) < 8388608) = true := by exact decide_eq_true (by omega)
  have m1 : ((1 : Int) <<< (23 : Nat)) = 8388608 := by decide
  clear h0 h1
  go_enter Tryz.func95, Tryz.ntmps95
  go_wp2_with fail
  go_ret
  exact ⟨rfl, bwAlloc w _⟩
theorem rcls_32_2 (s : Nat) (h1 : ¬ s < 8388608) (h2 : s < 2139095040) (w : World) :
    Calls Tryz.prog 95 #[FV 2147483648 24 (-149) 104 2139095040 2143289345, U s] w fun en w' => en = .returned (.int .i64 2) ∧ Below w.heap.size w w' := by
  have k0 : ((s : Int) == 0) = false := by simp; omega
  have k1 : decide ((s : Int) < 8388608) = false := by exact decide_eq_false (by omega)
  have k2 : decide ((s : Int) < 2139095040) = true := by exact decide_eq_true (by omega)
  have m1 : ((1 : Int) <<< (23 : Nat)) = 8388608 := by decide
  clear h1 h2
  go_enter Tryz.func95, Tryz.ntmps95
  go_wp2_with fail
  go_ret
  exact ⟨rfl, bwAlloc w _⟩
theorem rcls_32_3 (s : Nat) (h2 : s = 2139095040) (w : World) :
    Calls Tryz.prog 95 #[FV 2147483648 24 (-149) 104 2139095040 2143289345, U s] w fun en w' => en = .returned (.int .i64 3) ∧ Below w.heap.size w w' := by
  have k0 : ((s : Int) == 0) = false := by simp; omega
  have k1 : decide ((s : Int) < 8388608) = false := by exact decide_eq_false (by omega)
  have k2 : decide ((s : Int) < 2139095040) = false := by exact decide_eq_false (by omega)
  have k3 : ((s : Int) == 2139095040) = true := by simp; omega
  have m1 : ((1 : Int) <<< (23 : Nat)) = 8388608 := by decide
  clear h2
  go_enter Tryz.func95, Tryz.ntmps95
  go_wp2_with fail
  go_ret
  exact ⟨rfl, bwAlloc w _⟩
theorem rcls_32_4 (s : Nat) (h2 : 2139095040 < s) (w : World) :
    Calls Tryz.prog 95 #[FV 2147483648 24 (-149) 104 2139095040 2143289345, U s] w fun en w' => en = .returned (.int .i64 4) ∧ Below w.heap.size w w' := by
  have k0 : ((s : Int) == 0) = false := by simp; omega
  have k1 : decide ((s : Int) < 8388608) = false := by exact decide_eq_false (by omega)
  have k2 : decide ((s : Int) < 2139095040) = false := by exact decide_eq_false (by omega)
  have k3 : ((s : Int) == 2139095040) = false := by simp; omega
  have m1 : ((1 : Int) <<< (23 : Nat)) = 8388608 := by decide
  clear h2
  go_enter Tryz.func95, Tryz.ntmps95
  go_wp2_with fail
  go_ret
  exact ⟨rfl, bwAlloc w _⟩
theorem rcls_32 (s : Nat) (w : World) : Calls Tryz.prog 95 #[FV 2147483648 24 (-149) 104 2139095040 2143289345, U s] w fun en w' => en = .returned (.int .i64 (clsN 8388608 2139095040 s)) ∧ Below w.heap.size w w' := by
  unfold clsN
  by_cases h0 : s = 0
  · rw [if_pos h0]; exact rcls_32_0 s h0 w
  · rw [if_neg h0]
    by_cases h1 : s < 8388608
    · rw [if_pos h1]; exact rcls_32_1 s h0 h1 w
    · rw [if_neg h1]
      by_cases h2 : s < 2139095040
      · rw [if_pos h2]; exact rcls_32_2 s h1 h2 w
      · rw [if_neg h2]
        by_cases h3 : s = 2139095040
        · rw [if_pos h3]; exact rcls_32_3 s h3 w
        · rw [if_neg h3]; exact rcls_32_4 s (by omega) w
theorem docclass_32 (b : Nat) (hb : b < 2 * 2147483648) (w : World) :
    Calls Tryz.prog 90 #[.int .i64 32, U b] w fun en w' => en = .returned (.tuple #[.int .i64 (clsN 8388608 2139095040 (b % 2147483648)), .int .i64 0]) ∧ Below w.heap.size w w' := by
  have hbw : Below w.heap.size w w := Below.refl _ _
  have HB : Hid (b < 2 * 2147483648) := hb
  obtain ⟨z, hz⟩ : ∃ z, z = b % 2147483648 := ⟨_, rfl⟩
  obtain ⟨c, hc⟩ : ∃ c, c = clsN 8388608 2139095040 z := ⟨_, rfl⟩
  rw [← hz, ← hc]
  have HZ : Hid (b % 2147483648 = z ∧ clsN 8388608 2139095040 z = c) := ⟨hz.symm, hc.symm⟩
  clear hb hz hc
  go_enter Tryz.func90, Tryz.ntmps90
  go_wp2_with fail
  refine (check_ok rf_32 b HB.out _).mono ?_
  rintro e v1 ⟨rfl, hb1⟩
  replace hbw := Below.on hbw hb1
  clear hb1
  go_wp2_with fail
  refine (rof_32 _).mono ?_
  rintro e v2 ⟨rfl, hb2⟩
  replace hbw := Below.on hbw hb2
  clear hb2
  go_wp2_with fail
  have Xk0 : Hid (B6q (v2.alloc (.cells #[U 2147483648, .int .i64 24, .int .i64 (-149), .int .i64 104, U 2139095040, U 2143289345] 126)) v2.heap.size (U 2147483648) (.int .i64 24) (.int .i64 (-149)) (.int .i64 104) (U 2139095040) (U 2143289345)) := B6q.new v2 _ _ _ _ _ _ _
  have hbn : Below v2.heap.size v2 (v2.alloc (.cells #[U 2147483648, .int .i64 24, .int .i64 (-149), .int .i64 104, U 2139095040, U 2143289345] 126)) := below1 v2 _
  generalize v2.alloc (.cells #[U 2147483648, .int .i64 24, .int .i64 (-149), .int .i64 104, U 2139095040, U 2143289345] 126) = Wk at *
  have HGk : Hid (w.heap.size ≤ v2.heap.size) := hbw.size
  replace hbw := Below.on hbw hbn
  clear hbn
  generalize v2.heap.size = gk at *
  have Xk := Xk0
  clear Xk0
  refine (cut_any (by decide) (by decide) b _).mono ?_
  rintro e v3 ⟨rfl, hb3⟩
  rw [HZ.out.1]
  replace Xk : Hid _ := Xk.out.below hb3
  replace hbw := Below.on hbw hb3
  clear hb3
  obtain ⟨ck0, ck1, ck2, ck3, ck4, ck5, fk0, fk1, fk2, fk3, fk4, fk5⟩ := Xk.out
  have hnek : gk < v3.heap.size := World.block_lt_of_cell? v3 _ ck0
  go_wp2_with fail
  clear ck0 ck1 ck2 ck3 ck4 ck5 fk0 fk1 fk2 fk3 fk4 fk5 hnek
  refine (rcls_32 z _).mono ?_
  rintro e v4 ⟨rfl, hb4⟩
  rw [HZ.out.2]
  replace Xk : Hid _ := Xk.out.below hb4
  replace hbw := Below.on hbw hb4
  clear hb4
  obtain ⟨ck0, ck1, ck2, ck3, ck4, ck5, fk0, fk1, fk2, fk3, fk4, fk5⟩ := Xk.out
  have hnek : gk < v4.heap.size := World.block_lt_of_cell? v4 _ ck0
  go_wp2_with fail
  clear ck0 ck1 ck2 ck3 ck4 ck5 fk0 fk1 fk2 fk3 fk4 fk5 hnek
  go_ret2
  exact ⟨rfl, hbw⟩
theorem rcls_64_0 (s : Nat) (h0 : s = 0) (w : World) :
    Calls Tryz.prog 95 #[FV 9223372036854775808 53 (-1074) 971 9218868437227405312 9221120237041090561, U s] w fun en w' => en = .returned (.int .i64 0) ∧ Below w.heap.size w w' := by
  subst h0
  go_enter Tryz.func95, Tryz.ntmps95
  go_wp2_with fail
  go_ret
  exact ⟨rfl, bwAlloc w _⟩
theorem rcls_64_1 (s : Nat) (h0 : s ≠ 0) (h1 : s < 4503599627370496) (w : World) :
    Calls Tryz.prog 95 #[FV 9223372036854775808 53 (-1074) 971 9218868437227405312 9221120237041090561, U s] w fun en w' => en = .returned (.int .i64 1) ∧ Below w.heap.size w w' := by
  have k0 : ((s : Int) == 0) = false := by simp; omega
  have k1 : decide ((s : Int) < 4503599627370496) = true := by exact decide_eq_true (by omega)
  have m1 : ((1 : Int) <<< (52 : Nat)) = 4503599627370496 := by decide
  clear h0 h1
  go_enter Tryz.func95, Tryz.ntmps95
  go_wp2_with fail
  go_ret
  exact ⟨rfl, bwAlloc w _⟩
theorem rcls_64_2 (s : Nat) (h1 : ¬ s < 4503599627370496) (h2 : s < 9218868437227405312) (w : World) :
    Calls Tryz.prog 95 #[FV 9223372036854775808 53 (-1074) 971 9218868437227405312 9221120237041090561, U s] w fun en w' => en = .returned (.int .i64 2) ∧ Below w.heap.size w w' := by
  have k0 : ((s : Int) == 0) = false := by simp; omega
  have k1 : decide ((s : Int) < 4503599627370496) = false := by exact decide_eq_false (by omega)
  have k2 : decide ((s : Int) < 9218868437227405312) = true := by exact decide_eq_true (by omega)
  have m1 : ((1 : Int) <<< (52 : Nat)) = 4503599627370496 := by decide
  clear h1 h2
  go_enter Tryz.func95, Tryz.ntmps95
  go_wp2_with fail
  go_ret
  exact ⟨rfl, bwAlloc w _⟩
theorem rcls_64_3 (s : Nat) (h2 : s = 9218868437227405312) (w : World) :
    Calls Tryz.prog 95 #[FV 9223372036854775808 53 (-1074) 971 9218868437227405312 9221120237041090561, U s] w fun en w' => en = .returned (.int .i64 3) ∧ Below w.heap.size w w' := by
  have k0 : ((s : Int) == 0) = false := by simp; omega
  have k1 : decide ((s : Int) < 4503599627370496) = false := by exact decide_eq_false (by omega)
  have k2 : decide ((s : Int) < 9218868437227405312) = false := by exact decide_eq_false (by omega)
  have k3 : ((s : Int) == 9218868437227405312) = true := by simp; omega
  have m1 : ((1 : Int) <<< (52 : Nat)) = 4503599627370496 := by decide
  clear h2
  go_enter Tryz.func95, Tryz.ntmps95
  go_wp2_with fail
  go_ret
  exact ⟨rfl, bwAlloc w _⟩
theorem rcls_64_4 (s : Nat) (h2 : 9218868437227405312 < s) (w : World) :
    Calls Tryz.prog 95 #[FV 9223372036854775808 53 (-1074) 971 9218868437227405312 9221120237041090561, U s] w fun en w' => en = .returned (.int .i64 4) ∧ Below w.heap.size w w' := by
  have k0 : ((s : Int) == 0) = false := by simp; omega
  have k1 : decide ((s : Int) < 4503599627370496) = false := by exact decide_eq_false (by omega)
  have k2 : decide ((s : Int) < 9218868437227405312) = false := by exact decide_eq_false (by omega)
  have k3 : ((s : Int) == 9218868437227405312) = false := by simp; omega
  have m1 : ((1 : Int) <<< (52 : Nat)) = 4503599627370496 := by decide
  clear h2
  go_enter Tryz.func95, Tryz.ntmps95
  go_wp2_with fail
  go_ret
  exact ⟨rfl, bwAlloc w _⟩
theorem rcls_64 (s : Nat) (w : World) : Calls Tryz.prog 95 #[FV 9223372036854775808 53 (-1074) 971 9218868437227405312 9221120237041090561, U s] w fun en w' => en = .returned (.int .i64 (clsN 4503599627370496 9218868437227405312 s)) ∧ Below w.heap.size w w' := by
  unfold clsN
  by_cases h0 : s = 0
  · rw [if_pos h0]; exact rcls_64_0 s h0 w
  · rw [if_neg h0]
    by_cases h1 : s < 4503599627370496
    · rw [if_pos h1]; exact rcls_64_1 s h0 h1 w
    · rw [if_neg h1]
      by_cases h2 : s < 9218868437227405312
      · rw [if_pos h2]; exact rcls_64_2 s h1 h2 w
      · rw [if_neg h2]
        by_cases h3 : s = 9218868437227405312
        · rw [if_pos h3]; exact rcls_64_3 s h3 w
        · rw [if_neg h3]; exact rcls_64_4 s (by omega) w
theorem docclass_64 (b : Nat) (hb : b < 2 * 9223372036854775808) (w : World) :
    Calls Tryz.prog 90 #[.int .i64 64, U b] w fun en w' => en = .returned (.tuple #[.int .i64 (clsN 4503599627370496 9218868437227405312 (b % 9223372036854775808)), .int .i64 0]) ∧ Below w.heap.size w w' := by
  have hbw : Below w.heap.size w w := Below.refl _ _
  have HB : Hid (b < 2 * 9223372036854775808) := hb
  obtain ⟨z, hz⟩ : ∃ z, z = b % 9223372036854775808 := ⟨_, rfl⟩
  obtain ⟨c, hc⟩ : ∃ c, c = clsN 4503599627370496 9218868437227405312 z := ⟨_, rfl⟩
  rw [← hz, ← hc]
  have HZ : Hid (b % 9223372036854775808 = z ∧ clsN 4503599627370496 9218868437227405312 z = c) := ⟨hz.symm, hc.symm⟩
  clear hb hz hc
  go_enter Tryz.func90, Tryz.ntmps90
  go_wp2_with fail
  refine (check_ok rf_64 b HB.out _).mono ?_
  rintro e v1 ⟨rfl, hb1⟩
  replace hbw := Below.on hbw hb1
  clear hb1
  go_wp2_with fail
  refine (rof_64 _).mono ?_
  rintro e v2 ⟨rfl, hb2⟩
  replace hbw := Below.on hbw hb2
  clear hb2
  go_wp2_with fail
  have Xk0 : Hid (B6q (v2.alloc (.cells #[U 9223372036854775808, .int .i64 53, .int .i64 (-1074), .int .i64 971, U 9218868437227405312, U 9221120237041090561] 126)) v2.heap.size (U 9223372036854775808) (.int .i64 53) (.int .i64 (-1074)) (.int .i64 971) (U 9218868437227405312) (U 9221120237041090561)) := B6q.new v2 _ _ _ _ _ _ _
  have hbn : Below v2.heap.size v2 (v2.alloc (.cells #[U 9223372036854775808, .int .i64 53, .int .i64 (-1074), .int .i64 971, U 9218868437227405312, U 9221120237041090561] 126)) := below1 v2 _
  generalize v2.alloc (.cells #[U 9223372036854775808, .int .i64 53, .int .i64 (-1074), .int .i64 971, U 9218868437227405312, U 9221120237041090561] 126) = Wk at *
  have HGk : Hid (w.heap.size ≤ v2.heap.size) := hbw.size
  replace hbw := Below.on hbw hbn
  clear hbn
  generalize v2.heap.size = gk at *
  have Xk := Xk0
  clear Xk0
  refine (cut_any (by decide) (by decide) b _).mono ?_
  rintro e v3 ⟨rfl, hb3⟩
  rw [HZ.out.1]
  replace Xk : Hid _ := Xk.out.below hb3
  replace hbw := Below.on hbw hb3
  clear hb3
  obtain ⟨ck0, ck1, ck2, ck3, ck4, ck5, fk0, fk1, fk2, fk3, fk4, fk5⟩ := Xk.out
  have hnek : gk < v3.heap.size := World.block_lt_of_cell? v3 _ ck0
  go_wp2_with fail
  clear ck0 ck1 ck2 ck3 ck4 ck5 fk0 fk1 fk2 fk3 fk4 fk5 hnek
  refine (rcls_64 z _).mono ?_
  rintro e v4 ⟨rfl, hb4⟩
  rw [HZ.out.2]
  replace Xk : Hid _ := Xk.out.below hb4
  replace hbw := Below.on hbw hb4
  clear hb4
  obtain ⟨ck0, ck1, ck2, ck3, ck4, ck5, fk0, fk1, fk2, fk3, fk4, fk5⟩ := Xk.out
  have hnek : gk < v4.heap.size := World.block_lt_of_cell? v4 _ ck0
  go_wp2_with fail
  clear ck0 ck1 ck2 ck3 ck4 ck5 fk0 fk1 fk2 fk3 fk4 fk5 hnek
  go_ret2
  exact ⟨rfl, hbw⟩
theorem spans8 {w : World} {s1 s2 t1 t2 : Bool} {p1 p2 q1 q2 : Option Addr} {m1 m2 n1 n2 c1 c2 d1 d2 : Nat} {x y e f : Int} (h1 : DN w s1 p1 m1 c1 e x) (h2 : DN w s2 p2 m2 c2 f y) (k1 : DN w t1 q1 n1 d1 e x) (k2 : DN w t2 q2 n2 d2 f y) :
    Calls Tryz.prog 12 #[SV s1 p1 m1 c1 e s2 p2 m2 c2 f, SV t1 q1 n1 d1 e t2 q2 n2 d2 f] w fun en w' => en = .returned (.bool true) ∧ Below w.heap.size w w' := by
  have A1 : Hid (DN w s1 p1 m1 c1 e x) := h1
  have A2 : Hid (DN w s2 p2 m2 c2 f y) := h2
  have K1 : Hid (DN w t1 q1 n1 d1 e x) := k1
  have K2 : Hid (DN w t2 q2 n2 d2 f y) := k2
  clear h1 h2 k1 k2
  go_enter Tryz.func12, Tryz.ntmps12
  go_wp2_with fail
  obtain ⟨W0, hW0⟩ : ∃ W0, W0 = ((w.alloc (.cells #[.bool s1, .slice p1 m1 c1, .int .i64 e, .bool s2, .slice p2 m2 c2, .int .i64 f] 35)).alloc (.cells #[.bool t1, .slice q1 n1 d1, .int .i64 e, .bool t2, .slice q2 n2 d2, .int .i64 f] 35)) := ⟨_, rfl⟩
  have Xa : Hid (B6q W0 (w.heap.size) (.bool s1) (.slice p1 m1 c1) (.int .i64 e) (.bool s2) (.slice p2 m2 c2) (.int .i64 f)) := by rw [hW0]; exact ⟨by go_simp, by go_simp, by go_simp, by go_simp, by go_simp, by go_simp, by go_simp, by go_simp, by go_simp, by go_simp, by go_simp, by go_simp⟩
  have Xb : Hid (B6q W0 (w.heap.size + 1) (.bool t1) (.slice q1 n1 d1) (.int .i64 e) (.bool t2) (.slice q2 n2 d2) (.int .i64 f)) := by rw [hW0]; exact ⟨by go_simp, by go_simp, by go_simp, by go_simp, by go_simp, by go_simp, by go_simp, by go_simp, by go_simp, by go_simp, by go_simp, by go_simp⟩
  have hb0 : Below w.heap.size w W0 := by rw [hW0]; exact below2 w _ _
  rw [← hW0]
  clear hW0
  have hbw : Below w.heap.size w w := Below.refl _ _
  obtain ⟨gb, hgb⟩ : ∃ g, g = w.heap.size + 1 := ⟨_, rfl⟩
  have HGb : Hid (w.heap.size ≤ gb) := by rw [hgb]; show _ ≤ _; omega
  rw [← hgb] at Xb
  try rw [← hgb]
  obtain ⟨ga, hga⟩ : ∃ g, g = w.heap.size := ⟨_, rfl⟩
  have HGa : Hid (w.heap.size ≤ ga) := by rw [hga]; show _ ≤ _; omega
  rw [← hga] at Xa
  try rw [← hga]
  have HGD : Hid (ga ≠ gb ∧ gb ≠ ga) := by rw [hga, hgb]; exact ⟨by omega, by omega⟩
  clear hga hgb
  replace hbw := Below.on hbw hb0
  clear hb0
  refine (sameD_t (A1.out.below hbw) (K1.out.below hbw)).mono ?_
  rintro e v1 ⟨rfl, hb1⟩
  replace Xa : Hid _ := Xa.out.below hb1
  replace Xb : Hid _ := Xb.out.below hb1
  replace hbw := Below.on hbw hb1
  clear hb1
  obtain ⟨ca0, ca1, ca2, ca3, ca4, ca5, fa0, fa1, fa2, fa3, fa4, fa5⟩ := Xa.out
  have hnea : ga < v1.heap.size := World.block_lt_of_cell? v1 _ ca0
  obtain ⟨cb0, cb1, cb2, cb3, cb4, cb5, fb0, fb1, fb2, fb3, fb4, fb5⟩ := Xb.out
  have hneb : gb < v1.heap.size := World.block_lt_of_cell? v1 _ cb0
  go_wp2_with fail
  clear ca0 ca1 ca2 ca3 ca4 ca5 fa0 fa1 fa2 fa3 fa4 fa5 hnea
  clear cb0 cb1 cb2 cb3 cb4 cb5 fb0 fb1 fb2 fb3 fb4 fb5 hneb
  refine (sameD_t (A2.out.below hbw) (K2.out.below hbw)).mono ?_
  rintro e v2 ⟨rfl, hb2⟩
  replace Xa : Hid _ := Xa.out.below hb2
  replace Xb : Hid _ := Xb.out.below hb2
  replace hbw := Below.on hbw hb2
  clear hb2
  go_wp2_with fail
  go_ret
  exact ⟨rfl, hbw⟩
abbrev F32t : Value := FV 2147483648 24 (-149) 104 2139095040 2143289345
abbrev F64t : Value := FV 9223372036854775808 53 (-1074) 971 9218868437227405312 9221120237041090561
theorem rparts_320t (s : Nat) (hs : s < 8388608) (w : World) : Calls Tryz.prog 96 #[F32t, U s] w fun e w' => e = .returned (.tuple #[U s, .int .i64 (-149)]) ∧ Below w.heap.size w w' := by
  obtain ⟨z, hz⟩ : ∃ z, z = s / 8388608 := ⟨_, rfl⟩
  obtain ⟨r, hr⟩ : ∃ r, r = s % 8388608 := ⟨_, rfl⟩
  have d1 : (s : Int).tdiv 8388608 = (z : Int) := by rw [Int.tdiv_eq_ediv_of_nonneg (by omega)]; omega
  have d2 : (s : Int).tmod 8388608 = (r : Int) := by rw [Int.tmod_eq_emod_of_nonneg (by omega)]; omega
  have d3 : IntKind.u64.wrap (z : Int) = (z : Int) := by rw [IntKind.wrap_u64]; omega
  have d4 : IntKind.u64.wrap (r : Int) = (r : Int) := by rw [IntKind.wrap_u64]; omega
  have hz0 : z = 0 := by omega
  have hrs : r = s := by omega
  subst hz0
  subst hrs
  clear hz hr hs
  go_enter Tryz.func96, Tryz.ntmps96
  go_wp2_with fail
  go_quiet (fail)
  go_wp2_with fail
  go_quiet (fail)
  go_wp2_with fail
  go_ret2
  exact ⟨rfl, bwDrewN (bwDrewN (bwAlloc w _) _) _⟩
theorem rparts_32nt (s : Nat) (hs : 8388608 ≤ s) (hs9 : s < 9223372036854775808) (w : World) : Calls Tryz.prog 96 #[F32t, U s] w fun e w' => e = .returned (.tuple #[U (s - (s / 8388608 - 1) * 8388608), .int .i64 ((-149) + ((s / 8388608 - 1 : Nat) : Int))]) ∧ Below w.heap.size w w' := by
  obtain ⟨z, hz⟩ : ∃ z, z = s / 8388608 := ⟨_, rfl⟩
  obtain ⟨r, hr⟩ : ∃ r, r = s % 8388608 := ⟨_, rfl⟩
  have d1 : (s : Int).tdiv 8388608 = (z : Int) := by rw [Int.tdiv_eq_ediv_of_nonneg (by omega)]; omega
  have d2 : (s : Int).tmod 8388608 = (r : Int) := by rw [Int.tmod_eq_emod_of_nonneg (by omega)]; omega
  have d3 : IntKind.u64.wrap (z : Int) = (z : Int) := by rw [IntKind.wrap_u64]; omega
  have d4 : IntKind.u64.wrap (r : Int) = (r : Int) := by rw [IntKind.wrap_u64]; omega
  have hzb : ((z : Int) == 0) = false := by simp; omega
  obtain ⟨y, hy⟩ : ∃ y, y = s - (z - 1) * 8388608 := ⟨_, rfl⟩
  obtain ⟨x, hx⟩ : ∃ x : Int, x = (-149) + ((z - 1 : Nat) : Int) := ⟨_, rfl⟩
  obtain ⟨x1, hx1⟩ : ∃ x1 : Int, x1 = (-149) + (z : Int) := ⟨_, rfl⟩
  rw [← hz, ← hy, ← hx]
  have d5 : IntKind.u64.wrap (8388608 + (r : Int)) = (y : Int) := by rw [IntKind.wrap_u64]; omega
  have d6 : IntKind.i64.wrap (z : Int) = (z : Int) := by simp [IntKind.wrap, IntKind.signed, IntKind.bits]; omega
  have d7 : IntKind.i64.wrap ((-149) + (z : Int)) = x1 := by rw [hx1]; simp [IntKind.wrap, IntKind.signed, IntKind.bits]; omega
  have d8 : IntKind.i64.wrap (x1 - 1) = x := by simp [IntKind.wrap, IntKind.signed, IntKind.bits]; omega
  clear hz hr hs hs9 hy hx hx1
  go_enter Tryz.func96, Tryz.ntmps96
  go_wp2_with fail
  go_quiet (fail)
  go_wp2_with fail
  go_quiet (fail)
  go_wp2_with fail
  go_ret2
  exact ⟨rfl, bwDrewN (bwDrewN (bwAlloc w _) _) _⟩
theorem rparts_64nt (s : Nat) (hs : 4503599627370496 ≤ s) (hs9 : s < 9223372036854775808) (w : World) : Calls Tryz.prog 96 #[F64t, U s] w fun e w' => e = .returned (.tuple #[U (s - (s / 4503599627370496 - 1) * 4503599627370496), .int .i64 ((-1074) + ((s / 4503599627370496 - 1 : Nat) : Int))]) ∧ Below w.heap.size w w' := by
  obtain ⟨z, hz⟩ : ∃ z, z = s / 4503599627370496 := ⟨_, rfl⟩
  obtain ⟨r, hr⟩ : ∃ r, r = s % 4503599627370496 := ⟨_, rfl⟩
  have d1 : (s : Int).tdiv 4503599627370496 = (z : Int) := by rw [Int.tdiv_eq_ediv_of_nonneg (by omega)]; omega
  have d2 : (s : Int).tmod 4503599627370496 = (r : Int) := by rw [Int.tmod_eq_emod_of_nonneg (by omega)]; omega
  have d3 : IntKind.u64.wrap (z : Int) = (z : Int) := by rw [IntKind.wrap_u64]; omega
  have d4 : IntKind.u64.wrap (r : Int) = (r : Int) := by rw [IntKind.wrap_u64]; omega
  have hzb : ((z : Int) == 0) = false := by simp; omega
  obtain ⟨y, hy⟩ : ∃ y, y = s - (z - 1) * 4503599627370496 := ⟨_, rfl⟩
  obtain ⟨x, hx⟩ : ∃ x : Int, x = (-1074) + ((z - 1 : Nat) : Int) := ⟨_, rfl⟩
  obtain ⟨x1, hx1⟩ : ∃ x1 : Int, x1 = (-1074) + (z : Int) := ⟨_, rfl⟩
  rw [← hz, ← hy, ← hx]
  have d5 : IntKind.u64.wrap (4503599627370496 + (r : Int)) = (y : Int) := by rw [IntKind.wrap_u64]; omega
  have d6 : IntKind.i64.wrap (z : Int) = (z : Int) := by simp [IntKind.wrap, IntKind.signed, IntKind.bits]; omega
  have d7 : IntKind.i64.wrap ((-1074) + (z : Int)) = x1 := by rw [hx1]; simp [IntKind.wrap, IntKind.signed, IntKind.bits]; omega
  have d8 : IntKind.i64.wrap (x1 - 1) = x := by simp [IntKind.wrap, IntKind.signed, IntKind.bits]; omega
  clear hz hr hs hs9 hy hx hx1
  go_enter Tryz.func96, Tryz.ntmps96
  go_wp2_with fail
  go_quiet (fail)
  go_wp2_with fail
  go_quiet (fail)
  go_wp2_with fail
  go_ret2
  exact ⟨rfl, bwDrewN (bwDrewN (bwAlloc w _) _) _⟩
theorem rparts_640t (s : Nat) (hs : s < 4503599627370496) (w : World) : Calls Tryz.prog 96 #[F64t, U s] w fun e w' => e = .returned (.tuple #[U s, .int .i64 (-1074)]) ∧ Below w.heap.size w w' := by
  obtain ⟨z, hz⟩ : ∃ z, z = s / 4503599627370496 := ⟨_, rfl⟩
  obtain ⟨r, hr⟩ : ∃ r, r = s % 4503599627370496 := ⟨_, rfl⟩
  have d1 : (s : Int).tdiv 4503599627370496 = (z : Int) := by rw [Int.tdiv_eq_ediv_of_nonneg (by omega)]; omega
  have d2 : (s : Int).tmod 4503599627370496 = (r : Int) := by rw [Int.tmod_eq_emod_of_nonneg (by omega)]; omega
  have d3 : IntKind.u64.wrap (z : Int) = (z : Int) := by rw [IntKind.wrap_u64]; omega
  have d4 : IntKind.u64.wrap (r : Int) = (r : Int) := by rw [IntKind.wrap_u64]; omega
  have hz0 : z = 0 := by omega
  have hrs : r = s := by omega
  subst hz0
  subst hrs
  clear hz hr hs
  go_enter Tryz.func96, Tryz.ntmps96
  go_wp2_with fail
  go_quiet (fail)
  go_wp2_with fail
  go_quiet (fail)
  go_wp2_with fail
  go_ret2
  exact ⟨rfl, bwDrewN (bwDrewN (bwAlloc w _) _) _⟩
theorem rparts_all64 (s : Nat) (hs9 : s < 9223372036854775808) (w : World) : Calls Tryz.prog 96 #[F64t, U s] w fun e w' => e = .returned (.tuple #[U (s - (s / 4503599627370496 - 1) * 4503599627370496), .int .i64 ((-1074) + ((s / 4503599627370496 - 1 : Nat) : Int))]) ∧ Below w.heap.size w w' := by
  by_cases h : s < 4503599627370496
  · have h1 : s / 4503599627370496 = 0 := Nat.div_eq_of_lt h
    rw [h1, show 0 - 1 = 0 from rfl, Nat.zero_mul, Nat.sub_zero, show ((-1074 : Int) + ((0 : Nat) : Int)) = -1074 from rfl]
    exact rparts_640t s h w
  · exact rparts_64nt s (by omega) (by omega) w
theorem rparts_all32 (s : Nat) (hs9 : s < 2147483648) (w : World) : Calls Tryz.prog 96 #[F32t, U s] w fun e w' => e = .returned (.tuple #[U (s - (s / 8388608 - 1) * 8388608), .int .i64 ((-149) + ((s / 8388608 - 1 : Nat) : Int))]) ∧ Below w.heap.size w w' := by
  by_cases h : s < 8388608
  · have h1 : s / 8388608 = 0 := Nat.div_eq_of_lt h
    rw [h1, show 0 - 1 = 0 from rfl, Nat.zero_mul, Nat.sub_zero, show ((-149 : Int) + ((0 : Nat) : Int)) = -149 from rfl]
    exact rparts_320t s h w
  · exact rparts_32nt s (by omega) (by omega) w
theorem zr_len9 {w : World} {s : Bool} {p : Option Addr} {m : Nat} {z : Int} (h : ZR w s p m z) {L : Nat} (hL : z.natAbs < 2 ^ L) : m ≤ L := by
  obtain ⟨zs, hA, hN⟩ := h.ex
  have h1 := (hN.len_le B32_one (k := L)).2 (Nat.lt_of_lt_of_le hL (Nat.pow_le_pow_left (by decide) L))
  rw [hA.len] at h1
  exact h1
theorem GotR.len9 {B : Nat} {w : World} {v : Value} {z : Int} {L L' : Nat} (h : GotR B w v z L) (hL : z.natAbs < 2 ^ L') : GotR B w v z L' := by
  obtain ⟨s, g, m, h1, h2, h3, _⟩ := h
  exact ⟨s, g, m, h1, h2, h3, zr_len9 h3 hL⟩
theorem svS_lt {S H : Nat} (b : Nat) {L a c : Nat} (hH : H ≤ 2 ^ a) (h0 : 0 < H) (hS : S ≤ c * H) (hS0 : 0 < S) (hL : a + c ≤ L) : (svS S H b).natAbs < 2 ^ L := by
  rw [svS_eq]
  have h1 : (if S ≤ b then -(vs H (b % S) : Int) else (vs H (b % S) : Int)).natAbs = vs H (b % S) := by split <;> omega
  rw [h1]
  have h2 : b % S < c * H := Nat.lt_of_lt_of_le (Nat.mod_lt _ hS0) hS
  have h3 : b % S / H < c := (Nat.div_lt_iff_lt_mul h0).2 h2
  have e1 := Nat.div_add_mod (b % S) H
  have e2 := Nat.mod_lt (b % S) h0
  rw [Nat.mul_comm] at e1
  have h4 : b % S - (b % S / H - 1) * H < 2 * H := by
    by_cases e3 : b % S / H = 0
    · rw [e3] at e1 ⊢; omega
    · rw [Nat.sub_mul]; omega
  unfold vs
  have h5 : 2 ^ (b % S / H - 1) ≤ 2 ^ (c - 1) := Nat.pow_le_pow_right (by decide) (by generalize b % S / H = t at h3 ⊢; omega)
  have h6 : 0 < 2 ^ (b % S / H - 1) := Nat.two_pow_pos _
  refine Nat.lt_of_lt_of_le (Nat.mul_lt_mul_of_pos_right h4 h6) (Nat.le_trans (Nat.mul_le_mul (Nat.mul_le_mul_left 2 hH) h5) ?_)
  rw [← Nat.pow_succ', ← Nat.pow_add]
  have h7 : 1 ≤ c := Nat.lt_of_le_of_lt (Nat.zero_le _) h3
  exact Nat.pow_le_pow_right (by decide) (by omega)
theorem rwhole_64 {b : Nat} (w : World) :
    Calls Tryz.prog 138 #[FV 9223372036854775808 53 (-1074) 971 9218868437227405312 9221120237041090561, U b] w fun en w' => ∃ v, en = .returned v ∧ GotR w.heap.size w' v (svS 9223372036854775808 4503599627370496 b) 2200 ∧ Below w.heap.size w w' := by
  obtain ⟨q, hq⟩ : ∃ q, q = b % 9223372036854775808 / 4503599627370496 - 1 := ⟨_, rfl⟩
  obtain ⟨man, hman⟩ : ∃ man, man = b % 9223372036854775808 - q * 4503599627370496 := ⟨_, rfl⟩
  obtain ⟨neg, hneg⟩ : ∃ neg, neg = decide (9223372036854775808 ≤ b) := ⟨_, rfl⟩
  obtain ⟨s, hs⟩ : ∃ s, s = b % 9223372036854775808 := ⟨_, rfl⟩
  have hv : iv neg (man * 2 ^ q) = svS 9223372036854775808 4503599627370496 b := by
    rw [svS_eq, hneg, show vs 4503599627370496 (b % 9223372036854775808) = man * 2 ^ q from by unfold vs; rw [← hq, ← hman]]
    by_cases h : 9223372036854775808 ≤ b
    · rw [if_pos h, decide_eq_true h]; rfl
    · rw [if_neg h, decide_eq_false h]; rfl
  have hq9 : q ≤ 2048 := by omega
  have e1 : IntKind.i64.wrap ((-1074 : Int) + (q : Int) - (-1074)) = (q : Int) := by simp [IntKind.wrap, IntKind.signed, IntKind.bits]; omega
  obtain ⟨ex, hex⟩ : ∃ ex : Int, ex = (-1074 : Int) + (q : Int) := ⟨_, rfl⟩
  rw [← hex] at e1
  have e2 : wrap64 (ex + 1074) = (q : Int) := by rw [hex]; simp only [wrap64]; omega
  have e3 : IntKind.i64.wrap (ex + 1074) = (q : Int) := by rw [hex]; simp [IntKind.wrap, IntKind.signed, IntKind.bits]; omega
  have HV : Hid (iv neg (man * 2 ^ q) = svS 9223372036854775808 4503599627370496 b ∧ q ≤ 2048 ∧ man < B64 ∧ b % 9223372036854775808 = s ∧ decide (9223372036854775808 ≤ b) = neg ∧ s < 9223372036854775808 ∧ s / 4503599627370496 - 1 = q ∧ s - q * 4503599627370496 = man ∧ (-1074 : Int) + (q : Int) = ex) := ⟨hv, hq9, by rw [B64_eq]; omega, hs.symm, hneg.symm, by omega, by rw [hs]; exact hq.symm, by rw [hs]; exact hman.symm, hex.symm⟩
  clear hq hman hneg hs hv hq9 hex
  go_enter Tryz.func138, Tryz.ntmps138
  go_wp2_with fail
  obtain ⟨W0, hW0⟩ : ∃ W0, W0 = ((w.alloc (.cells #[U 9223372036854775808, .int .i64 53, .int .i64 (-1074), .int .i64 971, U 9218868437227405312, U 9221120237041090561] 126)).alloc (.cells #[.bool false, .slice none 0 0] 104)) := ⟨_, rfl⟩
  have Xk : Hid (B6q W0 (w.heap.size) (U 9223372036854775808) (.int .i64 53) (.int .i64 (-1074)) (.int .i64 971) (U 9218868437227405312) (U 9221120237041090561)) := by rw [hW0]; exact ⟨by go_simp, by go_simp, by go_simp, by go_simp, by go_simp, by go_simp, by go_simp, by go_simp, by go_simp, by go_simp, by go_simp, by go_simp⟩
  have Xr : Hid (Box W0 (w.heap.size + 1) (.bool false) (.slice none 0 0)) := by rw [hW0]; exact ⟨by go_simp, by go_simp, by go_simp, by go_simp⟩
  have hb0 : Below w.heap.size w W0 := by rw [hW0]; exact below2 w _ _
  rw [← hW0]
  clear hW0
  have hbw : Below w.heap.size w w := Below.refl _ _
  obtain ⟨gr, hgr⟩ : ∃ g, g = w.heap.size + 1 := ⟨_, rfl⟩
  have HGr : Hid (w.heap.size ≤ gr) := by rw [hgr]; show _ ≤ _; omega
  rw [← hgr] at Xr
  try rw [← hgr]
  obtain ⟨gk, hgk⟩ : ∃ g, g = w.heap.size := ⟨_, rfl⟩
  have HGk : Hid (w.heap.size ≤ gk) := by rw [hgk]; show _ ≤ _; omega
  rw [← hgk] at Xk
  try rw [← hgk]
  have HGD : Hid (gk ≠ gr ∧ gr ≠ gk) := by rw [hgk, hgr]; exact ⟨by omega, by omega⟩
  clear hgk hgr
  replace hbw := Below.on hbw hb0
  clear hb0
  refine (cut_any (by decide) (by decide) b _).mono ?_
  rintro e v1 ⟨rfl, hb1⟩
  rw [HV.out.2.2.2.1, HV.out.2.2.2.2.1]
  replace Xk : Hid _ := Xk.out.below hb1
  replace Xr : Hid _ := Xr.out.below hb1
  replace hbw := Below.on hbw hb1
  clear hb1
  obtain ⟨ck0, ck1, ck2, ck3, ck4, ck5, fk0, fk1, fk2, fk3, fk4, fk5⟩ := Xk.out
  have hnek : gk < v1.heap.size := World.block_lt_of_cell? v1 _ ck0
  go_wp2_with fail
  clear ck0 ck1 ck2 ck3 ck4 ck5 fk0 fk1 fk2 fk3 fk4 fk5 hnek
  refine (rparts_all64 s HV.out.2.2.2.2.2.1 _).mono ?_
  rintro e v2 ⟨rfl, hb2⟩
  rw [HV.out.2.2.2.2.2.2.1, HV.out.2.2.2.2.2.2.2.1, HV.out.2.2.2.2.2.2.2.2]
  replace Xk : Hid _ := Xk.out.below hb2
  replace Xr : Hid _ := Xr.out.below hb2
  replace hbw := Below.on hbw hb2
  clear hb2
  obtain ⟨ck0, ck1, ck2, ck3, ck4, ck5, fk0, fk1, fk2, fk3, fk4, fk5⟩ := Xk.out
  have hnek : gk < v2.heap.size := World.block_lt_of_cell? v2 _ ck0
  go_wp2_with fail
  clear ck0 ck1 ck2 ck3 ck4 ck5 fk0 fk1 fk2 fk3 fk4 fk5 hnek
  obtain ⟨W1, hW1⟩ : ∃ W1, W1 = v2.drew := ⟨_, rfl⟩
  have hbd : Below v2.heap.size v2 W1 := by rw [hW1]; exact bDrew1 (Below.refl _ _)
  replace Xk : Hid _ := Xk.out.below hbd
  replace Xr : Hid _ := Xr.out.below hbd
  replace hbw := Below.on hbw hbd
  clear hbd
  have HJ : Hid ((fun W' : World => W'.cell? ⟨gk, 2, none⟩ = some (.int .i64 (-1074)) ∧ W'.cell? ⟨gk, 1, none⟩ = some (.int .i64 53)) W1) := ⟨Xk.out.c2, Xk.out.c1⟩
  refine wp_region_J (fun W' => W'.cell? ⟨gk, 2, none⟩ = some (.int .i64 (-1074)) ∧ W'.cell? ⟨gk, 1, none⟩ = some (.int .i64 53)) (by kernel_rfl) ?_
  rw [← hW1]
  clear hW1
  refine wpJ_tq 0 rfl HJ.out ?_
  refine wpJ_tq 1 rfl HJ.out ?_
  refine wpJ_tq 3 rfl HJ.out ?_
  refine wpJ_tq 4 rfl HJ.out ?_
  refine wpJ_tq 5 rfl HJ.out ?_
  refine wpJ_tq 6 rfl HJ.out ?_
  refine wpJ_on 2 rfl fun KJ hK => ?_
  go_simp
  refine (rword man HV.out.2.2.1 _).mono ?_
  rintro e v5 ⟨g5, z5, rfl, hl5, hA5, hN5, hb5⟩
  replace Xk : Hid _ := Xk.out.below hb5
  replace Xr : Hid _ := Xr.out.below hb5
  replace hbw := Below.on hbw hb5
  clear hb5
  have A5 : Hid (At32 v5 (some ⟨g5, 0, none⟩) z5.length z5.length z5) := hA5
  have N5 : Hid (Nf B32 z5 man ∧ z5.length ≤ 2) := ⟨hN5, hl5⟩
  clear hA5 hN5 hl5
  obtain ⟨l5, hl5⟩ : ∃ l5, l5 = z5.length := ⟨_, rfl⟩
  rw [← hl5] at A5 N5 ⊢
  clear hl5
  refine hK _ _ ⟨Xk.out.c2, Xk.out.c1⟩ ?_
  clear hK
  refine wpJ_on 7 rfl fun KJ hK => ?_
  go_simp
  refine (rshl_all A5.out N5.out.1 (by have := N5.out.2; omega) q (.inl (by have := HV.out.2.1; omega))).mono ?_
  rintro e v6 ⟨p6, m6, z6, rfl, hA6, hN6, hm6, hb6⟩
  replace Xk : Hid _ := Xk.out.below hb6
  replace Xr : Hid _ := Xr.out.below hb6
  replace A5 : Hid _ := A5.out.below hb6
  replace hbw := Below.on hbw hb6
  clear hb6
  clear A5
  have A6 : Hid (At32 v6 p6 m6 m6 z6) := hA6
  have N6 : Hid (Nf B32 z6 (man * 2 ^ q) ∧ m6 ≤ 40000) := ⟨hN6, hm6⟩
  clear hA6 hN6 hm6 N5
  refine hK _ _ ⟨Xk.out.c2, Xk.out.c1⟩ ?_
  clear hK
  have HRL : Hid (gr < v6.heap.size ∧ w.heap.size ≤ v6.heap.size) := ⟨Xr.out.lt, hbw.size⟩
  refine wpJ_on 8 rfl fun KJ hK => ?_
  go_simp
  refine (rmk_any neg A6.out N6.out.1 (by have := N6.out.2; omega)).mono ?_
  rintro e v7 ⟨v, rfl, hv, hb7⟩
  rw [HV.out.1] at hv
  obtain ⟨LL, hLL⟩ : ∃ LL : Nat, LL = 2200 := ⟨_, rfl⟩
  obtain ⟨s7, g7, m7, rfl, hg7, hz7, hl7⟩ := hv.len9 (L' := LL) (svS_lt b (a := 52) (c := 2048) (by decide) (by decide) (by decide) (by decide) (by omega))
  rw [hLL] at hl7
  clear hLL
  have HN7 : Hid (v6.heap.size ≤ g7) := hg7
  replace Xk : Hid _ := Xk.out.below hb7
  replace Xr : Hid _ := Xr.out.below hb7
  replace A6 : Hid _ := A6.out.below hb7
  replace hbw := Below.on hbw hb7
  clear hb7
  clear A6
  have Z7 : Hid (ZR v7 s7 (some ⟨g7, 0, none⟩) m7 (svS 9223372036854775808 4503599627370496 b)) := hz7
  have HL7 : Hid (m7 ≤ 2200) := hl7
  clear hv hg7 hz7 hl7 N6
  refine hK _ _ ⟨Xk.out.c2, Xk.out.c1⟩ ?_
  clear hK
  obtain ⟨cr0, cr1, fr0, fr1⟩ := Xr.out
  have hner := Xr.out.lt
  obtain ⟨ck0, ck1, ck2, ck3, ck4, ck5, fk0, fk1, fk2, fk3, fk4, fk5⟩ := Xk.out
  have hnek : gk < v7.heap.size := World.block_lt_of_cell? v7 _ ck0
  obtain ⟨hgd0, hgd1⟩ := HGD.out
  refine wpJ_on 9 rfl fun KJ hK => ?_
  go_simp
  have HJ2 : Hid ((fun W' : World => W'.cell? ⟨gk, 2, none⟩ = some (.int .i64 (-1074)) ∧ W'.cell? ⟨gk, 1, none⟩ = some (.int .i64 53)) ((v7.setCell ⟨gr, 0, none⟩ (.bool s7)).setCell ⟨gr, 1, none⟩ (.slice (some ⟨g7, 0, none⟩) m7 m7))) := ⟨by go_simp, by go_simp⟩
  refine hK _ _ HJ2.out ?_
  clear hK HJ
  have HJ := HJ2
  clear HJ2
  refine wpJ_done (by kernel_rfl) ?_ _
  clear HJ
  go_wp2_with fail
  refine bodyPost_ret (v := .agg #[.bool s7, .slice (some ⟨g7, 0, none⟩) m7 m7]) (by rw [results_cell1 rfl]; go_simp) rfl ⟨_, rfl, ⟨s7, g7, m7, rfl, Nat.le_trans HRL.out.2 HN7.out, ?_, HL7.out⟩, ?_⟩
  · have := HN7.out; have := HRL.out.1
    exact (Z7.out.set _ _ _ (by omega)).set _ _ _ (by omega)
  · exact bSet (bSet hbw _ _ _ HGr.out) _ _ _ HGr.out
theorem rwhole_32 {b : Nat} (w : World) :
    Calls Tryz.prog 138 #[FV 2147483648 24 (-149) 104 2139095040 2143289345, U b] w fun en w' => ∃ v, en = .returned v ∧ GotR w.heap.size w' v (svS 2147483648 8388608 b) 2200 ∧ Below w.heap.size w w' := by
  obtain ⟨q, hq⟩ : ∃ q, q = b % 2147483648 / 8388608 - 1 := ⟨_, rfl⟩
  obtain ⟨man, hman⟩ : ∃ man, man = b % 2147483648 - q * 8388608 := ⟨_, rfl⟩
  obtain ⟨neg, hneg⟩ : ∃ neg, neg = decide (2147483648 ≤ b) := ⟨_, rfl⟩
  obtain ⟨s, hs⟩ : ∃ s, s = b % 2147483648 := ⟨_, rfl⟩
  have hv : iv neg (man * 2 ^ q) = svS 2147483648 8388608 b := by
    rw [svS_eq, hneg, show vs 8388608 (b % 2147483648) = man * 2 ^ q from by unfold vs; rw [← hq, ← hman]]
    by_cases h : 2147483648 ≤ b
    · rw [if_pos h, decide_eq_true h]; rfl
    · rw [if_neg h, decide_eq_false h]; rfl
  have hq9 : q ≤ 256 := by omega
  have e1 : IntKind.i64.wrap ((-149 : Int) + (q : Int) - (-149)) = (q : Int) := by simp [IntKind.wrap, IntKind.signed, IntKind.bits]; omega
  obtain ⟨ex, hex⟩ : ∃ ex : Int, ex = (-149 : Int) + (q : Int) := ⟨_, rfl⟩
  rw [← hex] at e1
  have e2 : wrap64 (ex + 149) = (q : Int) := by rw [hex]; simp only [wrap64]; omega
  have e3 : IntKind.i64.wrap (ex + 149) = (q : Int) := by rw [hex]; simp [IntKind.wrap, IntKind.signed, IntKind.bits]; omega
  have HV : Hid (iv neg (man * 2 ^ q) = svS 2147483648 8388608 b ∧ q ≤ 256 ∧ man < B64 ∧ b % 2147483648 = s ∧ decide (2147483648 ≤ b) = neg ∧ s < 2147483648 ∧ s / 8388608 - 1 = q ∧ s - q * 8388608 = man ∧ (-149 : Int) + (q : Int) = ex) := ⟨hv, hq9, by rw [B64_eq]; omega, hs.symm, hneg.symm, by omega, by rw [hs]; exact hq.symm, by rw [hs]; exact hman.symm, hex.symm⟩
  clear hq hman hneg hs hv hq9 hex
  go_enter Tryz.func138, Tryz.ntmps138
  go_wp2_with fail
  obtain ⟨W0, hW0⟩ : ∃ W0, W0 = ((w.alloc (.cells #[U 2147483648, .int .i64 24, .int .i64 (-149), .int .i64 104, U 2139095040, U 2143289345] 126)).alloc (.cells #[.bool false, .slice none 0 0] 104)) := ⟨_, rfl⟩
  have Xk : Hid (B6q W0 (w.heap.size) (U 2147483648) (.int .i64 24) (.int .i64 (-149)) (.int .i64 104) (U 2139095040) (U 2143289345)) := by rw [hW0]; exact ⟨by go_simp, by go_simp, by go_simp, by go_simp, by go_simp, by go_simp, by go_simp, by go_simp, by go_simp, by go_simp, by go_simp, by go_simp⟩
  have Xr : Hid (Box W0 (w.heap.size + 1) (.bool false) (.slice none 0 0)) := by rw [hW0]; exact ⟨by go_simp, by go_simp, by go_simp, by go_simp⟩
  have hb0 : Below w.heap.size w W0 := by rw [hW0]; exact below2 w _ _
  rw [← hW0]
  clear hW0
  have hbw : Below w.heap.size w w := Below.refl _ _
  obtain ⟨gr, hgr⟩ : ∃ g, g = w.heap.size + 1 := ⟨_, rfl⟩
  have HGr : Hid (w.heap.size ≤ gr) := by rw [hgr]; show _ ≤ _; omega
  rw [← hgr] at Xr
  try rw [← hgr]
  obtain ⟨gk, hgk⟩ : ∃ g, g = w.heap.size := ⟨_, rfl⟩
  have HGk : Hid (w.heap.size ≤ gk) := by rw [hgk]; show _ ≤ _; omega
  rw [← hgk] at Xk
  try rw [← hgk]
  have HGD : Hid (gk ≠ gr ∧ gr ≠ gk) := by rw [hgk, hgr]; exact ⟨by omega, by omega⟩
  clear hgk hgr
  replace hbw := Below.on hbw hb0
  clear hb0
  refine (cut_any (by decide) (by decide) b _).mono ?_
  rintro e v1 ⟨rfl, hb1⟩
  rw [HV.out.2.2.2.1, HV.out.2.2.2.2.1]
  replace Xk : Hid _ := Xk.out.below hb1
  replace Xr : Hid _ := Xr.out.below hb1
  replace hbw := Below.on hbw hb1
  clear hb1
  obtain ⟨ck0, ck1, ck2, ck3, ck4, ck5, fk0, fk1, fk2, fk3, fk4, fk5⟩ := Xk.out
  have hnek : gk < v1.heap.size := World.block_lt_of_cell? v1 _ ck0
  go_wp2_with fail
  clear ck0 ck1 ck2 ck3 ck4 ck5 fk0 fk1 fk2 fk3 fk4 fk5 hnek
  refine (rparts_all32 s HV.out.2.2.2.2.2.1 _).mono ?_
  rintro e v2 ⟨rfl, hb2⟩
  rw [HV.out.2.2.2.2.2.2.1, HV.out.2.2.2.2.2.2.2.1, HV.out.2.2.2.2.2.2.2.2]
  replace Xk : Hid _ := Xk.out.below hb2
  replace Xr : Hid _ := Xr.out.below hb2
  replace hbw := Below.on hbw hb2
  clear hb2
  obtain ⟨ck0, ck1, ck2, ck3, ck4, ck5, fk0, fk1, fk2, fk3, fk4, fk5⟩ := Xk.out
  have hnek : gk < v2.heap.size := World.block_lt_of_cell? v2 _ ck0
  go_wp2_with fail
  clear ck0 ck1 ck2 ck3 ck4 ck5 fk0 fk1 fk2 fk3 fk4 fk5 hnek
  obtain ⟨W1, hW1⟩ : ∃ W1, W1 = v2.drew := ⟨_, rfl⟩
  have hbd : Below v2.heap.size v2 W1 := by rw [hW1]; exact bDrew1 (Below.refl _ _)
  replace Xk : Hid _ := Xk.out.below hbd
  replace Xr : Hid _ := Xr.out.below hbd
  replace hbw := Below.on hbw hbd
  clear hbd
  have HJ : Hid ((fun W' : World => W'.cell? ⟨gk, 2, none⟩ = some (.int .i64 (-149)) ∧ W'.cell? ⟨gk, 1, none⟩ = some (.int .i64 24)) W1) := ⟨Xk.out.c2, Xk.out.c1⟩
  refine wp_region_J (fun W' => W'.cell? ⟨gk, 2, none⟩ = some (.int .i64 (-149)) ∧ W'.cell? ⟨gk, 1, none⟩ = some (.int .i64 24)) (by kernel_rfl) ?_
  rw [← hW1]
  clear hW1
  refine wpJ_tq 0 rfl HJ.out ?_
  refine wpJ_tq 1 rfl HJ.out ?_
  refine wpJ_tq 3 rfl HJ.out ?_
  refine wpJ_tq 4 rfl HJ.out ?_
  refine wpJ_tq 5 rfl HJ.out ?_
  refine wpJ_tq 6 rfl HJ.out ?_
  refine wpJ_on 2 rfl fun KJ hK => ?_
  go_simp
  refine (rword man HV.out.2.2.1 _).mono ?_
  rintro e v5 ⟨g5, z5, rfl, hl5, hA5, hN5, hb5⟩
  replace Xk : Hid _ := Xk.out.below hb5
  replace Xr : Hid _ := Xr.out.below hb5
  replace hbw := Below.on hbw hb5
  clear hb5
  have A5 : Hid (At32 v5 (some ⟨g5, 0, none⟩) z5.length z5.length z5) := hA5
  have N5 : Hid (Nf B32 z5 man ∧ z5.length ≤ 2) := ⟨hN5, hl5⟩
  clear hA5 hN5 hl5
  obtain ⟨l5, hl5⟩ : ∃ l5, l5 = z5.length := ⟨_, rfl⟩
  rw [← hl5] at A5 N5 ⊢
  clear hl5
  refine hK _ _ ⟨Xk.out.c2, Xk.out.c1⟩ ?_
  clear hK
  refine wpJ_on 7 rfl fun KJ hK => ?_
  go_simp
  refine (rshl_all A5.out N5.out.1 (by have := N5.out.2; omega) q (.inl (by have := HV.out.2.1; omega))).mono ?_
  rintro e v6 ⟨p6, m6, z6, rfl, hA6, hN6, hm6, hb6⟩
  replace Xk : Hid _ := Xk.out.below hb6
  replace Xr : Hid _ := Xr.out.below hb6
  replace A5 : Hid _ := A5.out.below hb6
  replace hbw := Below.on hbw hb6
  clear hb6
  clear A5
  have A6 : Hid (At32 v6 p6 m6 m6 z6) := hA6
  have N6 : Hid (Nf B32 z6 (man * 2 ^ q) ∧ m6 ≤ 40000) := ⟨hN6, hm6⟩
  clear hA6 hN6 hm6 N5
  refine hK _ _ ⟨Xk.out.c2, Xk.out.c1⟩ ?_
  clear hK
  have HRL : Hid (gr < v6.heap.size ∧ w.heap.size ≤ v6.heap.size) := ⟨Xr.out.lt, hbw.size⟩
  refine wpJ_on 8 rfl fun KJ hK => ?_
  go_simp
  refine (rmk_any neg A6.out N6.out.1 (by have := N6.out.2; omega)).mono ?_
  rintro e v7 ⟨v, rfl, hv, hb7⟩
  rw [HV.out.1] at hv
  obtain ⟨LL, hLL⟩ : ∃ LL : Nat, LL = 2200 := ⟨_, rfl⟩
  obtain ⟨s7, g7, m7, rfl, hg7, hz7, hl7⟩ := hv.len9 (L' := LL) (svS_lt b (a := 23) (c := 256) (by decide) (by decide) (by decide) (by decide) (by omega))
  rw [hLL] at hl7
  clear hLL
  have HN7 : Hid (v6.heap.size ≤ g7) := hg7
  replace Xk : Hid _ := Xk.out.below hb7
  replace Xr : Hid _ := Xr.out.below hb7
  replace A6 : Hid _ := A6.out.below hb7
  replace hbw := Below.on hbw hb7
  clear hb7
  clear A6
  have Z7 : Hid (ZR v7 s7 (some ⟨g7, 0, none⟩) m7 (svS 2147483648 8388608 b)) := hz7
  have HL7 : Hid (m7 ≤ 2200) := hl7
  clear hv hg7 hz7 hl7 N6
  refine hK _ _ ⟨Xk.out.c2, Xk.out.c1⟩ ?_
  clear hK
  obtain ⟨cr0, cr1, fr0, fr1⟩ := Xr.out
  have hner := Xr.out.lt
  obtain ⟨ck0, ck1, ck2, ck3, ck4, ck5, fk0, fk1, fk2, fk3, fk4, fk5⟩ := Xk.out
  have hnek : gk < v7.heap.size := World.block_lt_of_cell? v7 _ ck0
  obtain ⟨hgd0, hgd1⟩ := HGD.out
  refine wpJ_on 9 rfl fun KJ hK => ?_
  go_simp
  have HJ2 : Hid ((fun W' : World => W'.cell? ⟨gk, 2, none⟩ = some (.int .i64 (-149)) ∧ W'.cell? ⟨gk, 1, none⟩ = some (.int .i64 24)) ((v7.setCell ⟨gr, 0, none⟩ (.bool s7)).setCell ⟨gr, 1, none⟩ (.slice (some ⟨g7, 0, none⟩) m7 m7))) := ⟨by go_simp, by go_simp⟩
  refine hK _ _ HJ2.out ?_
  clear hK HJ
  have HJ := HJ2
  clear HJ2
  refine wpJ_done (by kernel_rfl) ?_ _
  clear HJ
  go_wp2_with fail
  refine bodyPost_ret (v := .agg #[.bool s7, .slice (some ⟨g7, 0, none⟩) m7 m7]) (by rw [results_cell1 rfl]; go_simp) rfl ⟨_, rfl, ⟨s7, g7, m7, rfl, Nat.le_trans HRL.out.2 HN7.out, ?_, HL7.out⟩, ?_⟩
  · have := HN7.out; have := HRL.out.1
    exact (Z7.out.set _ _ _ (by omega)).set _ _ _ (by omega)
  · exact bSet (bSet hbw _ _ _ HGr.out) _ _ _ HGr.out
theorem signed_f {S : Nat} {P E G : Int} {I Q : Nat} (s : Nat) (_hs : S + s < 18446744073709551616) (w : World) :
    Calls Tryz.prog 88 #[FV S P E G I Q, .bool false, U s] w fun en w' => en = .returned (U (s)) ∧ Below w.heap.size w w' := by
  go_enter Tryz.func88, Tryz.ntmps88
  go_wp2_with fail
  go_ret
  exact ⟨rfl, below1 w _⟩
theorem signed_t {S : Nat} {P E G : Int} {I Q : Nat} (s : Nat) (hs : S + s < 18446744073709551616) (w : World) :
    Calls Tryz.prog 88 #[FV S P E G I Q, .bool true, U s] w fun en w' => en = .returned (U (S + s)) ∧ Below w.heap.size w w' := by
  have w1 : IntKind.u64.wrap ((S : Int) + (s : Int)) = ((S + s : Nat) : Int) := ju7 hs rfl
  clear hs
  go_enter Tryz.func88, Tryz.ntmps88
  go_wp2_with fail
  go_ret
  exact ⟨rfl, below1 w _⟩
theorem rl_from {p : Option Addr} {n c : Nat} {xs : List Nat} {w : World} (h : At w p n c xs) (hn : n ≤ 8192) : Calls Tryz.prog 86 #[.slice p n c] w fun e w' => ∃ p' m', e = .returned (.slice p' m' m') ∧ RL w' p' m' (valB B64 xs) ∧ m' ≤ 2 * n ∧ Below w.heap.size w w' := by
  refine (from_any h (by omega)).mono ?_
  rintro e w' ⟨g, zs, rfl, hg, hblk, hnf, hl, hb⟩
  exact ⟨_, _, rfl, ⟨⟨zs, hblk.at_ hnf.dig rfl (by unfold maxLen; omega), hnf⟩, by omega⟩, hl, hb⟩
theorem signed_g {S : Nat} {P E G : Int} {I Q : Nat} (neg : Bool) (s : Nat) (hs : S + s < 18446744073709551616) (w : World) : Calls Tryz.prog 88 #[FV S P E G I Q, .bool neg, U s] w fun en w' => en = .returned (U (if neg then S + s else s)) ∧ Below w.heap.size w w' := by
  cases neg
  · exact signed_f s hs w
  · exact signed_t s hs w
theorem sk_32 : Sk 2147483648 24 (-149) 104 2139095040 2143289345 8388608 := ⟨fun s w hs => rparts_all32 s hs w, by decide, by decide, fun s hs => by omega, by decide⟩
theorem sk_64 : Sk 9223372036854775808 53 (-1074) 971 9218868437227405312 9221120237041090561 4503599627370496 := ⟨fun s w hs => rparts_all64 s hs w, by decide, by decide, fun s hs => by omega, by decide⟩
theorem hold_quo {p1 p2 : Option Addr} {m1 m2 b d : Nat} {E f : Int} (hb : b ≠ 0) (hd : d ≠ 0) (hE : -1074 ≤ E ∧ E ≤ -149) (hf : -2500000 ≤ f ∧ f ≤ 2500000) (hl : m2 ≤ 16000) : HoldF (.agg #[.slice p1 m1 m1, .slice p2 m2 m2, .int .i64 f, .bool false]) (fun t => dN (t * d) (E - 1)) (dN b f) E p1 p2 m1 m2 b d := by
  intro mn t e W p m h1 h2 h3 h4 h5 h6
  have := holdq h1 h2 h3 hb hd e f (by omega) hf ⟨h4, hl⟩
  rwa [show dN (mn * d) e = dN (mn * 2 ^ t * d) (E - 1) by rw [← dN_up (a := mn * d) (t := t) (e := E - 1) (f := e) (by omega) (by omega)]; congr 1; rw [Nat.mul_assoc, Nat.mul_comm d, ← Nat.mul_assoc]] at this
theorem up_quo {d : Nat} {E : Int} (hd : d ≠ 0) : Up fun t => dN (t * d) (E - 1) := fun _ _ h => dN_mono (Nat.mul_lt_mul_of_pos_right h (by omega)) _
theorem dN_zero (e : Int) : dN 0 e = 0 := by unfold dN; rw [Nat.zero_mul]
def NrP (S H I : Nat) (l : Int) (s : Bool) (n : Nat) (e : Int) (en : Ending) : Prop := ∃ Z, en = .returned (.tuple #[U (if s then S + Z else Z), .int .i64 0]) ∧ Trc (fun z => cmpN (dN n e) (dN (hv H z * 1) (l - 1))) I Z
theorem RNz.trc {H : Nat} {l : Int} {I : Nat} {n : Nat} {e : Int} {Z : Nat} (h : RNz H l I (dv (n : Int) e) Z) : Trc (fun z => cmpN (dN n e) (dN (hv H z * 1) (l - 1))) I Z := by
  refine ⟨h.le, fun z hz => ?_⟩
  have h1 := h.lo z hz
  have h2 := h.hi z hz
  have h3 := h.eq z hz
  rw [dN_dv, dN_dv] at h1 h2 h3
  simp only [Nat.mul_one]
  refine ⟨fun h4 => h1 ?_, fun h4 => h2 ?_, fun h4 => h3 ?_⟩
  · have := (cmpN_lt0 _ _).1 h4; omega
  · have := (cmpN_gt0 _ _).1 h4; omega
  · have := (cmpN_eq0 _ _).1 h4; omega
theorem nought8_z {p : Option Addr} {c : Nat} {w : World} {e : Int} {s : Bool} :
    Calls Tryz.prog 60 #[DV s p 0 c e] w fun en w' => en = .returned (.bool true) ∧ Below w.heap.size w w' := by
  go_enter Tryz.func60, Tryz.ntmps60
  go_wp2_with fail
  go_ret
  exact ⟨rfl, below1 w _⟩
theorem docnearest_z {f : Int} {S : Nat} {P E G : Int} {I Q : Nat} (R : Rf f S P E G I Q) {p : Option Addr} {c : Nat} {e : Int} (s : Bool) {xs : List Nat} {w : World} (h : At w p 0 c xs) (hf : formD s xs e = true) :
    Calls Tryz.prog 52 #[.int .i64 f, DV s p 0 c e] w fun en w' => en = .returned (.tuple #[.int .u64 0, .int .i64 0]) ∧ Below w.heap.size w w' := by
  have HR : Hid (Rf f S P E G I Q ∧ formD s xs e = true) := ⟨R, hf⟩
  have HA : Hid (At w p 0 c xs) := h
  clear R h hf
  go_enter Tryz.func52, Tryz.ntmps52
  go_wp2_with fail
  obtain ⟨W0, hW0⟩ : ∃ W0, W0 = (w.alloc (.cells #[.bool s, .slice p 0 c, .int .i64 e] 33)) := ⟨_, rfl⟩
  have Xd : Hid (B3q W0 (w.heap.size) (.bool s) (.slice p 0 c) (.int .i64 e)) := by rw [hW0]; exact ⟨by go_simp, by go_simp, by go_simp, by go_simp, by go_simp, by go_simp⟩
  have hb0 : Below w.heap.size w W0 := by rw [hW0]; exact below1 w _
  rw [← hW0]
  clear hW0
  have hbw : Below w.heap.size w w := Below.refl _ _
  obtain ⟨gd, hgd⟩ : ∃ g, g = w.heap.size := ⟨_, rfl⟩
  have HGd : Hid (w.heap.size ≤ gd) := by rw [hgd]; show _ ≤ _; omega
  rw [← hgd] at Xd
  try rw [← hgd]
  clear hgd
  replace HA : Hid _ := HA.out.below hb0
  replace hbw := Below.on hbw hb0
  clear hb0
  refine (HR.out.1.of _).mono ?_
  rintro e v1 ⟨rfl, hb1⟩
  replace Xd : Hid _ := Xd.out.below hb1
  replace HA : Hid _ := HA.out.below hb1
  replace hbw := Below.on hbw hb1
  clear hb1
  obtain ⟨cd0, cd1, cd2, fd0, fd1, fd2⟩ := Xd.out
  have hned : gd < v1.heap.size := World.block_lt_of_cell? v1 _ cd0
  go_wp2_with fail
  clear cd0 cd1 cd2 fd0 fd1 fd2 hned
  have Xk0 : Hid (B6q (v1.alloc (.cells #[U S, .int .i64 P, .int .i64 E, .int .i64 G, U I, U Q] 126)) v1.heap.size (U S) (.int .i64 P) (.int .i64 E) (.int .i64 G) (U I) (U Q)) := B6q.new v1 _ _ _ _ _ _ _
  have hbn : Below v1.heap.size v1 (v1.alloc (.cells #[U S, .int .i64 P, .int .i64 E, .int .i64 G, U I, U Q] 126)) := below1 v1 _
  generalize v1.alloc (.cells #[U S, .int .i64 P, .int .i64 E, .int .i64 G, U I, U Q] 126) = Wk at *
  have HGk : Hid (w.heap.size ≤ v1.heap.size) := hbw.size
  replace Xd : Hid _ := Xd.out.below hbn
  replace HA : Hid _ := HA.out.below hbn
  replace hbw := Below.on hbw hbn
  clear hbn
  generalize v1.heap.size = gk at *
  have Xk := Xk0
  clear Xk0
  refine (docformd s HA.out).mono ?_
  rintro e v2 ⟨rfl, hb2⟩
  rw [HR.out.2]
  replace Xd : Hid _ := Xd.out.below hb2
  replace Xk : Hid _ := Xk.out.below hb2
  replace HA : Hid _ := HA.out.below hb2
  replace hbw := Below.on hbw hb2
  clear hb2
  obtain ⟨cd0, cd1, cd2, fd0, fd1, fd2⟩ := Xd.out
  have hned : gd < v2.heap.size := World.block_lt_of_cell? v2 _ cd0
  go_wp2_with fail
  clear cd0 cd1 cd2 fd0 fd1 fd2 hned
  refine (nought8_z).mono ?_
  rintro e v3 ⟨rfl, hb3⟩
  replace Xd : Hid _ := Xd.out.below hb3
  replace Xk : Hid _ := Xk.out.below hb3
  replace HA : Hid _ := HA.out.below hb3
  replace hbw := Below.on hbw hb3
  clear hb3
  obtain ⟨cd0, cd1, cd2, fd0, fd1, fd2⟩ := Xd.out
  have hned : gd < v3.heap.size := World.block_lt_of_cell? v3 _ cd0
  go_wp2_with fail
  clear cd0 cd1 cd2 fd0 fd1 fd2 hned
  go_ret2
  refine ⟨rfl, ?_⟩
  first | exact hbw | exact Below.on hbw (below1 _ _)
theorem docnearest_n {f : Int} {S : Nat} {P E G : Int} {I Q H : Nat} (R : Rf f S P E G I Q) (K : Sk S P E G I Q H) {p : Option Addr} {n c : Nat} {e : Int} {s : Bool} {x : Int} {w : World} (h : DN w s p n c e x) (hx : x ≠ 0) :
    Calls Tryz.prog 52 #[.int .i64 f, DV s p n c e] w fun en w' => NrP S H I E s x.natAbs e en ∧ Below w.heap.size w w' := by
  obtain ⟨xs, hX⟩ := h.zn.ex
  have hn0 : 0 < n := by
    rcases Nat.eq_zero_or_pos n with h0 | h0
    · exfalso
      subst h0
      have h1 := hX.nf.val
      rw [List.eq_nil_of_length_eq_zero hX.at_.len] at h1
      simp [valB] at h1
      omega
    · exact h0
  have he : -1048576 ≤ e ∧ e ≤ 1048576 := by rcases h.fm with ⟨_, h2⟩ | ⟨_, h2, h3⟩ <;> omega
  have HR : Hid (Rf f S P E G I Q ∧ formD s xs e = true ∧ 0 < n ∧ n ≤ 8192 ∧ x.natAbs ≠ 0 ∧ (-1048576 ≤ e ∧ e ≤ 1048576) ∧ valB B64 xs = x.natAbs) := ⟨R, dn_formD h hX, hn0, hX.le, by omega, he, hX.nf.val⟩
  have HK : Hid (Sk S P E G I Q H) := K
  have HA : Hid (At w p n c xs) := hX.at_
  clear R h hx hX hn0 he K
  go_enter Tryz.func52, Tryz.ntmps52
  go_wp2_with fail
  obtain ⟨W0, hW0⟩ : ∃ W0, W0 = (w.alloc (.cells #[.bool s, .slice p n c, .int .i64 e] 33)) := ⟨_, rfl⟩
  have Xd : Hid (B3q W0 (w.heap.size) (.bool s) (.slice p n c) (.int .i64 e)) := by rw [hW0]; exact ⟨by go_simp, by go_simp, by go_simp, by go_simp, by go_simp, by go_simp⟩
  have hb0 : Below w.heap.size w W0 := by rw [hW0]; exact below1 w _
  rw [← hW0]
  clear hW0
  have hbw : Below w.heap.size w w := Below.refl _ _
  obtain ⟨gd, hgd⟩ : ∃ g, g = w.heap.size := ⟨_, rfl⟩
  have HGd : Hid (w.heap.size ≤ gd) := by rw [hgd]; show _ ≤ _; omega
  rw [← hgd] at Xd
  try rw [← hgd]
  clear hgd
  replace HA : Hid _ := HA.out.below hb0
  replace hbw := Below.on hbw hb0
  clear hb0
  refine (HR.out.1.of _).mono ?_
  rintro e v1 ⟨rfl, hb1⟩
  replace Xd : Hid _ := Xd.out.below hb1
  replace HA : Hid _ := HA.out.below hb1
  replace hbw := Below.on hbw hb1
  clear hb1
  obtain ⟨cd0, cd1, cd2, fd0, fd1, fd2⟩ := Xd.out
  have hned : gd < v1.heap.size := World.block_lt_of_cell? v1 _ cd0
  go_wp2_with fail
  clear cd0 cd1 cd2 fd0 fd1 fd2 hned
  have Xk0 : Hid (B6q (v1.alloc (.cells #[U S, .int .i64 P, .int .i64 E, .int .i64 G, U I, U Q] 126)) v1.heap.size (U S) (.int .i64 P) (.int .i64 E) (.int .i64 G) (U I) (U Q)) := B6q.new v1 _ _ _ _ _ _ _
  have hbn : Below v1.heap.size v1 (v1.alloc (.cells #[U S, .int .i64 P, .int .i64 E, .int .i64 G, U I, U Q] 126)) := below1 v1 _
  generalize v1.alloc (.cells #[U S, .int .i64 P, .int .i64 E, .int .i64 G, U I, U Q] 126) = Wk at *
  have HGk : Hid (w.heap.size ≤ v1.heap.size) := hbw.size
  replace Xd : Hid _ := Xd.out.below hbn
  replace HA : Hid _ := HA.out.below hbn
  replace hbw := Below.on hbw hbn
  clear hbn
  generalize v1.heap.size = gk at *
  have Xk := Xk0
  clear Xk0
  refine (docformd s HA.out).mono ?_
  rintro e v2 ⟨rfl, hb2⟩
  rw [HR.out.2.1]
  replace Xd : Hid _ := Xd.out.below hb2
  replace Xk : Hid _ := Xk.out.below hb2
  replace HA : Hid _ := HA.out.below hb2
  replace hbw := Below.on hbw hb2
  clear hb2
  obtain ⟨cd0, cd1, cd2, fd0, fd1, fd2⟩ := Xd.out
  have hned : gd < v2.heap.size := World.block_lt_of_cell? v2 _ cd0
  go_wp2_with fail
  clear cd0 cd1 cd2 fd0 fd1 fd2 hned
  refine (nought5 HR.out.2.2.1).mono ?_
  rintro e v3 ⟨rfl, hb3⟩
  replace Xd : Hid _ := Xd.out.below hb3
  replace Xk : Hid _ := Xk.out.below hb3
  replace HA : Hid _ := HA.out.below hb3
  replace hbw := Below.on hbw hb3
  clear hb3
  obtain ⟨cd0, cd1, cd2, fd0, fd1, fd2⟩ := Xd.out
  have hned : gd < v3.heap.size := World.block_lt_of_cell? v3 _ cd0
  go_wp2_with fail
  clear cd0 cd1 cd2 fd0 fd1 fd2 hned
  obtain ⟨Wr, hWr⟩ : ∃ W1, W1 = v3.drew := ⟨_, rfl⟩
  have hbd : Below v3.heap.size v3 Wr := by rw [hWr]; exact bDrew1 (Below.refl _ _)
  replace Xd : Hid _ := Xd.out.below hbd
  replace Xk : Hid _ := Xk.out.below hbd
  replace HA : Hid _ := HA.out.below hbd
  replace hbw := Below.on hbw hbd
  clear hbd
  have HJ : Hid ((fun W' : World => W'.cell? ⟨gk, 0, none⟩ = some (U S) ∧ W'.cell? ⟨gk, 1, none⟩ = some (.int .i64 P) ∧ W'.cell? ⟨gk, 2, none⟩ = some (.int .i64 E) ∧ W'.cell? ⟨gk, 3, none⟩ = some (.int .i64 G) ∧ W'.cell? ⟨gk, 4, none⟩ = some (U I) ∧ W'.cell? ⟨gk, 5, none⟩ = some (U Q) ∧ W'.cell? ⟨gd, 0, none⟩ = some (.bool s) ∧ W'.cell? ⟨gd, 1, none⟩ = some (.slice p n c) ∧ W'.cell? ⟨gd, 2, none⟩ = some (.int .i64 e)) Wr) := ⟨Xk.out.c0, Xk.out.c1, Xk.out.c2, Xk.out.c3, Xk.out.c4, Xk.out.c5, Xd.out.c0, Xd.out.c1, Xd.out.c2⟩
  refine wp_region_J (fun W' => W'.cell? ⟨gk, 0, none⟩ = some (U S) ∧ W'.cell? ⟨gk, 1, none⟩ = some (.int .i64 P) ∧ W'.cell? ⟨gk, 2, none⟩ = some (.int .i64 E) ∧ W'.cell? ⟨gk, 3, none⟩ = some (.int .i64 G) ∧ W'.cell? ⟨gk, 4, none⟩ = some (U I) ∧ W'.cell? ⟨gk, 5, none⟩ = some (U Q) ∧ W'.cell? ⟨gd, 0, none⟩ = some (.bool s) ∧ W'.cell? ⟨gd, 1, none⟩ = some (.slice p n c) ∧ W'.cell? ⟨gd, 2, none⟩ = some (.int .i64 e)) (by kernel_rfl) ?_
  rw [← hWr]
  clear hWr
  refine wpJ_tq 0 rfl HJ.out ?_
  refine wpJ_tq 1 rfl HJ.out ?_
  refine wpJ_tq 2 rfl HJ.out ?_
  refine wpJ_tq 3 rfl HJ.out ?_
  refine wpJ_tq 6 rfl HJ.out ?_
  go_simp
  refine wpJ_tq 7 rfl HJ.out ?_
  refine wpJ_on 4 rfl fun KJ hK => ?_
  go_simp
  refine (rl_from HA.out HR.out.2.2.2.1).mono ?_
  rintro en v4 ⟨p4, m4, rfl, hn4, hl4, hb4⟩
  rw [HR.out.2.2.2.2.2.2] at hn4
  replace Xd : Hid _ := Xd.out.below hb4
  replace Xk : Hid _ := Xk.out.below hb4
  replace HA : Hid _ := HA.out.below hb4
  replace hbw := Below.on hbw hb4
  clear hb4
  have N4 : Hid (RL v4 p4 m4 x.natAbs) := hn4
  clear hn4 hl4
  refine hK _ _ ⟨Xk.out.c0, Xk.out.c1, Xk.out.c2, Xk.out.c3, Xk.out.c4, Xk.out.c5, Xd.out.c0, Xd.out.c1, Xd.out.c2⟩ ?_
  clear hK
  refine wpJ_on 5 rfl fun KJ hK => ?_
  go_simp
  refine (rl_word 1 (by decide) _).mono ?_
  rintro en v5 ⟨p5, m5, rfl, hn5, hl5, hb5⟩
  replace Xd : Hid _ := Xd.out.below hb5
  replace Xk : Hid _ := Xk.out.below hb5
  replace HA : Hid _ := HA.out.below hb5
  replace N4 : Hid (RL v5 p4 m4 x.natAbs) := N4.out.below hb5
  replace hbw := Below.on hbw hb5
  clear hb5
  have N5 : Hid (RL v5 p5 m5 (1)) := hn5
  have HL5 : Hid (m5 ≤ 2) := hl5
  clear hn5 hl5
  clear HJ
  have HJ : Hid ((fun W' : World => W'.cell? ⟨gk, 0, none⟩ = some (U S) ∧ W'.cell? ⟨gk, 1, none⟩ = some (.int .i64 P) ∧ W'.cell? ⟨gk, 2, none⟩ = some (.int .i64 E) ∧ W'.cell? ⟨gk, 3, none⟩ = some (.int .i64 G) ∧ W'.cell? ⟨gk, 4, none⟩ = some (U I) ∧ W'.cell? ⟨gk, 5, none⟩ = some (U Q) ∧ W'.cell? ⟨gd, 0, none⟩ = some (.bool s) ∧ W'.cell? ⟨gd, 1, none⟩ = some (.slice p n c) ∧ W'.cell? ⟨gd, 2, none⟩ = some (.int .i64 e)) v5) := ⟨Xk.out.c0, Xk.out.c1, Xk.out.c2, Xk.out.c3, Xk.out.c4, Xk.out.c5, Xd.out.c0, Xd.out.c1, Xd.out.c2⟩
  refine hK _ _ HJ.out ?_
  clear hK
  refine wpJ_tq 8 rfl HJ.out ?_
  refine wpJ_on 9 rfl fun KJ hK => ?_
  go_simp
  refine (size_g HK.out N4.out N5.out (up_quo (d := 1) (E := E) (by decide)) (by show dN (0 * 1) (E - 1) ≤ _; rw [Nat.zero_mul, dN_zero]; exact Nat.zero_le _) (hold_quo HR.out.2.2.2.2.1 (by decide) HK.out.lo (by have := HR.out.2.2.2.2.2.1; omega) (by have := HL5.out; omega))).mono ?_
  rintro en v6 ⟨Z, rfl, ht6, hb6⟩
  have HT6 : Hid (Trc (fun z => cmpN (dN x.natAbs e) (dN (hv H z * 1) (E - 1))) I Z) := ht6
  clear ht6
  replace Xd : Hid _ := Xd.out.below hb6
  replace Xk : Hid _ := Xk.out.below hb6
  replace HA : Hid _ := HA.out.below hb6
  replace N4 : Hid (RL v6 p4 m4 x.natAbs) := N4.out.below hb6
  replace N5 : Hid (RL v6 p5 m5 (1)) := N5.out.below hb6
  replace hbw := Below.on hbw hb6
  clear hb6
  clear HJ
  have HJ : Hid ((fun W' : World => W'.cell? ⟨gk, 0, none⟩ = some (U S) ∧ W'.cell? ⟨gk, 1, none⟩ = some (.int .i64 P) ∧ W'.cell? ⟨gk, 2, none⟩ = some (.int .i64 E) ∧ W'.cell? ⟨gk, 3, none⟩ = some (.int .i64 G) ∧ W'.cell? ⟨gk, 4, none⟩ = some (U I) ∧ W'.cell? ⟨gk, 5, none⟩ = some (U Q) ∧ W'.cell? ⟨gd, 0, none⟩ = some (.bool s) ∧ W'.cell? ⟨gd, 1, none⟩ = some (.slice p n c) ∧ W'.cell? ⟨gd, 2, none⟩ = some (.int .i64 e)) v6) := ⟨Xk.out.c0, Xk.out.c1, Xk.out.c2, Xk.out.c3, Xk.out.c4, Xk.out.c5, Xd.out.c0, Xd.out.c1, Xd.out.c2⟩
  refine hK _ _ HJ.out ?_
  clear hK
  refine wpJ_tq 10 rfl HJ.out ?_
  go_simp
  refine wpJ_done (by kernel_rfl) ?_ _
  clear HJ
  obtain ⟨cd0, cd1, cd2, fd0, fd1, fd2⟩ := Xd.out
  have hned : gd < v6.heap.size := World.block_lt_of_cell? v6 _ cd0
  obtain ⟨ck0, ck1, ck2, ck3, ck4, ck5, fk0, fk1, fk2, fk3, fk4, fk5⟩ := Xk.out
  have hnek : gk < v6.heap.size := World.block_lt_of_cell? v6 _ ck0
  go_wp2_with fail
  clear cd0 cd1 cd2 fd0 fd1 fd2 hned
  clear ck0 ck1 ck2 ck3 ck4 ck5 fk0 fk1 fk2 fk3 fk4 fk5 hnek
  refine (signed_g s Z (by have h1 := HT6.out.1; have h2 := HK.out.hI; omega) _).mono ?_
  rintro e v7 ⟨rfl, hb7⟩
  obtain ⟨r, hr⟩ : ∃ r, r = (if s then S + Z else Z) := ⟨_, rfl⟩
  rw [← hr]
  have HRR : Hid (r = (if s then S + Z else Z)) := hr
  clear hr
  replace Xd : Hid _ := Xd.out.below hb7
  replace Xk : Hid _ := Xk.out.below hb7
  replace HA : Hid _ := HA.out.below hb7
  replace N4 : Hid (RL v7 p4 m4 x.natAbs) := N4.out.below hb7
  replace N5 : Hid (RL v7 p5 m5 (1)) := N5.out.below hb7
  replace hbw := Below.on hbw hb7
  clear hb7
  obtain ⟨cd0, cd1, cd2, fd0, fd1, fd2⟩ := Xd.out
  have hned : gd < v7.heap.size := World.block_lt_of_cell? v7 _ cd0
  obtain ⟨ck0, ck1, ck2, ck3, ck4, ck5, fk0, fk1, fk2, fk3, fk4, fk5⟩ := Xk.out
  have hnek : gk < v7.heap.size := World.block_lt_of_cell? v7 _ ck0
  go_wp2_with fail
  clear cd0 cd1 cd2 fd0 fd1 fd2 hned
  clear ck0 ck1 ck2 ck3 ck4 ck5 fk0 fk1 fk2 fk3 fk4 fk5 hnek
  go_ret2
  exact ⟨⟨Z, by rw [← HRR.out]; rfl, HT6.out⟩, hbw⟩
def MkR (z e zo eo er : Int) : Prop := (z = 0 ∧ zo = 0 ∧ eo = 0 ∧ er = 0) ∨
  (z ≠ 0 ∧ ∃ k : Nat, TzIs z.natAbs k ∧ ((-1048576 ≤ e + k ∧ e + k ≤ 1048576 ∧ zo * ((2 ^ k : Nat) : Int) = z ∧ eo = e + k ∧ er = 0) ∨ (¬ (-1048576 ≤ e + k ∧ e + k ≤ 1048576) ∧ zo = 0 ∧ eo = 0 ∧ er = 5)))
theorem MkR.uniq {z e zo eo er zo' eo' er' : Int} (h : MkR z e zo eo er) (k : MkR z e zo' eo' er') : zo = zo' ∧ eo = eo' ∧ er = er' := by
  rcases h with ⟨h0, rfl, rfl, rfl⟩ | ⟨h0, K, hK, h⟩
  · rcases k with ⟨_, rfl, rfl, rfl⟩ | ⟨k0, _⟩
    · exact ⟨rfl, rfl, rfl⟩
    · exact absurd h0 k0
  · rcases k with ⟨k0, _⟩ | ⟨_, L, hL, k⟩
    · exact absurd k0 h0
    · obtain rfl := hK.inj hL
      rcases h with ⟨h1, h2, h3, rfl, rfl⟩ | ⟨h1, rfl, rfl, rfl⟩
      · rcases k with ⟨_, _, k3, rfl, rfl⟩ | ⟨k1, _⟩
        · exact ⟨Int.eq_of_mul_eq_mul_right (pow_pos_int K) (h3.trans k3.symm), rfl, rfl⟩
        · exact absurd ⟨h1, h2⟩ k1
      · rcases k with ⟨k1, k2, _⟩ | ⟨_, rfl, rfl, rfl⟩
        · exact absurd ⟨k1, k2⟩ h1
        · exact ⟨rfl, rfl, rfl⟩
theorem MkR.zero (e : Int) : MkR 0 e 0 0 0 := .inl ⟨rfl, rfl, rfl, rfl⟩
theorem TzIs.zero_of_odd {v : Nat} (h : v % 2 = 1) : TzIs v 0 := ⟨by simp [Nat.mod_one], by simpa using h⟩
theorem MkR.odd {z e : Int} (hz : z % 2 = 1) (he : -1048576 ≤ e ∧ e ≤ 1048576) : MkR z e z e 0 :=
  .inr ⟨by omega, 0, TzIs.zero_of_odd (by omega), .inl ⟨by omega, by omega, by simp, by omega, rfl⟩⟩
theorem MkR.big {z e : Int} (hz : z % 2 = 1) (he : ¬ (-1048576 ≤ e ∧ e ≤ 1048576)) : MkR z e 0 0 5 :=
  .inr ⟨by omega, 0, TzIs.zero_of_odd (by omega), .inr ⟨by omega, rfl, rfl, rfl⟩⟩
theorem MkR.fm {z e zo eo er : Int} (h : MkR z e zo eo er) : DFm zo eo := by
  rcases h with ⟨_, rfl, rfl, _⟩ | ⟨h0, K, hK, ⟨h1, h2, h3, rfl, _⟩ | ⟨_, rfl, rfl, _⟩⟩
  · exact .inl ⟨rfl, rfl⟩
  · refine .inr ⟨?_, h1, h2⟩
    have h4 : zo.natAbs * 2 ^ K = z.natAbs := by
      have := congrArg Int.natAbs h3
      rw [Int.natAbs_mul] at this
      simpa using this
    have h5 := hK.2
    rw [← h4, Nat.mul_div_cancel _ (Nat.two_pow_pos K)] at h5
    omega
  · exact .inl ⟨rfl, rfl⟩
structure DQ (B : Nat) (w : World) (s : Bool) (p : Option Addr) (m c : Nat) (e z : Int) : Prop where
  dn : DN w s p m c e z
  nw : m = 0 ∨ ∃ g, p = some ⟨g, 0, none⟩ ∧ B ≤ g
theorem DQ.below {B : Nat} {w w' : World} {s : Bool} {p : Option Addr} {m c : Nat} {e z : Int} (h : DQ B w s p m c e z) (hb : Below w.heap.size w w') : DQ B w' s p m c e z := ⟨h.dn.below hb, h.nw⟩
theorem DQ.mono {B B' : Nat} {w : World} {s : Bool} {p : Option Addr} {m c : Nat} {e z : Int} (h : DQ B w s p m c e z) (hB : B' ≤ B) : DQ B' w s p m c e z := ⟨h.dn, h.nw.imp id fun ⟨g, h1, h2⟩ => ⟨g, h1, Nat.le_trans hB h2⟩⟩
theorem DN.setOff {w : World} {s : Bool} {p : Option Addr} {m c g o : Nat} {e z : Int} {v : Value} (h : DN w s p m c e z) (hf : m = 0 ∨ ∃ g', p = some ⟨g', 0, none⟩ ∧ g' ≠ g) : DN (w.setCell ⟨g, o, none⟩ v) s p m c e z := by
  obtain ⟨xs, hX⟩ := h.zn.ex
  refine ⟨⟨⟨xs, ?_, hX.nf, hX.le⟩, h.zn.sg⟩, h.fm⟩
  rcases hf with rfl | ⟨g', rfl, hg⟩
  · obtain rfl : xs = [] := List.eq_nil_of_length_eq_zero hX.at_.len
    exact At.empty _ _ _ hX.at_.big
  · exact hX.at_.setOther _ _ _ hg
theorem DQ.set {B : Nat} {w : World} {s : Bool} {p : Option Addr} {m c : Nat} {e z : Int} (h : DQ B w s p m c e z) (g o : Nat) (v : Value) (hg : g < B) : DQ B (w.setCell ⟨g, o, none⟩ v) s p m c e z :=
  ⟨h.dn.setOff (h.nw.imp id fun ⟨g', h1, h2⟩ => ⟨g', h1, by omega⟩), h.nw⟩
theorem DQ.zero (B : Nat) (w : World) : DQ B w false none 0 0 0 0 :=
  ⟨⟨⟨⟨[], At.empty _ _ _ (by decide), Nf.nil _, by omega⟩, rfl⟩, .inl ⟨rfl, rfl⟩⟩, .inl rfl⟩
theorem AnsD.dq {B : Nat} {w' : World} {v : Value} {z e : Int} (h : AnsD B w' v z e) (hf : DFm z e) : ∃ s p m, v = DV s p m m e ∧ DQ B w' s p m m e z := by
  obtain ⟨p, m, zs, rfl, ho, hn, hm⟩ := h
  exact ⟨_, p, m, rfl, ⟨⟨⟨zs, Num.of ho hn hm⟩, rfl⟩, hf⟩, ho.mem.imp id fun ⟨g, e, hg, _⟩ => ⟨g, e, hg⟩⟩
def SaidD (B : Nat) (w' : World) (en : Ending) (z e er : Int) : Prop := ∃ s p m c, en = .returned (.tuple #[DV s p m c e, .int .i64 er]) ∧ DQ B w' s p m c e z
theorem SaidD.err (B : Nat) (w' : World) (er : Int) : SaidD B w' (.returned (.tuple #[DV false none 0 0 0, .int .i64 er])) 0 0 er := ⟨_, _, _, _, rfl, DQ.zero _ _⟩
theorem SaidD.ans {B : Nat} {w' : World} {v : Value} {z e : Int} (h : AnsD B w' v z e) (hf : DFm z e) : SaidD B w' (.returned (.tuple #[v, .int .i64 0])) z e 0 := by
  obtain ⟨s, p, m, rfl, hd⟩ := h.dq hf
  exact ⟨s, p, m, m, rfl, hd⟩
theorem TzO.is {z : Int} {k : Nat} (hz : z ≠ 0) (h : TzO z.natAbs k) : TzIs z.natAbs k := by
  rcases h with ⟨h0, _⟩ | ⟨_, h1, h2⟩
  · omega
  · exact ⟨h1, h2⟩
theorem MakeP.mk {B : Nat} {w' : World} {en : Ending} {z e : Int} (h : MakeP B w' en z e) (he : -4194304 ≤ e) : ∃ zo eo er, SaidD B w' en zo eo er ∧ MkR z e zo eo er := by
  by_cases hz : z = 0
  · subst hz
    obtain ⟨v, rfl, hv⟩ := h.form (.inl ⟨rfl, rfl⟩) (by rw [dv_zero, dv_zero])
    exact ⟨0, 0, 0, SaidD.ans hv (.inl ⟨rfl, rfl⟩), MkR.zero e⟩
  · obtain ⟨k, hk⟩ := TzO.ex z.natAbs
    have hki := hk.is hz
    obtain ⟨h1, h2, _⟩ := tz_split hz hk
    generalize fl (decide (z < 0)) z.natAbs (2 ^ k) = o at *
    by_cases hr : -1048576 ≤ e + k ∧ e + k ≤ 1048576
    · have hf : DFm o (e + k) := .inr ⟨h1, hr⟩
      obtain ⟨v, rfl, hv⟩ := h.form hf (by rw [dv_up k he, h2])
      exact ⟨o, e + k, 0, SaidD.ans hv hf, .inr ⟨hz, k, hki, .inl ⟨hr.1, hr.2, h2, rfl, rfl⟩⟩⟩
    · rcases h with ⟨v, zo, eo, _, _, h5, h6⟩ | ⟨rfl, _⟩
      · exact absurd h6 (make_no hz hk he (by omega) zo eo h5)
      · exact ⟨0, 0, 5, SaidD.err _ _ _, .inr ⟨hz, k, hki, .inr ⟨hr, rfl, rfl, rfl⟩⟩⟩
def OneD (R : Int → Int → Int → Int → Int → Prop) (sx : Bool) (xx : List Nat) (ex zo eo er : Int) : Prop :=
  (formD sx xx ex = false ∧ zo = 0 ∧ eo = 0 ∧ er = 2) ∨ (formD sx xx ex = true ∧ R (iv sx (valB B64 xx)) ex zo eo er)
def TwoD (R : Int → Int → Int → Int → Int → Int → Int → Prop) (sx : Bool) (xx : List Nat) (ex : Int) (sy : Bool) (yy : List Nat) (ey zo eo er : Int) : Prop :=
  ((formD sx xx ex = false ∨ formD sy yy ey = false) ∧ zo = 0 ∧ eo = 0 ∧ er = 2) ∨ (formD sx xx ex = true ∧ formD sy yy ey = true ∧ R (iv sx (valB B64 xx)) ex (iv sy (valB B64 yy)) ey zo eo er)
theorem OneD.uniq {R : Int → Int → Int → Int → Int → Prop} {sx : Bool} {xx : List Nat} {ex zo eo er zo' eo' er' : Int} (hR : ∀ x e a b c a' b' c', R x e a b c → R x e a' b' c' → a = a' ∧ b = b' ∧ c = c')
    (h : OneD R sx xx ex zo eo er) (k : OneD R sx xx ex zo' eo' er') : zo = zo' ∧ eo = eo' ∧ er = er' := by
  rcases h with ⟨h0, rfl, rfl, rfl⟩ | ⟨h0, h⟩ <;> rcases k with ⟨k0, rfl, rfl, rfl⟩ | ⟨k0, k⟩
  · exact ⟨rfl, rfl, rfl⟩
  · simp_all
  · simp_all
  · exact hR _ _ _ _ _ _ _ _ h k
theorem TwoD.uniq {R : Int → Int → Int → Int → Int → Int → Int → Prop} {sx sy : Bool} {xx yy : List Nat} {ex ey zo eo er zo' eo' er' : Int} (hR : ∀ x e y f a b c a' b' c', R x e y f a b c → R x e y f a' b' c' → a = a' ∧ b = b' ∧ c = c')
    (h : TwoD R sx xx ex sy yy ey zo eo er) (k : TwoD R sx xx ex sy yy ey zo' eo' er') : zo = zo' ∧ eo = eo' ∧ er = er' := by
  rcases h with ⟨h0, rfl, rfl, rfl⟩ | ⟨h0, h1, h⟩ <;> rcases k with ⟨k0, rfl, rfl, rfl⟩ | ⟨k0, k1, k⟩
  · exact ⟨rfl, rfl, rfl⟩
  · rcases h0 with h0 | h0 <;> simp_all
  · rcases k0 with k0 | k0 <;> simp_all
  · exact hR _ _ _ _ _ _ _ _ _ _ h k
def MulR (x e y f zo eo er : Int) : Prop := ((x * y).natAbs < LIM ∧ MkR (x * y) (e + f) zo eo er) ∨ (LIM ≤ (x * y).natAbs ∧ zo = 0 ∧ eo = 0 ∧ er = 5)
theorem MulR.uniq (x e y f a b c a' b' c' : Int) (h : MulR x e y f a b c) (k : MulR x e y f a' b' c') : a = a' ∧ b = b' ∧ c = c' := by
  rcases h with ⟨h0, h⟩ | ⟨h0, rfl, rfl, rfl⟩ <;> rcases k with ⟨k0, k⟩ | ⟨k0, rfl, rfl, rfl⟩
  · exact h.uniq k
  · omega
  · omega
  · exact ⟨rfl, rfl, rfl⟩
def ScaleR (n x e zo eo er : Int) : Prop := (x = 0 ∧ zo = 0 ∧ eo = 0 ∧ er = 0) ∨ (x ≠ 0 ∧ ((-1048576 ≤ e + n ∧ e + n ≤ 1048576 ∧ zo = x ∧ eo = e + n ∧ er = 0) ∨ (¬ (-1048576 ≤ e + n ∧ e + n ≤ 1048576) ∧ zo = 0 ∧ eo = 0 ∧ er = 5)))
theorem ScaleR.uniq (n x e a b c a' b' c' : Int) (h : ScaleR n x e a b c) (k : ScaleR n x e a' b' c') : a = a' ∧ b = b' ∧ c = c' := by
  unfold ScaleR at h k; omega
theorem nought_t {p : Option Addr} {c : Nat} {w : World} {e : Int} {s : Bool} :
    Calls Tryz.prog 60 #[DV s p 0 c e] w fun en w' => en = .returned (.bool true) ∧ Below w.heap.size w w' := by
  go_enter Tryz.func60, Tryz.ntmps60
  go_wp2_with fail
  go_ret
  exact ⟨rfl, below1 w _⟩
theorem nought {p : Option Addr} {m c : Nat} {w : World} {e : Int} {s : Bool} :
    Calls Tryz.prog 60 #[DV s p m c e] w fun en w' => en = .returned (.bool (decide (m = 0))) ∧ Below w.heap.size w w' := by
  rcases Nat.eq_zero_or_pos m with h | h
  · subst h; exact nought_t
  · rw [decide_eq_false (by omega)]; exact nought5 h
end Go.Proofs.YtfmbifocgljieaaGreatDoor
