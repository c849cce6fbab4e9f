import Derived.Test.YtkdpafliibclnaaDoorJ12
import Derived.Test.YtkdpafliibclnaaDoorJ13
import Derived.Test.YtkdpafliibclnaaDoorJ9
import Derived.Test.YtkdpafliibclnaaDoorJ8
import Derived.Deep.LoopGhost
import Derived.Shelf.Spec.TrailingZeros
import Derived.Test.YtkdpafliibclnaaDoorJ11
namespace Go.Proofs.YtkdpafliibclnaaDoor
open Go.RowKit Go.Shelf
set_option maxRecDepth 20000
set_option maxHeartbeats 0
def LKd (k : Int) : Prop := k = 2 ∨ k = 3 ∨ k = 8 ∨ k = 9 ∨ k = 10 ∨ k = 11 ∨ k = 12 ∨ k = 13 ∨ k = 14
theorem newa_wa {B : Nat} {w : World} {p : Option Addr} {m c : Nat} {us : List Nat} (h : NewA B w p m c us) : ∃ b, WA7 w p m c b us ∧ (m ≠ 0 → B ≤ b ∧ b < w.heap.size) := by
  by_cases h0 : m = 0
  · exact ⟨0, ⟨h.1, fun h => absurd h0 h⟩, fun h => absurd h0 h⟩
  · obtain ⟨g, e, hg⟩ := h.2.resolve_left h0
    have h1 : WA7 w p m c g us := ⟨h.1, fun _ => e⟩
    exact ⟨g, h1, fun h => ⟨hg, h1.lt h⟩⟩
structure OpA (w : World) (pa : Option Addr) (na ca : Nat) (xa : List Nat) (pb : Option Addr) (nb cb : Nat) (xb : List Nat) (nn : Int) (x : Nat) : Prop where
  a : At w pa na ca xa
  b : At w pb nb cb xb
  na_ : na ≤ 17592186044416
  nb_ : nb ≤ 17592186044416
  nn_ : nn ≤ 9223372036854775807
  x_ : x < B64
theorem OpA.below {w w' : World} {pa : Option Addr} {na ca : Nat} {xa : List Nat} {pb : Option Addr} {nb cb : Nat} {xb : List Nat} {nn : Int} {x : Nat} (h : OpA w pa na ca xa pb nb cb xb nn x) (hb : Below w.heap.size w w') : OpA w' pa na ca xa pb nb cb xb nn x := ⟨h.a.below hb, h.b.below hb, h.na_, h.nb_, h.nn_, h.x_⟩
theorem half_lt {y : Nat} (d : Nat) (hd : 2 ≤ d) (h : y < B64) : y / d + 1 < B64 := by
  have h1 : y / d ≤ y / 2 := Nat.div_le_div_left hd (by decide)
  rw [B64_eq] at h ⊢
  omega
theorem wrh {y d : Nat} (hd : 2 ≤ d) (h : y < B64) : IntKind.u64.wrap (IntKind.u64.wrap ((y : Int) / (d : Int)) + 1) = ((y / d + 1 : Nat) : Int) := by
  have h2 := half_lt d hd h
  rw [B64_eq] at h2
  rw [IntKind.wrap_u64, IntKind.wrap_u64, show (y : Int) / (d : Int) = ((y / d : Nat) : Int) from rfl]
  generalize y / d = z at *
  omega
theorem pw7k {l1 h1 m1 b1 l2 h2 m2 b2 l3 h3 m3 b3 l4 h4 m4 b4 l5 h5 m5 b5 gA gB t nA nB : Nat} {z1 z2 z3 z4 z5 zA zB : List Nat} {p1 p2 p3 p4 p5 pA pB : Option Addr} (H1 : m1 ≠ 0 → l1 ≤ b1 ∧ b1 < h1) (H2 : m2 ≠ 0 → l2 ≤ b2 ∧ b2 < h2) (H3 : m3 ≠ 0 → l3 ≤ b3 ∧ b3 < h3) (H4 : m4 ≠ 0 → l4 ≤ b4 ∧ b4 < h4) (H5 : m5 ≠ 0 → l5 ≤ b5 ∧ b5 < h5) (c1 : h1 ≤ l2) (c2 : h2 ≤ l3) (c3 : h3 ≤ l4) (c4 : h4 ≤ l5) (d1 : l1 ≤ h1) (d2 : l2 ≤ h2) (d3 : l3 ≤ h3) (d4 : l4 ≤ h4) (ht : t ≤ l1) (hA : gA < t) (hB : gB < t) (hAB : gA ≠ gB) :
    ([⟨p1, m1, b1, z1⟩, ⟨p2, m2, b2, z2⟩, ⟨p3, m3, b3, z3⟩, ⟨p4, m4, b4, z4⟩, ⟨p5, m5, b5, z5⟩, ⟨pA, nA, gA, zA⟩, ⟨pB, nB, gB, zB⟩] : List EN7).Pairwise (fun a b => a.n ≠ 0 → b.n ≠ 0 → a.b ≠ b.b) := by
  exact (List.Pairwise.cons (List.forall_mem_cons.2 ⟨(fun h1 h2 => iv7 (H1 h1) (H2 h2) (by omega)), (List.forall_mem_cons.2 ⟨(fun h1 h2 => iv7 (H1 h1) (H3 h2) (by omega)), (List.forall_mem_cons.2 ⟨(fun h1 h2 => iv7 (H1 h1) (H4 h2) (by omega)), (List.forall_mem_cons.2 ⟨(fun h1 h2 => iv7 (H1 h1) (H5 h2) (by omega)), (List.forall_mem_cons.2 ⟨(fun h1 _ => by have := H1 h1; show b1 ≠ gA; omega), (List.forall_mem_cons.2 ⟨(fun h1 _ => by have := H1 h1; show b1 ≠ gB; omega), (fun _ h => absurd h (List.not_mem_nil))⟩)⟩)⟩)⟩)⟩)⟩)
    (List.Pairwise.cons (List.forall_mem_cons.2 ⟨(fun h1 h2 => iv7 (H2 h1) (H3 h2) (by omega)), (List.forall_mem_cons.2 ⟨(fun h1 h2 => iv7 (H2 h1) (H4 h2) (by omega)), (List.forall_mem_cons.2 ⟨(fun h1 h2 => iv7 (H2 h1) (H5 h2) (by omega)), (List.forall_mem_cons.2 ⟨(fun h1 _ => by have := H2 h1; show b2 ≠ gA; omega), (List.forall_mem_cons.2 ⟨(fun h1 _ => by have := H2 h1; show b2 ≠ gB; omega), (fun _ h => absurd h (List.not_mem_nil))⟩)⟩)⟩)⟩)⟩)
    (List.Pairwise.cons (List.forall_mem_cons.2 ⟨(fun h1 h2 => iv7 (H3 h1) (H4 h2) (by omega)), (List.forall_mem_cons.2 ⟨(fun h1 h2 => iv7 (H3 h1) (H5 h2) (by omega)), (List.forall_mem_cons.2 ⟨(fun h1 _ => by have := H3 h1; show b3 ≠ gA; omega), (List.forall_mem_cons.2 ⟨(fun h1 _ => by have := H3 h1; show b3 ≠ gB; omega), (fun _ h => absurd h (List.not_mem_nil))⟩)⟩)⟩)⟩)
    (List.Pairwise.cons (List.forall_mem_cons.2 ⟨(fun h1 h2 => iv7 (H4 h1) (H5 h2) (by omega)), (List.forall_mem_cons.2 ⟨(fun h1 _ => by have := H4 h1; show b4 ≠ gA; omega), (List.forall_mem_cons.2 ⟨(fun h1 _ => by have := H4 h1; show b4 ≠ gB; omega), (fun _ h => absurd h (List.not_mem_nil))⟩)⟩)⟩)
    (List.Pairwise.cons (List.forall_mem_cons.2 ⟨(fun h1 _ => by have := H5 h1; show b5 ≠ gA; omega), (List.forall_mem_cons.2 ⟨(fun h1 _ => by have := H5 h1; show b5 ≠ gB; omega), (fun _ h => absurd h (List.not_mem_nil))⟩)⟩)
    (List.Pairwise.cons (List.forall_mem_cons.2 ⟨(fun _ _ => hAB), (fun _ h => absurd h (List.not_mem_nil))⟩)
    (List.Pairwise.cons (fun _ h => absurd h (List.not_mem_nil))
    List.Pairwise.nil)))))))
theorem keepsK {pa pb pc pd : Option Addr} {na nb ca cb nc nd cc cd : Nat} {xa xb xc xd : List Nat} {nn np : Int} {x y : Nat} {kd kp : Int} {w : World} (ho : OpA w pa na ca xa pb nb cb xb nn x) (hp : OpA w pc nc cc xc pd nd cd xd np y) (hk : LKd kd) (hkp : LKd kp) :
    Calls Tryd.prog 5 #[.agg #[.int .i64 kd, .slice pa na ca, .slice pb nb cb, .int .i64 nn, U x], .agg #[.int .i64 kp, .slice pc nc cc, .slice pd nd cd, .int .i64 np, U y]] w fun en w' => en = .returned (.bool true) ∧ Below w.heap.size w w' := by
  have AO : Hid (OpA w pa na ca xa pb nb cb xb nn x ∧ LKd kd) := ⟨ho, hk⟩
  have AP : Hid (OpA w pc nc cc xc pd nd cd xd np y ∧ LKd kp) := ⟨hp, hkp⟩
  clear ho hp hk hkp
  go_enter Tryd.func5, Tryd.ntmps5
  go_wp2_with fail
  obtain ⟨W0, hW0⟩ : ∃ W0, W0 = ((w.alloc (.cells #[.int .i64 kd, .slice pa na ca, .slice pb nb cb, .int .i64 nn, U x] 26)).alloc (.cells #[.int .i64 kp, .slice pc nc cc, .slice pd nd cd, .int .i64 np, U y] 26)) := ⟨_, rfl⟩
  have Xo : Hid (B5q W0 (w.heap.size) (.int .i64 kd) (.slice pa na ca) (.slice pb nb cb) (.int .i64 nn) (U x)) := by rw [hW0]; exact ⟨by go_simp, by go_simp, by go_simp, by go_simp, by go_simp, by go_simp, by go_simp, by go_simp, by go_simp, by go_simp⟩
  have Xp : Hid (B5q W0 (w.heap.size + 1) (.int .i64 kp) (.slice pc nc cc) (.slice pd nd cd) (.int .i64 np) (U y)) := by rw [hW0]; exact ⟨by go_simp, by go_simp, by go_simp, by go_simp, by go_simp, by go_simp, by go_simp, by go_simp, by go_simp, by go_simp⟩
  have hb0 : Below w.heap.size w W0 := by rw [hW0]; exact below2 w _ _
  rw [← hW0]
  clear hW0
  have hbw : Below w.heap.size w w := Below.refl _ _
  obtain ⟨gp, hgp⟩ : ∃ g, g = w.heap.size + 1 := ⟨_, rfl⟩
  have HGp : Hid (w.heap.size ≤ gp) := by rw [hgp]; show _ ≤ _; omega
  rw [← hgp] at Xp
  try rw [← hgp]
  obtain ⟨go, hgo⟩ : ∃ g, g = w.heap.size := ⟨_, rfl⟩
  have HGo : Hid (w.heap.size ≤ go) := by rw [hgo]; show _ ≤ _; omega
  rw [← hgo] at Xo
  try rw [← hgo]
  have HGD : Hid (go ≠ gp ∧ gp ≠ go) := by rw [hgo, hgp]; exact ⟨by omega, by omega⟩
  clear hgo hgp
  replace hbw := Below.on hbw hb0
  clear hb0
  obtain ⟨co0, co1, co2, co3, co4, fo0, fo1, fo2, fo3, fo4⟩ := Xo.out
  have hneo : go < W0.heap.size := World.block_lt_of_cell? W0 _ co0
  go_wp2_with fail
  clear co0 co1 co2 co3 co4 fo0 fo1 fo2 fo3 fo4 hneo
  refine (docK (AO.out.1.a.below hbw) (AO.out.1.b.below hbw) AO.out.1.na_ nn AO.out.1.nn_ x AO.out.1.x_ AO.out.2).mono ?_
  rintro e v1 ⟨p1, m1, N1, u1, r1, f1, rfl, hA, hR, hb⟩
  obtain ⟨b1, hW, hI⟩ := newa_wa hA
  have R1 : Hid (LsIs kd xa xb nn x u1 r1 f1) := hR
  have I1 : Hid ((m1 ≠ 0 → W0.heap.size ≤ b1 ∧ b1 < v1.heap.size) ∧ W0.heap.size ≤ v1.heap.size) := ⟨hI, hb.size⟩
  have A1 : Hid (WA7 v1 p1 m1 N1 b1 u1) := hW
  clear hA hR hW hI
  replace Xo : Hid _ := Xo.out.below hb
  replace Xp : Hid _ := Xp.out.below hb
  replace hbw := Below.on hbw hb
  clear hb
  obtain ⟨cp0, cp1, cp2, cp3, cp4, fp0, fp1, fp2, fp3, fp4⟩ := Xp.out
  have hnep : gp < v1.heap.size := World.block_lt_of_cell? v1 _ cp0
  go_wp2_with fail
  clear cp0 cp1 cp2 cp3 cp4 fp0 fp1 fp2 fp3 fp4 hnep
  refine (docK (AP.out.1.a.below hbw) (AP.out.1.b.below hbw) AP.out.1.na_ np AP.out.1.nn_ y AP.out.1.x_ AP.out.2).mono ?_
  rintro e v2 ⟨p2, m2, N2, u2, r2, f2, rfl, hA, hR, hb⟩
  obtain ⟨b2, hW, hI⟩ := newa_wa hA
  have R2 : Hid (LsIs kp xc xd np y u2 r2 f2) := hR
  have I2 : Hid ((m2 ≠ 0 → v1.heap.size ≤ b2 ∧ b2 < v2.heap.size) ∧ v1.heap.size ≤ v2.heap.size) := ⟨hI, hb.size⟩
  have A2 : Hid (WA7 v2 p2 m2 N2 b2 u2) := hW
  clear hA hR hW hI
  replace Xo : Hid _ := Xo.out.below hb
  replace Xp : Hid _ := Xp.out.below hb
  replace A1 : Hid (WA7 v2 p1 m1 N1 b1 u1) := A1.out.below hb
  replace hbw := Below.on hbw hb
  clear hb
  obtain ⟨co0, co1, co2, co3, co4, fo0, fo1, fo2, fo3, fo4⟩ := Xo.out
  have hneo : go < v2.heap.size := World.block_lt_of_cell? v2 _ co0
  go_wp2_with fail
  clear co0 co1 co2 co3 co4 fo0 fo1 fo2 fo3 fo4 hneo
  refine (spare_sr (AO.out.1.a.below hbw) AO.out.1.na_).mono ?_
  rintro e v3 ⟨gA, rfl, h1, h2, hS, hb⟩
  have GA : Hid (v2.heap.size ≤ gA ∧ gA < v3.heap.size ∧ v2.heap.size ≤ v3.heap.size) := ⟨h1, h2, hb.size⟩
  have hS2 := hS.mono (hbw.size)
  have SA : Hid (SR v3 w.heap.size gA na xa) := hS2
  clear h1 h2 hS hS2
  replace Xo : Hid _ := Xo.out.below hb
  replace Xp : Hid _ := Xp.out.below hb
  replace A1 : Hid (WA7 v3 p1 m1 N1 b1 u1) := A1.out.below hb
  replace A2 : Hid (WA7 v3 p2 m2 N2 b2 u2) := A2.out.below hb
  replace hbw := Below.on hbw hb
  clear hb
  obtain ⟨co0, co1, co2, co3, co4, fo0, fo1, fo2, fo3, fo4⟩ := Xo.out
  have hneo : go < v3.heap.size := World.block_lt_of_cell? v3 _ co0
  go_wp2_with fail
  clear co0 co1 co2 co3 co4 fo0 fo1 fo2 fo3 fo4 hneo
  refine (spare_sr (AO.out.1.b.below hbw) AO.out.1.nb_).mono ?_
  rintro e v4 ⟨gB, rfl, h1, h2, hS, hb⟩
  have GB : Hid (v3.heap.size ≤ gB ∧ gB < v4.heap.size ∧ v3.heap.size ≤ v4.heap.size) := ⟨h1, h2, hb.size⟩
  have hS2 := hS.mono (hbw.size)
  have SB : Hid (SR v4 w.heap.size gB nb xb) := hS2
  clear h1 h2 hS hS2
  replace Xo : Hid _ := Xo.out.below hb
  replace Xp : Hid _ := Xp.out.below hb
  replace A1 : Hid (WA7 v4 p1 m1 N1 b1 u1) := A1.out.below hb
  replace A2 : Hid (WA7 v4 p2 m2 N2 b2 u2) := A2.out.below hb
  replace SA : Hid (SR v4 w.heap.size gA na xa) := SA.out.below hb
  replace hbw := Below.on hbw hb
  clear hb
  obtain ⟨co0, co1, co2, co3, co4, fo0, fo1, fo2, fo3, fo4⟩ := Xo.out
  have hneo : go < v4.heap.size := World.block_lt_of_cell? v4 _ co0
  go_wp2_with fail
  clear co0 co1 co2 co3 co4 fo0 fo1 fo2 fo3 fo4 hneo
  have Xq0 : Hid (B5q (v4.alloc (.cells #[.int .i64 kd, .slice (some ⟨gA, 0, none⟩) na (na + 80), .slice (some ⟨gB, 0, none⟩) nb (nb + 80), .int .i64 nn, U x] 26)) v4.heap.size (.int .i64 kd) (.slice (some ⟨gA, 0, none⟩) na (na + 80)) (.slice (some ⟨gB, 0, none⟩) nb (nb + 80)) (.int .i64 nn) (U x)) := B5q.new v4 _ _ _ _ _ _
  have hbn : Below v4.heap.size v4 (v4.alloc (.cells #[.int .i64 kd, .slice (some ⟨gA, 0, none⟩) na (na + 80), .slice (some ⟨gB, 0, none⟩) nb (nb + 80), .int .i64 nn, U x] 26)) := below1 v4 _
  generalize v4.alloc (.cells #[.int .i64 kd, .slice (some ⟨gA, 0, none⟩) na (na + 80), .slice (some ⟨gB, 0, none⟩) nb (nb + 80), .int .i64 nn, U x] 26) = Wq at *
  have HGq : Hid (w.heap.size ≤ v4.heap.size) := hbw.size
  replace Xo : Hid _ := Xo.out.below hbn
  replace Xp : Hid _ := Xp.out.below hbn
  replace A1 : Hid (WA7 Wq p1 m1 N1 b1 u1) := A1.out.below hbn
  replace A2 : Hid (WA7 Wq p2 m2 N2 b2 u2) := A2.out.below hbn
  replace SA : Hid (SR Wq w.heap.size gA na xa) := SA.out.below hbn
  replace SB : Hid (SR Wq w.heap.size gB nb xb) := SB.out.below hbn
  replace hbw := Below.on hbw hbn
  clear hbn
  generalize v4.heap.size = gq at *
  have Xq := Xq0
  clear Xq0
  have Sq : Hid (gq ≤ Wq.heap.size ∧ gq < Wq.heap.size) := ⟨Nat.le_of_lt Xq.out.lt, Xq.out.lt⟩
  obtain ⟨cq0, cq1, cq2, cq3, cq4, fq0, fq1, fq2, fq3, fq4⟩ := Xq.out
  have hneq : gq < Wq.heap.size := World.block_lt_of_cell? Wq _ cq0
  go_wp2_with fail
  clear cq0 cq1 cq2 cq3 cq4 fq0 fq1 fq2 fq3 fq4 hneq
  refine (listK (SA.out.at_ AO.out.1.na_) (SB.out.at_ AO.out.1.nb_) AO.out.1.na_ nn AO.out.1.nn_ x AO.out.1.x_ AO.out.2).mono ?_
  rintro e v5 ⟨q1, l1, z9, r9, f9, rfl, hO, hL, hR, hb⟩
  obtain ⟨eu, ef⟩ := R1.out.uniq hR
  subst eu ef
  obtain ⟨c1, hE, hI⟩ := eq_own7 hO (hbw.size : w.heap.size ≤ Wq.heap.size) hL
  have K1 : Hid ((l1 ≠ 0 → Wq.heap.size ≤ c1 ∧ c1 < v5.heap.size) ∧ Wq.heap.size ≤ v5.heap.size) := ⟨hI, hb.size⟩
  have E1 : Hid (EQ7 v5 w.heap.size q1 l1 c1 u1) := hE
  clear hO hL hR hE hI
  replace Xo : Hid _ := Xo.out.below hb
  replace Xp : Hid _ := Xp.out.below hb
  replace Xq : Hid _ := Xq.out.below hb
  replace A1 : Hid (WA7 v5 p1 m1 N1 b1 u1) := A1.out.below hb
  replace A2 : Hid (WA7 v5 p2 m2 N2 b2 u2) := A2.out.below hb
  replace SA : Hid (SR v5 w.heap.size gA na xa) := SA.out.below hb
  replace SB : Hid (SR v5 w.heap.size gB nb xb) := SB.out.below hb
  replace hbw := Below.on hbw hb
  clear hb
  have he1 : (f1 == f1) = true := by simp
  go_wp2_with fail
  refine (same_t E1.out.at_ A1.out.at_).mono ?_
  rintro e v6 ⟨rfl, hb⟩
  have Sv6 : Hid (v5.heap.size ≤ v6.heap.size) := hb.size
  replace Xo : Hid _ := Xo.out.below hb
  replace Xp : Hid _ := Xp.out.below hb
  replace Xq : Hid _ := Xq.out.below hb
  replace A1 : Hid (WA7 v6 p1 m1 N1 b1 u1) := A1.out.below hb
  replace A2 : Hid (WA7 v6 p2 m2 N2 b2 u2) := A2.out.below hb
  replace SA : Hid (SR v6 w.heap.size gA na xa) := SA.out.below hb
  replace SB : Hid (SR v6 w.heap.size gB nb xb) := SB.out.below hb
  replace E1 : Hid (EQ7 v6 w.heap.size q1 l1 c1 u1) := E1.out.below hb
  replace hbw := Below.on hbw hb
  clear hb
  obtain ⟨co0, co1, co2, co3, co4, fo0, fo1, fo2, fo3, fo4⟩ := Xo.out
  have hneo : go < v6.heap.size := World.block_lt_of_cell? v6 _ co0
  go_wp2_with fail
  clear co0 co1 co2 co3 co4 fo0 fo1 fo2 fo3 fo4 hneo
  refine (kept_ok (AO.out.1.a.below hbw) (SA.out.full AO.out.1.na_) AO.out.1.na_).mono ?_
  rintro e v7 ⟨rfl, hb⟩
  have Sv7 : Hid (v6.heap.size ≤ v7.heap.size) := hb.size
  replace Xo : Hid _ := Xo.out.below hb
  replace Xp : Hid _ := Xp.out.below hb
  replace Xq : Hid _ := Xq.out.below hb
  replace A1 : Hid (WA7 v7 p1 m1 N1 b1 u1) := A1.out.below hb
  replace A2 : Hid (WA7 v7 p2 m2 N2 b2 u2) := A2.out.below hb
  replace SA : Hid (SR v7 w.heap.size gA na xa) := SA.out.below hb
  replace SB : Hid (SR v7 w.heap.size gB nb xb) := SB.out.below hb
  replace E1 : Hid (EQ7 v7 w.heap.size q1 l1 c1 u1) := E1.out.below hb
  replace hbw := Below.on hbw hb
  clear hb
  obtain ⟨co0, co1, co2, co3, co4, fo0, fo1, fo2, fo3, fo4⟩ := Xo.out
  have hneo : go < v7.heap.size := World.block_lt_of_cell? v7 _ co0
  go_wp2_with fail
  clear co0 co1 co2 co3 co4 fo0 fo1 fo2 fo3 fo4 hneo
  refine (kept_ok (AO.out.1.b.below hbw) (SB.out.full AO.out.1.nb_) AO.out.1.nb_).mono ?_
  rintro e v8 ⟨rfl, hb⟩
  have Sv8 : Hid (v7.heap.size ≤ v8.heap.size) := hb.size
  replace Xo : Hid _ := Xo.out.below hb
  replace Xp : Hid _ := Xp.out.below hb
  replace Xq : Hid _ := Xq.out.below hb
  replace A1 : Hid (WA7 v8 p1 m1 N1 b1 u1) := A1.out.below hb
  replace A2 : Hid (WA7 v8 p2 m2 N2 b2 u2) := A2.out.below hb
  replace SA : Hid (SR v8 w.heap.size gA na xa) := SA.out.below hb
  replace SB : Hid (SR v8 w.heap.size gB nb xb) := SB.out.below hb
  replace E1 : Hid (EQ7 v8 w.heap.size q1 l1 c1 u1) := E1.out.below hb
  replace hbw := Below.on hbw hb
  clear hb
  obtain ⟨cq0, cq1, cq2, cq3, cq4, fq0, fq1, fq2, fq3, fq4⟩ := Xq.out
  have hneq : gq < v8.heap.size := World.block_lt_of_cell? v8 _ cq0
  go_wp2_with fail
  clear cq0 cq1 cq2 cq3 cq4 fq0 fq1 fq2 fq3 fq4 hneq
  refine (listK (SA.out.at_ AO.out.1.na_) (SB.out.at_ AO.out.1.nb_) AO.out.1.na_ nn AO.out.1.nn_ x AO.out.1.x_ AO.out.2).mono ?_
  rintro e v9 ⟨q2, l2, z9, r9, f9, rfl, hO, hL, hR, hb⟩
  obtain ⟨eu, ef⟩ := R1.out.uniq hR
  subst eu ef
  obtain ⟨c2, hE, hI⟩ := eq_own7 hO (hbw.size : w.heap.size ≤ v8.heap.size) hL
  have K2 : Hid ((l2 ≠ 0 → v8.heap.size ≤ c2 ∧ c2 < v9.heap.size) ∧ v8.heap.size ≤ v9.heap.size) := ⟨hI, hb.size⟩
  have E2 : Hid (EQ7 v9 w.heap.size q2 l2 c2 u1) := hE
  clear hO hL hR hE hI
  replace Xo : Hid _ := Xo.out.below hb
  replace Xp : Hid _ := Xp.out.below hb
  replace Xq : Hid _ := Xq.out.below hb
  replace A1 : Hid (WA7 v9 p1 m1 N1 b1 u1) := A1.out.below hb
  replace A2 : Hid (WA7 v9 p2 m2 N2 b2 u2) := A2.out.below hb
  replace SA : Hid (SR v9 w.heap.size gA na xa) := SA.out.below hb
  replace SB : Hid (SR v9 w.heap.size gB nb xb) := SB.out.below hb
  replace E1 : Hid (EQ7 v9 w.heap.size q1 l1 c1 u1) := E1.out.below hb
  replace hbw := Below.on hbw hb
  clear hb
  obtain ⟨cp0, cp1, cp2, cp3, cp4, fp0, fp1, fp2, fp3, fp4⟩ := Xp.out
  have hnep : gp < v9.heap.size := World.block_lt_of_cell? v9 _ cp0
  go_wp2_with fail
  clear cp0 cp1 cp2 cp3 cp4 fp0 fp1 fp2 fp3 fp4 hnep
  refine (twin5 (AP.out.1.a.below hbw) (AP.out.1.b.below hbw) AP.out.1.na_ AP.out.1.nb_ kp np y).mono ?_
  rintro e v10 ⟨pe, pf, rfl, hT1, hT2, hb⟩
  have T1 : Hid (At v10 pe nc nc xc) := hT1
  have T2 : Hid (At v10 pf nd nd xd) := hT2
  clear hT1 hT2
  have Sv10 : Hid (v9.heap.size ≤ v10.heap.size) := hb.size
  replace Xo : Hid _ := Xo.out.below hb
  replace Xp : Hid _ := Xp.out.below hb
  replace Xq : Hid _ := Xq.out.below hb
  replace A1 : Hid (WA7 v10 p1 m1 N1 b1 u1) := A1.out.below hb
  replace A2 : Hid (WA7 v10 p2 m2 N2 b2 u2) := A2.out.below hb
  replace SA : Hid (SR v10 w.heap.size gA na xa) := SA.out.below hb
  replace SB : Hid (SR v10 w.heap.size gB nb xb) := SB.out.below hb
  replace E1 : Hid (EQ7 v10 w.heap.size q1 l1 c1 u1) := E1.out.below hb
  replace E2 : Hid (EQ7 v10 w.heap.size q2 l2 c2 u1) := E2.out.below hb
  replace hbw := Below.on hbw hb
  clear hb
  go_wp2_with fail
  refine (listK T1.out T2.out AP.out.1.na_ np AP.out.1.nn_ y AP.out.1.x_ AP.out.2).mono ?_
  rintro e v11 ⟨q3, l3, z9, r9, f9, rfl, hO, hL, hR, hb⟩
  obtain ⟨eu, ef⟩ := R2.out.uniq hR
  subst eu ef
  obtain ⟨c3, hE, hI⟩ := eq_own7 hO (hbw.size : w.heap.size ≤ v10.heap.size) hL
  have K3 : Hid ((l3 ≠ 0 → v10.heap.size ≤ c3 ∧ c3 < v11.heap.size) ∧ v10.heap.size ≤ v11.heap.size) := ⟨hI, hb.size⟩
  have E3 : Hid (EQ7 v11 w.heap.size q3 l3 c3 u2) := hE
  clear hO hL hR hE hI
  replace Xo : Hid _ := Xo.out.below hb
  replace Xp : Hid _ := Xp.out.below hb
  replace Xq : Hid _ := Xq.out.below hb
  replace A1 : Hid (WA7 v11 p1 m1 N1 b1 u1) := A1.out.below hb
  replace A2 : Hid (WA7 v11 p2 m2 N2 b2 u2) := A2.out.below hb
  replace SA : Hid (SR v11 w.heap.size gA na xa) := SA.out.below hb
  replace SB : Hid (SR v11 w.heap.size gB nb xb) := SB.out.below hb
  replace E1 : Hid (EQ7 v11 w.heap.size q1 l1 c1 u1) := E1.out.below hb
  replace E2 : Hid (EQ7 v11 w.heap.size q2 l2 c2 u1) := E2.out.below hb
  replace T1 : Hid _ := T1.out.below hb
  replace T2 : Hid _ := T2.out.below hb
  replace hbw := Below.on hbw hb
  clear hb
  clear T1
  clear T2
  obtain ⟨cq0, cq1, cq2, cq3, cq4, fq0, fq1, fq2, fq3, fq4⟩ := Xq.out
  have hneq : gq < v11.heap.size := World.block_lt_of_cell? v11 _ cq0
  go_wp2_with fail
  clear cq0 cq1 cq2 cq3 cq4 fq0 fq1 fq2 fq3 fq4 hneq
  refine (listK (SA.out.at_ AO.out.1.na_) (SB.out.at_ AO.out.1.nb_) AO.out.1.na_ nn AO.out.1.nn_ x AO.out.1.x_ AO.out.2).mono ?_
  rintro e v12 ⟨q4, l4, z9, r9, f9, rfl, hO, hL, hR, hb⟩
  obtain ⟨eu, ef⟩ := R1.out.uniq hR
  subst eu ef
  obtain ⟨c4, hE, hI⟩ := eq_own7 hO (hbw.size : w.heap.size ≤ v11.heap.size) hL
  have K4 : Hid ((l4 ≠ 0 → v11.heap.size ≤ c4 ∧ c4 < v12.heap.size) ∧ v11.heap.size ≤ v12.heap.size) := ⟨hI, hb.size⟩
  have E4 : Hid (EQ7 v12 w.heap.size q4 l4 c4 u1) := hE
  clear hO hL hR hE hI
  replace Xo : Hid _ := Xo.out.below hb
  replace Xp : Hid _ := Xp.out.below hb
  replace Xq : Hid _ := Xq.out.below hb
  replace A1 : Hid (WA7 v12 p1 m1 N1 b1 u1) := A1.out.below hb
  replace A2 : Hid (WA7 v12 p2 m2 N2 b2 u2) := A2.out.below hb
  replace SA : Hid (SR v12 w.heap.size gA na xa) := SA.out.below hb
  replace SB : Hid (SR v12 w.heap.size gB nb xb) := SB.out.below hb
  replace E1 : Hid (EQ7 v12 w.heap.size q1 l1 c1 u1) := E1.out.below hb
  replace E2 : Hid (EQ7 v12 w.heap.size q2 l2 c2 u1) := E2.out.below hb
  replace E3 : Hid (EQ7 v12 w.heap.size q3 l3 c3 u2) := E3.out.below hb
  replace hbw := Below.on hbw hb
  clear hb
  obtain ⟨co0, co1, co2, co3, co4, fo0, fo1, fo2, fo3, fo4⟩ := Xo.out
  have hneo : go < v12.heap.size := World.block_lt_of_cell? v12 _ co0
  go_wp2_with fail
  clear co0 co1 co2 co3 co4 fo0 fo1 fo2 fo3 fo4 hneo
  refine (kept_ok (AO.out.1.a.below hbw) (SA.out.full AO.out.1.na_) AO.out.1.na_).mono ?_
  rintro e v13 ⟨rfl, hb⟩
  have Sv13 : Hid (v12.heap.size ≤ v13.heap.size) := hb.size
  replace Xo : Hid _ := Xo.out.below hb
  replace Xp : Hid _ := Xp.out.below hb
  replace Xq : Hid _ := Xq.out.below hb
  replace A1 : Hid (WA7 v13 p1 m1 N1 b1 u1) := A1.out.below hb
  replace A2 : Hid (WA7 v13 p2 m2 N2 b2 u2) := A2.out.below hb
  replace SA : Hid (SR v13 w.heap.size gA na xa) := SA.out.below hb
  replace SB : Hid (SR v13 w.heap.size gB nb xb) := SB.out.below hb
  replace E1 : Hid (EQ7 v13 w.heap.size q1 l1 c1 u1) := E1.out.below hb
  replace E2 : Hid (EQ7 v13 w.heap.size q2 l2 c2 u1) := E2.out.below hb
  replace E3 : Hid (EQ7 v13 w.heap.size q3 l3 c3 u2) := E3.out.below hb
  replace E4 : Hid (EQ7 v13 w.heap.size q4 l4 c4 u1) := E4.out.below hb
  replace hbw := Below.on hbw hb
  clear hb
  obtain ⟨co0, co1, co2, co3, co4, fo0, fo1, fo2, fo3, fo4⟩ := Xo.out
  have hneo : go < v13.heap.size := World.block_lt_of_cell? v13 _ co0
  go_wp2_with fail
  clear co0 co1 co2 co3 co4 fo0 fo1 fo2 fo3 fo4 hneo
  refine (kept_ok (AO.out.1.b.below hbw) (SB.out.full AO.out.1.nb_) AO.out.1.nb_).mono ?_
  rintro e v14 ⟨rfl, hb⟩
  have Sv14 : Hid (v13.heap.size ≤ v14.heap.size) := hb.size
  replace Xo : Hid _ := Xo.out.below hb
  replace Xp : Hid _ := Xp.out.below hb
  replace Xq : Hid _ := Xq.out.below hb
  replace A1 : Hid (WA7 v14 p1 m1 N1 b1 u1) := A1.out.below hb
  replace A2 : Hid (WA7 v14 p2 m2 N2 b2 u2) := A2.out.below hb
  replace SA : Hid (SR v14 w.heap.size gA na xa) := SA.out.below hb
  replace SB : Hid (SR v14 w.heap.size gB nb xb) := SB.out.below hb
  replace E1 : Hid (EQ7 v14 w.heap.size q1 l1 c1 u1) := E1.out.below hb
  replace E2 : Hid (EQ7 v14 w.heap.size q2 l2 c2 u1) := E2.out.below hb
  replace E3 : Hid (EQ7 v14 w.heap.size q3 l3 c3 u2) := E3.out.below hb
  replace E4 : Hid (EQ7 v14 w.heap.size q4 l4 c4 u1) := E4.out.below hb
  replace hbw := Below.on hbw hb
  clear hb
  go_wp2_with fail
  refine (same_t E1.out.at_ A1.out.at_).mono ?_
  rintro e v15 ⟨rfl, hb⟩
  have Sv15 : Hid (v14.heap.size ≤ v15.heap.size) := hb.size
  replace Xo : Hid _ := Xo.out.below hb
  replace Xp : Hid _ := Xp.out.below hb
  replace Xq : Hid _ := Xq.out.below hb
  replace A1 : Hid (WA7 v15 p1 m1 N1 b1 u1) := A1.out.below hb
  replace A2 : Hid (WA7 v15 p2 m2 N2 b2 u2) := A2.out.below hb
  replace SA : Hid (SR v15 w.heap.size gA na xa) := SA.out.below hb
  replace SB : Hid (SR v15 w.heap.size gB nb xb) := SB.out.below hb
  replace E1 : Hid (EQ7 v15 w.heap.size q1 l1 c1 u1) := E1.out.below hb
  replace E2 : Hid (EQ7 v15 w.heap.size q2 l2 c2 u1) := E2.out.below hb
  replace E3 : Hid (EQ7 v15 w.heap.size q3 l3 c3 u2) := E3.out.below hb
  replace E4 : Hid (EQ7 v15 w.heap.size q4 l4 c4 u1) := E4.out.below hb
  replace hbw := Below.on hbw hb
  clear hb
  go_wp2_with fail
  refine (same_t E2.out.at_ A1.out.at_).mono ?_
  rintro e v16 ⟨rfl, hb⟩
  have Sv16 : Hid (v15.heap.size ≤ v16.heap.size) := hb.size
  replace Xo : Hid _ := Xo.out.below hb
  replace Xp : Hid _ := Xp.out.below hb
  replace Xq : Hid _ := Xq.out.below hb
  replace A1 : Hid (WA7 v16 p1 m1 N1 b1 u1) := A1.out.below hb
  replace A2 : Hid (WA7 v16 p2 m2 N2 b2 u2) := A2.out.below hb
  replace SA : Hid (SR v16 w.heap.size gA na xa) := SA.out.below hb
  replace SB : Hid (SR v16 w.heap.size gB nb xb) := SB.out.below hb
  replace E1 : Hid (EQ7 v16 w.heap.size q1 l1 c1 u1) := E1.out.below hb
  replace E2 : Hid (EQ7 v16 w.heap.size q2 l2 c2 u1) := E2.out.below hb
  replace E3 : Hid (EQ7 v16 w.heap.size q3 l3 c3 u2) := E3.out.below hb
  replace E4 : Hid (EQ7 v16 w.heap.size q4 l4 c4 u1) := E4.out.below hb
  replace hbw := Below.on hbw hb
  clear hb
  go_wp2_with fail
  refine (same_t E3.out.at_ A2.out.at_).mono ?_
  rintro e v17 ⟨rfl, hb⟩
  have Sv17 : Hid (v16.heap.size ≤ v17.heap.size) := hb.size
  replace Xo : Hid _ := Xo.out.below hb
  replace Xp : Hid _ := Xp.out.below hb
  replace Xq : Hid _ := Xq.out.below hb
  replace A1 : Hid (WA7 v17 p1 m1 N1 b1 u1) := A1.out.below hb
  replace A2 : Hid (WA7 v17 p2 m2 N2 b2 u2) := A2.out.below hb
  replace SA : Hid (SR v17 w.heap.size gA na xa) := SA.out.below hb
  replace SB : Hid (SR v17 w.heap.size gB nb xb) := SB.out.below hb
  replace E1 : Hid (EQ7 v17 w.heap.size q1 l1 c1 u1) := E1.out.below hb
  replace E2 : Hid (EQ7 v17 w.heap.size q2 l2 c2 u1) := E2.out.below hb
  replace E3 : Hid (EQ7 v17 w.heap.size q3 l3 c3 u2) := E3.out.below hb
  replace E4 : Hid (EQ7 v17 w.heap.size q4 l4 c4 u1) := E4.out.below hb
  replace hbw := Below.on hbw hb
  clear hb
  go_wp2_with fail
  refine (same_t E4.out.at_ A1.out.at_).mono ?_
  rintro e v18 ⟨rfl, hb⟩
  have Sv18 : Hid (v17.heap.size ≤ v18.heap.size) := hb.size
  replace Xo : Hid _ := Xo.out.below hb
  replace Xp : Hid _ := Xp.out.below hb
  replace Xq : Hid _ := Xq.out.below hb
  replace A1 : Hid (WA7 v18 p1 m1 N1 b1 u1) := A1.out.below hb
  replace A2 : Hid (WA7 v18 p2 m2 N2 b2 u2) := A2.out.below hb
  replace SA : Hid (SR v18 w.heap.size gA na xa) := SA.out.below hb
  replace SB : Hid (SR v18 w.heap.size gB nb xb) := SB.out.below hb
  replace E1 : Hid (EQ7 v18 w.heap.size q1 l1 c1 u1) := E1.out.below hb
  replace E2 : Hid (EQ7 v18 w.heap.size q2 l2 c2 u1) := E2.out.below hb
  replace E3 : Hid (EQ7 v18 w.heap.size q3 l3 c3 u2) := E3.out.below hb
  replace E4 : Hid (EQ7 v18 w.heap.size q4 l4 c4 u1) := E4.out.below hb
  replace hbw := Below.on hbw hb
  clear hb
  go_wp2_with fail
  clear Xo
  clear Xp
  have CH : Hid (v2.heap.size ≤ v3.heap.size ∧ v3.heap.size ≤ gq ∧ gq < Wq.heap.size ∧ Wq.heap.size ≤ v5.heap.size ∧ v5.heap.size ≤ v8.heap.size ∧ v8.heap.size ≤ v9.heap.size ∧ v9.heap.size ≤ v10.heap.size ∧ v10.heap.size ≤ v11.heap.size ∧ v11.heap.size ≤ v12.heap.size ∧ v12.heap.size ≤ v18.heap.size ∧ v1.heap.size ≤ v2.heap.size) := ⟨GA.out.2.2, GB.out.2.2, Sq.out.2, K1.out.2, Nat.le_trans Sv6.out (Nat.le_trans Sv7.out Sv8.out), K2.out.2, Sv10.out, K3.out.2, K4.out.2, Nat.le_trans Sv13.out (Nat.le_trans Sv14.out (Nat.le_trans Sv15.out (Nat.le_trans Sv16.out (Nat.le_trans Sv17.out Sv18.out)))), I2.out.2⟩
  have h00 : v18.heap.size ≤ v18.heap.size := Nat.le_refl _
  go_loopg [28] na (fun gk iv wr => ∃ (i : Nat) (zs : List Nat), i + gk = na ∧ iv = .int .i64 i ∧ SR wr w.heap.size gA na zs ∧ Below w.heap.size w wr ∧ v18.heap.size ≤ wr.heap.size ∧ ∀ k, k ≠ gA → wr.heap[k]? = v18.heap[k]?)
  case atStart => exact ⟨0, _, by omega, rfl, SA.out, hbw, h00, fun _ _ => rfl⟩
  case round =>
    clear SA h00 hbw
    obtain ⟨i, za, hig, rfl, x1, hb9, x2, x3⟩ := hrel
    have SA : Hid (SR wr w.heap.size gA na za) := x1
    have HKP : Hid (v18.heap.size ≤ wr.heap.size ∧ ∀ k, k ≠ gA → wr.heap[k]? = v18.heap[k]?) := ⟨x2, x3⟩
    clear x1 x2 x3
    cases gk with
    | succ gi =>
      have HIM : Hid (i < na ∧ i < 17592186044500) := ⟨by omega, by have := AO.out.1.na_; omega⟩
      have hil : (i : Int) < (na : Int) := by omega
      have hi0 : (0 : Int) ≤ (i : Int) ∧ (i : Int) < (na : Int) := by omega
      have wi := wj80 HIM.out.2
      have hcl := SA.out.row.cell i (by omega)
      have hfr := SA.out.row.frozen i (by omega)
      rw [Nat.zero_add] at hcl hfr
      rw [spl_lo (by rw [SA.out.len]; omega)] at hcl
      obtain ⟨c, hc⟩ : ∃ c, c = za.getD i 0 := ⟨_, rfl⟩
      have HCB : Hid (c < B64) := by rw [hc]; exact SA.out.dig.getD B64_pos _
      rw [← hc] at hcl
      have hw2 : IntKind.u64.wrap (IntKind.u64.wrap ((c : Int) / 2) + 1) = ((c / 2 + 1 : Nat) : Int) := wrh (d := 2) (by decide) HCB.out
      have HB9 : Hid (Below w.heap.size w wr) := hb9
      clear hb9 hc
      go_wp2_with fail
      go_roundg gi
      case measure => omega
      case rel => exact ⟨i + 1, _, by omega, by go_num, SA.out.set HIM.out.1 (half_lt 2 (by decide) HCB.out), bSet HB9.out gA i _ SA.out.ge, by rw [World.size_setCell]; exact HKP.out.1, fun k hk => (Below.heap_setCell wr _ _ k hk).trans (HKP.out.2 k hk)⟩
    | zero =>
      obtain rfl : na = i := by omega
      have hnk : ¬ ((na : Nat) : Int) < ((na : Nat) : Int) := by omega
      have hsz : Hid (v18.heap.size ≤ wr.heap.size) := HKP.out.1
      have SLA := hsz
      clear hsz
      have A1' : Hid (WA7 wr p1 m1 N1 b1 u1) := A1.out.keep (fun hc => HKP.out.2 b1 (by have := I1.out.1 hc; have := GA.out; have := GB.out; have := CH.out; omega))
      clear A1
      have A1 := A1'
      clear A1'
      have A2' : Hid (WA7 wr p2 m2 N2 b2 u2) := A2.out.keep (fun hc => HKP.out.2 b2 (by have := I2.out.1 hc; have := GA.out; have := GB.out; have := CH.out; omega))
      clear A2
      have A2 := A2'
      clear A2'
      have E1' : Hid (EQ7 wr w.heap.size q1 l1 c1 u1) := E1.out.keep (fun hc => HKP.out.2 c1 (by have := K1.out.1 hc; have := GA.out; have := GB.out; have := CH.out; omega))
      clear E1
      have E1 := E1'
      clear E1'
      have E2' : Hid (EQ7 wr w.heap.size q2 l2 c2 u1) := E2.out.keep (fun hc => HKP.out.2 c2 (by have := K2.out.1 hc; have := GA.out; have := GB.out; have := CH.out; omega))
      clear E2
      have E2 := E2'
      clear E2'
      have E3' : Hid (EQ7 wr w.heap.size q3 l3 c3 u2) := E3.out.keep (fun hc => HKP.out.2 c3 (by have := K3.out.1 hc; have := GA.out; have := GB.out; have := CH.out; omega))
      clear E3
      have E3 := E3'
      clear E3'
      have E4' : Hid (EQ7 wr w.heap.size q4 l4 c4 u1) := E4.out.keep (fun hc => HKP.out.2 c4 (by have := K4.out.1 hc; have := GA.out; have := GB.out; have := CH.out; omega))
      clear E4
      have E4 := E4'
      clear E4'
      have SB' : Hid (SR wr w.heap.size gB nb xb) := SB.out.keep (HKP.out.2 gB (by have := GA.out; have := GB.out; have := CH.out; omega))
      clear SB
      have SB := SB'
      clear SB'
      have Xq' : Hid (B5q wr gq (.int .i64 kd) (.slice (some ⟨gA, 0, none⟩) na (na + 80)) (.slice (some ⟨gB, 0, none⟩) nb (nb + 80)) (.int .i64 nn) (U x)) := Xq.out.keep (HKP.out.2 gq (by have := GA.out; have := GB.out; have := CH.out; omega))
      clear Xq
      have Xq := Xq'
      clear Xq'
      have hbw := hb9
      clear hb9 HKP
      have hbr : Below w.heap.size w wr := hbw
      generalize wr = wLA at *
      clear hbr
      go_wp2_with fail
      clear hnk hig
      have h00 : wLA.heap.size ≤ wLA.heap.size := Nat.le_refl _
      go_loopg [29] nb (fun gk iv wr => ∃ (i : Nat) (zs : List Nat), i + gk = nb ∧ iv = .int .i64 i ∧ SR wr w.heap.size gB nb zs ∧ Below w.heap.size w wr ∧ wLA.heap.size ≤ wr.heap.size ∧ ∀ k, k ≠ gB → wr.heap[k]? = wLA.heap[k]?)
      case atStart => exact ⟨0, _, by omega, rfl, SB.out, hbw, h00, fun _ _ => rfl⟩
      case round =>
        clear SB h00 hbw
        obtain ⟨i, zb, hig, rfl, x1, hb9, x2, x3⟩ := hrel
        have SB : Hid (SR wr w.heap.size gB nb zb) := x1
        have HKP : Hid (wLA.heap.size ≤ wr.heap.size ∧ ∀ k, k ≠ gB → wr.heap[k]? = wLA.heap[k]?) := ⟨x2, x3⟩
        clear x1 x2 x3
        cases gk with
        | succ gi =>
          have HIM : Hid (i < nb ∧ i < 17592186044500) := ⟨by omega, by have := AO.out.1.nb_; omega⟩
          have hil : (i : Int) < (nb : Int) := by omega
          have hi0 : (0 : Int) ≤ (i : Int) ∧ (i : Int) < (nb : Int) := by omega
          have wi := wj80 HIM.out.2
          have hcl := SB.out.row.cell i (by omega)
          have hfr := SB.out.row.frozen i (by omega)
          rw [Nat.zero_add] at hcl hfr
          rw [spl_lo (by rw [SB.out.len]; omega)] at hcl
          obtain ⟨c, hc⟩ : ∃ c, c = zb.getD i 0 := ⟨_, rfl⟩
          have HCB : Hid (c < B64) := by rw [hc]; exact SB.out.dig.getD B64_pos _
          rw [← hc] at hcl
          have hw2 : IntKind.u64.wrap (IntKind.u64.wrap ((c : Int) / 3) + 1) = ((c / 3 + 1 : Nat) : Int) := wrh (d := 3) (by decide) HCB.out
          have HB9 : Hid (Below w.heap.size w wr) := hb9
          clear hb9 hc
          go_wp2_with fail
          go_roundg gi
          case measure => omega
          case rel => exact ⟨i + 1, _, by omega, by go_num, SB.out.set HIM.out.1 (half_lt 3 (by decide) HCB.out), bSet HB9.out gB i _ SB.out.ge, by rw [World.size_setCell]; exact HKP.out.1, fun k hk => (Below.heap_setCell wr _ _ k hk).trans (HKP.out.2 k hk)⟩
        | zero =>
          obtain rfl : nb = i := by omega
          have hnk : ¬ ((nb : Nat) : Int) < ((nb : Nat) : Int) := by omega
          have hsz : Hid (wLA.heap.size ≤ wr.heap.size) := HKP.out.1
          have SLB := hsz
          clear hsz
          have A1' : Hid (WA7 wr p1 m1 N1 b1 u1) := A1.out.keep (fun hc => HKP.out.2 b1 (by have := I1.out.1 hc; have := GA.out; have := GB.out; have := CH.out; omega))
          clear A1
          have A1 := A1'
          clear A1'
          have A2' : Hid (WA7 wr p2 m2 N2 b2 u2) := A2.out.keep (fun hc => HKP.out.2 b2 (by have := I2.out.1 hc; have := GA.out; have := GB.out; have := CH.out; omega))
          clear A2
          have A2 := A2'
          clear A2'
          have E1' : Hid (EQ7 wr w.heap.size q1 l1 c1 u1) := E1.out.keep (fun hc => HKP.out.2 c1 (by have := K1.out.1 hc; have := GA.out; have := GB.out; have := CH.out; omega))
          clear E1
          have E1 := E1'
          clear E1'
          have E2' : Hid (EQ7 wr w.heap.size q2 l2 c2 u1) := E2.out.keep (fun hc => HKP.out.2 c2 (by have := K2.out.1 hc; have := GA.out; have := GB.out; have := CH.out; omega))
          clear E2
          have E2 := E2'
          clear E2'
          have E3' : Hid (EQ7 wr w.heap.size q3 l3 c3 u2) := E3.out.keep (fun hc => HKP.out.2 c3 (by have := K3.out.1 hc; have := GA.out; have := GB.out; have := CH.out; omega))
          clear E3
          have E3 := E3'
          clear E3'
          have E4' : Hid (EQ7 wr w.heap.size q4 l4 c4 u1) := E4.out.keep (fun hc => HKP.out.2 c4 (by have := K4.out.1 hc; have := GA.out; have := GB.out; have := CH.out; omega))
          clear E4
          have E4 := E4'
          clear E4'
          have SA' : Hid (SR wr w.heap.size gA na za) := SA.out.keep (HKP.out.2 gA (by have := GA.out; have := GB.out; have := CH.out; omega))
          clear SA
          have SA := SA'
          clear SA'
          have Xq' : Hid (B5q wr gq (.int .i64 kd) (.slice (some ⟨gA, 0, none⟩) na (na + 80)) (.slice (some ⟨gB, 0, none⟩) nb (nb + 80)) (.int .i64 nn) (U x)) := Xq.out.keep (HKP.out.2 gq (by have := GA.out; have := GB.out; have := CH.out; omega))
          clear Xq
          have Xq := Xq'
          clear Xq'
          have hbw := hb9
          clear hb9 HKP
          have hbr : Below w.heap.size w wr := hbw
          generalize wr = wLB at *
          clear hbr
          obtain ⟨cq0, cq1, cq2, cq3, cq4, fq0, fq1, fq2, fq3, fq4⟩ := Xq.out
          have hneq : gq < wLB.heap.size := World.block_lt_of_cell? wLB _ cq0
          go_wp2_with fail
          clear cq0 cq1 cq2 cq3 cq4 fq0 fq1 fq2 fq3 fq4 hneq
          clear hnk hig
          refine (twin5 (SA.out.at_ AO.out.1.na_) (SB.out.at_ AO.out.1.nb_) AO.out.1.na_ AO.out.1.nb_ kd nn x).mono ?_
          rintro e v20 ⟨ph, pj, rfl, hT1, hT2, hb⟩
          have M1 : Hid (At v20 ph na na za) := hT1
          have M2 : Hid (At v20 pj nb nb zb) := hT2
          clear hT1 hT2
          have Sv20 : Hid (wLB.heap.size ≤ v20.heap.size) := hb.size
          replace Xq : Hid _ := Xq.out.below hb
          replace A1 : Hid (WA7 v20 p1 m1 N1 b1 u1) := A1.out.below hb
          replace A2 : Hid (WA7 v20 p2 m2 N2 b2 u2) := A2.out.below hb
          replace SA : Hid (SR v20 w.heap.size gA na za) := SA.out.below hb
          replace SB : Hid (SR v20 w.heap.size gB nb zb) := SB.out.below hb
          replace E1 : Hid (EQ7 v20 w.heap.size q1 l1 c1 u1) := E1.out.below hb
          replace E2 : Hid (EQ7 v20 w.heap.size q2 l2 c2 u1) := E2.out.below hb
          replace E3 : Hid (EQ7 v20 w.heap.size q3 l3 c3 u2) := E3.out.below hb
          replace E4 : Hid (EQ7 v20 w.heap.size q4 l4 c4 u1) := E4.out.below hb
          replace hbw := Below.on hbw hb
          clear hb
          go_wp2_with fail
          have Xn0 : Hid (B5q (v20.alloc (.cells #[.int .i64 kd, .slice ph na na, .slice pj nb nb, .int .i64 nn, U x] 26)) v20.heap.size (.int .i64 kd) (.slice ph na na) (.slice pj nb nb) (.int .i64 nn) (U x)) := B5q.new v20 _ _ _ _ _ _
          have hbn : Below v20.heap.size v20 (v20.alloc (.cells #[.int .i64 kd, .slice ph na na, .slice pj nb nb, .int .i64 nn, U x] 26)) := below1 v20 _
          generalize v20.alloc (.cells #[.int .i64 kd, .slice ph na na, .slice pj nb nb, .int .i64 nn, U x] 26) = Wn at *
          have HGn : Hid (w.heap.size ≤ v20.heap.size) := hbw.size
          replace Xq : Hid _ := Xq.out.below hbn
          replace A1 : Hid (WA7 Wn p1 m1 N1 b1 u1) := A1.out.below hbn
          replace A2 : Hid (WA7 Wn p2 m2 N2 b2 u2) := A2.out.below hbn
          replace SA : Hid (SR Wn w.heap.size gA na za) := SA.out.below hbn
          replace SB : Hid (SR Wn w.heap.size gB nb zb) := SB.out.below hbn
          replace E1 : Hid (EQ7 Wn w.heap.size q1 l1 c1 u1) := E1.out.below hbn
          replace E2 : Hid (EQ7 Wn w.heap.size q2 l2 c2 u1) := E2.out.below hbn
          replace E3 : Hid (EQ7 Wn w.heap.size q3 l3 c3 u2) := E3.out.below hbn
          replace E4 : Hid (EQ7 Wn w.heap.size q4 l4 c4 u1) := E4.out.below hbn
          replace M1 : Hid _ := M1.out.below hbn
          replace M2 : Hid _ := M2.out.below hbn
          replace hbw := Below.on hbw hbn
          clear hbn
          generalize v20.heap.size = gn at *
          have Xn := Xn0
          clear Xn0
          have Sn : Hid (gn < Wn.heap.size) := Xn.out.lt
          obtain ⟨cn0, cn1, cn2, cn3, cn4, fn0, fn1, fn2, fn3, fn4⟩ := Xn.out
          have hnen : gn < Wn.heap.size := World.block_lt_of_cell? Wn _ cn0
          go_wp2_with fail
          clear cn0 cn1 cn2 cn3 cn4 fn0 fn1 fn2 fn3 fn4 hnen
          refine (docK M1.out M2.out AO.out.1.na_ nn AO.out.1.nn_ x AO.out.1.x_ AO.out.2).mono ?_
          rintro e v21 ⟨p3, m3, N3, u3, r3, f3, rfl, hA, hR, hb⟩
          obtain ⟨b3, hW, hI⟩ := newa_wa hA
          have R3 : Hid (LsIs kd za zb nn x u3 r3 f3) := hR
          have I3 : Hid ((m3 ≠ 0 → Wn.heap.size ≤ b3 ∧ b3 < v21.heap.size) ∧ Wn.heap.size ≤ v21.heap.size) := ⟨hI, hb.size⟩
          have A3 : Hid (WA7 v21 p3 m3 N3 b3 u3) := hW
          clear hA hR hW hI
          replace Xq : Hid _ := Xq.out.below hb
          replace Xn : Hid _ := Xn.out.below hb
          replace A1 : Hid (WA7 v21 p1 m1 N1 b1 u1) := A1.out.below hb
          replace A2 : Hid (WA7 v21 p2 m2 N2 b2 u2) := A2.out.below hb
          replace SA : Hid (SR v21 w.heap.size gA na za) := SA.out.below hb
          replace SB : Hid (SR v21 w.heap.size gB nb zb) := SB.out.below hb
          replace E1 : Hid (EQ7 v21 w.heap.size q1 l1 c1 u1) := E1.out.below hb
          replace E2 : Hid (EQ7 v21 w.heap.size q2 l2 c2 u1) := E2.out.below hb
          replace E3 : Hid (EQ7 v21 w.heap.size q3 l3 c3 u2) := E3.out.below hb
          replace E4 : Hid (EQ7 v21 w.heap.size q4 l4 c4 u1) := E4.out.below hb
          replace M1 : Hid _ := M1.out.below hb
          replace M2 : Hid _ := M2.out.below hb
          replace hbw := Below.on hbw hb
          clear hb
          obtain ⟨cq0, cq1, cq2, cq3, cq4, fq0, fq1, fq2, fq3, fq4⟩ := Xq.out
          have hneq : gq < v21.heap.size := World.block_lt_of_cell? v21 _ cq0
          go_wp2_with fail
          clear cq0 cq1 cq2 cq3 cq4 fq0 fq1 fq2 fq3 fq4 hneq
          refine (listK (SA.out.at_ AO.out.1.na_) (SB.out.at_ AO.out.1.nb_) AO.out.1.na_ nn AO.out.1.nn_ x AO.out.1.x_ AO.out.2).mono ?_
          rintro e v22 ⟨q5, l5, z9, r9, f9, rfl, hO, hL, hR, hb⟩
          obtain ⟨eu, ef⟩ := R3.out.uniq hR
          subst eu ef
          obtain ⟨c5, hE, hI⟩ := eq_own7 hO (hbw.size : w.heap.size ≤ v21.heap.size) hL
          have K5 : Hid ((l5 ≠ 0 → v21.heap.size ≤ c5 ∧ c5 < v22.heap.size) ∧ v21.heap.size ≤ v22.heap.size) := ⟨hI, hb.size⟩
          have E5 : Hid (EQ7 v22 w.heap.size q5 l5 c5 u3) := hE
          clear hO hL hR hE hI
          replace Xq : Hid _ := Xq.out.below hb
          replace Xn : Hid _ := Xn.out.below hb
          replace A1 : Hid (WA7 v22 p1 m1 N1 b1 u1) := A1.out.below hb
          replace A2 : Hid (WA7 v22 p2 m2 N2 b2 u2) := A2.out.below hb
          replace SA : Hid (SR v22 w.heap.size gA na za) := SA.out.below hb
          replace SB : Hid (SR v22 w.heap.size gB nb zb) := SB.out.below hb
          replace E1 : Hid (EQ7 v22 w.heap.size q1 l1 c1 u1) := E1.out.below hb
          replace E2 : Hid (EQ7 v22 w.heap.size q2 l2 c2 u1) := E2.out.below hb
          replace E3 : Hid (EQ7 v22 w.heap.size q3 l3 c3 u2) := E3.out.below hb
          replace E4 : Hid (EQ7 v22 w.heap.size q4 l4 c4 u1) := E4.out.below hb
          replace M1 : Hid _ := M1.out.below hb
          replace M2 : Hid _ := M2.out.below hb
          replace A3 : Hid (WA7 v22 p3 m3 N3 b3 u3) := A3.out.below hb
          replace hbw := Below.on hbw hb
          clear hb
          have he3 : (f3 == f3) = true := by simp
          go_wp2_with fail
          refine (same_t E5.out.at_ A3.out.at_).mono ?_
          rintro e v23 ⟨rfl, hb⟩
          have Sv23 : Hid (v22.heap.size ≤ v23.heap.size) := hb.size
          replace Xq : Hid _ := Xq.out.below hb
          replace Xn : Hid _ := Xn.out.below hb
          replace A1 : Hid (WA7 v23 p1 m1 N1 b1 u1) := A1.out.below hb
          replace A2 : Hid (WA7 v23 p2 m2 N2 b2 u2) := A2.out.below hb
          replace SA : Hid (SR v23 w.heap.size gA na za) := SA.out.below hb
          replace SB : Hid (SR v23 w.heap.size gB nb zb) := SB.out.below hb
          replace E1 : Hid (EQ7 v23 w.heap.size q1 l1 c1 u1) := E1.out.below hb
          replace E2 : Hid (EQ7 v23 w.heap.size q2 l2 c2 u1) := E2.out.below hb
          replace E3 : Hid (EQ7 v23 w.heap.size q3 l3 c3 u2) := E3.out.below hb
          replace E4 : Hid (EQ7 v23 w.heap.size q4 l4 c4 u1) := E4.out.below hb
          replace M1 : Hid _ := M1.out.below hb
          replace M2 : Hid _ := M2.out.below hb
          replace A3 : Hid (WA7 v23 p3 m3 N3 b3 u3) := A3.out.below hb
          replace E5 : Hid (EQ7 v23 w.heap.size q5 l5 c5 u3) := E5.out.below hb
          replace hbw := Below.on hbw hb
          clear hb
          obtain ⟨cn0, cn1, cn2, cn3, cn4, fn0, fn1, fn2, fn3, fn4⟩ := Xn.out
          have hnen : gn < v23.heap.size := World.block_lt_of_cell? v23 _ cn0
          go_wp2_with fail
          clear cn0 cn1 cn2 cn3 cn4 fn0 fn1 fn2 fn3 fn4 hnen
          refine (same_t (SA.out.at_ AO.out.1.na_) M1.out).mono ?_
          rintro e v24 ⟨rfl, hb⟩
          have Sv24 : Hid (v23.heap.size ≤ v24.heap.size) := hb.size
          replace Xq : Hid _ := Xq.out.below hb
          replace Xn : Hid _ := Xn.out.below hb
          replace A1 : Hid (WA7 v24 p1 m1 N1 b1 u1) := A1.out.below hb
          replace A2 : Hid (WA7 v24 p2 m2 N2 b2 u2) := A2.out.below hb
          replace SA : Hid (SR v24 w.heap.size gA na za) := SA.out.below hb
          replace SB : Hid (SR v24 w.heap.size gB nb zb) := SB.out.below hb
          replace E1 : Hid (EQ7 v24 w.heap.size q1 l1 c1 u1) := E1.out.below hb
          replace E2 : Hid (EQ7 v24 w.heap.size q2 l2 c2 u1) := E2.out.below hb
          replace E3 : Hid (EQ7 v24 w.heap.size q3 l3 c3 u2) := E3.out.below hb
          replace E4 : Hid (EQ7 v24 w.heap.size q4 l4 c4 u1) := E4.out.below hb
          replace M1 : Hid _ := M1.out.below hb
          replace M2 : Hid _ := M2.out.below hb
          replace A3 : Hid (WA7 v24 p3 m3 N3 b3 u3) := A3.out.below hb
          replace E5 : Hid (EQ7 v24 w.heap.size q5 l5 c5 u3) := E5.out.below hb
          replace hbw := Below.on hbw hb
          clear hb
          obtain ⟨cn0, cn1, cn2, cn3, cn4, fn0, fn1, fn2, fn3, fn4⟩ := Xn.out
          have hnen : gn < v24.heap.size := World.block_lt_of_cell? v24 _ cn0
          go_wp2_with fail
          clear cn0 cn1 cn2 cn3 cn4 fn0 fn1 fn2 fn3 fn4 hnen
          refine (same_t (SB.out.at_ AO.out.1.nb_) M2.out).mono ?_
          rintro e v25 ⟨rfl, hb⟩
          have Sv25 : Hid (v24.heap.size ≤ v25.heap.size) := hb.size
          replace Xq : Hid _ := Xq.out.below hb
          replace Xn : Hid _ := Xn.out.below hb
          replace A1 : Hid (WA7 v25 p1 m1 N1 b1 u1) := A1.out.below hb
          replace A2 : Hid (WA7 v25 p2 m2 N2 b2 u2) := A2.out.below hb
          replace SA : Hid (SR v25 w.heap.size gA na za) := SA.out.below hb
          replace SB : Hid (SR v25 w.heap.size gB nb zb) := SB.out.below hb
          replace E1 : Hid (EQ7 v25 w.heap.size q1 l1 c1 u1) := E1.out.below hb
          replace E2 : Hid (EQ7 v25 w.heap.size q2 l2 c2 u1) := E2.out.below hb
          replace E3 : Hid (EQ7 v25 w.heap.size q3 l3 c3 u2) := E3.out.below hb
          replace E4 : Hid (EQ7 v25 w.heap.size q4 l4 c4 u1) := E4.out.below hb
          replace M1 : Hid _ := M1.out.below hb
          replace M2 : Hid _ := M2.out.below hb
          replace A3 : Hid (WA7 v25 p3 m3 N3 b3 u3) := A3.out.below hb
          replace E5 : Hid (EQ7 v25 w.heap.size q5 l5 c5 u3) := E5.out.below hb
          replace hbw := Below.on hbw hb
          clear hb
          clear M1
          clear M2
          clear Xn
          clear Xq
          go_wp2_with fail
          have C2 : Hid (v18.heap.size ≤ wLA.heap.size ∧ wLA.heap.size ≤ wLB.heap.size ∧ wLB.heap.size ≤ gn ∧ gn ≤ Wn.heap.size ∧ Wn.heap.size ≤ v21.heap.size ∧ v21.heap.size ≤ v22.heap.size) := ⟨SLA.out, SLB.out, Sv20.out, Nat.le_of_lt Sn.out, I3.out.2, K5.out.2⟩
          refine (over_ok SA.out.row (by have := AO.out.1.na_; omega)).mono ?_
          rintro e v26 ⟨rfl, ⟨yA, hRw⟩, hsz, hK, hbg⟩
          have HKP : Hid (True ∧ ∀ k, k ≠ gA → v26.heap[k]? = v25.heap[k]?) := ⟨trivial, hK⟩
          have FA : Hid (EQ7 v26 w.heap.size (some ⟨gA, 0, none⟩) (na + 80) gA yA) := ⟨.inr rfl, fun h => (by cases h), hRw, SA.out.ge, by have := AO.out.1.na_; omega⟩
          have hbw' := hbw.trans (hbg.mono SA.out.ge)
          clear hbw hRw hsz hK hbg
          have hbw := hbw'
          clear hbw'
          clear SA
          have A1' : Hid (WA7 v26 p1 m1 N1 b1 u1) := A1.out.keep (fun hc => HKP.out.2 b1 (by have := I1.out.1 hc; have := GA.out; have := GB.out; have := CH.out; have := C2.out; omega))
          clear A1
          have A1 := A1'
          clear A1'
          have A2' : Hid (WA7 v26 p2 m2 N2 b2 u2) := A2.out.keep (fun hc => HKP.out.2 b2 (by have := I2.out.1 hc; have := GA.out; have := GB.out; have := CH.out; have := C2.out; omega))
          clear A2
          have A2 := A2'
          clear A2'
          have A3' : Hid (WA7 v26 p3 m3 N3 b3 u3) := A3.out.keep (fun hc => HKP.out.2 b3 (by have := I3.out.1 hc; have := GA.out; have := GB.out; have := CH.out; have := C2.out; omega))
          clear A3
          have A3 := A3'
          clear A3'
          have E1' : Hid (EQ7 v26 w.heap.size q1 l1 c1 u1) := E1.out.keep (fun hc => HKP.out.2 c1 (by have := K1.out.1 hc; have := GA.out; have := GB.out; have := CH.out; have := C2.out; omega))
          clear E1
          have E1 := E1'
          clear E1'
          have E2' : Hid (EQ7 v26 w.heap.size q2 l2 c2 u1) := E2.out.keep (fun hc => HKP.out.2 c2 (by have := K2.out.1 hc; have := GA.out; have := GB.out; have := CH.out; have := C2.out; omega))
          clear E2
          have E2 := E2'
          clear E2'
          have E3' : Hid (EQ7 v26 w.heap.size q3 l3 c3 u2) := E3.out.keep (fun hc => HKP.out.2 c3 (by have := K3.out.1 hc; have := GA.out; have := GB.out; have := CH.out; have := C2.out; omega))
          clear E3
          have E3 := E3'
          clear E3'
          have E4' : Hid (EQ7 v26 w.heap.size q4 l4 c4 u1) := E4.out.keep (fun hc => HKP.out.2 c4 (by have := K4.out.1 hc; have := GA.out; have := GB.out; have := CH.out; have := C2.out; omega))
          clear E4
          have E4 := E4'
          clear E4'
          have E5' : Hid (EQ7 v26 w.heap.size q5 l5 c5 u3) := E5.out.keep (fun hc => HKP.out.2 c5 (by have := K5.out.1 hc; have := GA.out; have := GB.out; have := CH.out; have := C2.out; omega))
          clear E5
          have E5 := E5'
          clear E5'
          have SB' : Hid (SR v26 w.heap.size gB nb zb) := SB.out.keep (HKP.out.2 gB (by have := GA.out; have := GB.out; omega))
          clear SB
          have SB := SB'
          clear SB'
          clear HKP
          go_wp2_with fail
          refine (over_ok SB.out.row (by have := AO.out.1.nb_; omega)).mono ?_
          rintro e v27 ⟨rfl, ⟨yB, hRw⟩, hsz, hK, hbg⟩
          have HKP : Hid (True ∧ ∀ k, k ≠ gB → v27.heap[k]? = v26.heap[k]?) := ⟨trivial, hK⟩
          have FB : Hid (EQ7 v27 w.heap.size (some ⟨gB, 0, none⟩) (nb + 80) gB yB) := ⟨.inr rfl, fun h => (by cases h), hRw, SB.out.ge, by have := AO.out.1.nb_; omega⟩
          have hbw' := hbw.trans (hbg.mono SB.out.ge)
          clear hbw hRw hsz hK hbg
          have hbw := hbw'
          clear hbw'
          clear SB
          have A1' : Hid (WA7 v27 p1 m1 N1 b1 u1) := A1.out.keep (fun hc => HKP.out.2 b1 (by have := I1.out.1 hc; have := GA.out; have := GB.out; have := CH.out; have := C2.out; omega))
          clear A1
          have A1 := A1'
          clear A1'
          have A2' : Hid (WA7 v27 p2 m2 N2 b2 u2) := A2.out.keep (fun hc => HKP.out.2 b2 (by have := I2.out.1 hc; have := GA.out; have := GB.out; have := CH.out; have := C2.out; omega))
          clear A2
          have A2 := A2'
          clear A2'
          have A3' : Hid (WA7 v27 p3 m3 N3 b3 u3) := A3.out.keep (fun hc => HKP.out.2 b3 (by have := I3.out.1 hc; have := GA.out; have := GB.out; have := CH.out; have := C2.out; omega))
          clear A3
          have A3 := A3'
          clear A3'
          have E1' : Hid (EQ7 v27 w.heap.size q1 l1 c1 u1) := E1.out.keep (fun hc => HKP.out.2 c1 (by have := K1.out.1 hc; have := GA.out; have := GB.out; have := CH.out; have := C2.out; omega))
          clear E1
          have E1 := E1'
          clear E1'
          have E2' : Hid (EQ7 v27 w.heap.size q2 l2 c2 u1) := E2.out.keep (fun hc => HKP.out.2 c2 (by have := K2.out.1 hc; have := GA.out; have := GB.out; have := CH.out; have := C2.out; omega))
          clear E2
          have E2 := E2'
          clear E2'
          have E3' : Hid (EQ7 v27 w.heap.size q3 l3 c3 u2) := E3.out.keep (fun hc => HKP.out.2 c3 (by have := K3.out.1 hc; have := GA.out; have := GB.out; have := CH.out; have := C2.out; omega))
          clear E3
          have E3 := E3'
          clear E3'
          have E4' : Hid (EQ7 v27 w.heap.size q4 l4 c4 u1) := E4.out.keep (fun hc => HKP.out.2 c4 (by have := K4.out.1 hc; have := GA.out; have := GB.out; have := CH.out; have := C2.out; omega))
          clear E4
          have E4 := E4'
          clear E4'
          have E5' : Hid (EQ7 v27 w.heap.size q5 l5 c5 u3) := E5.out.keep (fun hc => HKP.out.2 c5 (by have := K5.out.1 hc; have := GA.out; have := GB.out; have := CH.out; have := C2.out; omega))
          clear E5
          have E5 := E5'
          clear E5'
          have FA' : Hid (EQ7 v27 w.heap.size (some ⟨gA, 0, none⟩) (na + 80) gA yA) := FA.out.keep (fun _ => HKP.out.2 gA (by have := GA.out; have := GB.out; omega))
          clear FA
          have FA := FA'
          clear FA'
          clear HKP
          go_wp2_with fail
          refine (same_t E1.out.at_ A1.out.at_).mono ?_
          rintro e v28 ⟨rfl, hb⟩
          have Sv28 : Hid (v27.heap.size ≤ v28.heap.size) := hb.size
          replace A1 : Hid (WA7 v28 p1 m1 N1 b1 u1) := A1.out.below hb
          replace A2 : Hid (WA7 v28 p2 m2 N2 b2 u2) := A2.out.below hb
          replace E1 : Hid (EQ7 v28 w.heap.size q1 l1 c1 u1) := E1.out.below hb
          replace E2 : Hid (EQ7 v28 w.heap.size q2 l2 c2 u1) := E2.out.below hb
          replace E3 : Hid (EQ7 v28 w.heap.size q3 l3 c3 u2) := E3.out.below hb
          replace E4 : Hid (EQ7 v28 w.heap.size q4 l4 c4 u1) := E4.out.below hb
          replace A3 : Hid (WA7 v28 p3 m3 N3 b3 u3) := A3.out.below hb
          replace E5 : Hid (EQ7 v28 w.heap.size q5 l5 c5 u3) := E5.out.below hb
          replace FA : Hid (EQ7 v28 w.heap.size (some ⟨gA, 0, none⟩) (na + 80) gA yA) := FA.out.below hb
          replace FB : Hid (EQ7 v28 w.heap.size (some ⟨gB, 0, none⟩) (nb + 80) gB yB) := FB.out.below hb
          replace hbw := Below.on hbw hb
          clear hb
          go_wp2_with fail
          refine (same_t E2.out.at_ A1.out.at_).mono ?_
          rintro e v29 ⟨rfl, hb⟩
          have Sv29 : Hid (v28.heap.size ≤ v29.heap.size) := hb.size
          replace A1 : Hid (WA7 v29 p1 m1 N1 b1 u1) := A1.out.below hb
          replace A2 : Hid (WA7 v29 p2 m2 N2 b2 u2) := A2.out.below hb
          replace E1 : Hid (EQ7 v29 w.heap.size q1 l1 c1 u1) := E1.out.below hb
          replace E2 : Hid (EQ7 v29 w.heap.size q2 l2 c2 u1) := E2.out.below hb
          replace E3 : Hid (EQ7 v29 w.heap.size q3 l3 c3 u2) := E3.out.below hb
          replace E4 : Hid (EQ7 v29 w.heap.size q4 l4 c4 u1) := E4.out.below hb
          replace A3 : Hid (WA7 v29 p3 m3 N3 b3 u3) := A3.out.below hb
          replace E5 : Hid (EQ7 v29 w.heap.size q5 l5 c5 u3) := E5.out.below hb
          replace FA : Hid (EQ7 v29 w.heap.size (some ⟨gA, 0, none⟩) (na + 80) gA yA) := FA.out.below hb
          replace FB : Hid (EQ7 v29 w.heap.size (some ⟨gB, 0, none⟩) (nb + 80) gB yB) := FB.out.below hb
          replace hbw := Below.on hbw hb
          clear hb
          go_wp2_with fail
          refine (same_t E3.out.at_ A2.out.at_).mono ?_
          rintro e v30 ⟨rfl, hb⟩
          have Sv30 : Hid (v29.heap.size ≤ v30.heap.size) := hb.size
          replace A1 : Hid (WA7 v30 p1 m1 N1 b1 u1) := A1.out.below hb
          replace A2 : Hid (WA7 v30 p2 m2 N2 b2 u2) := A2.out.below hb
          replace E1 : Hid (EQ7 v30 w.heap.size q1 l1 c1 u1) := E1.out.below hb
          replace E2 : Hid (EQ7 v30 w.heap.size q2 l2 c2 u1) := E2.out.below hb
          replace E3 : Hid (EQ7 v30 w.heap.size q3 l3 c3 u2) := E3.out.below hb
          replace E4 : Hid (EQ7 v30 w.heap.size q4 l4 c4 u1) := E4.out.below hb
          replace A3 : Hid (WA7 v30 p3 m3 N3 b3 u3) := A3.out.below hb
          replace E5 : Hid (EQ7 v30 w.heap.size q5 l5 c5 u3) := E5.out.below hb
          replace FA : Hid (EQ7 v30 w.heap.size (some ⟨gA, 0, none⟩) (na + 80) gA yA) := FA.out.below hb
          replace FB : Hid (EQ7 v30 w.heap.size (some ⟨gB, 0, none⟩) (nb + 80) gB yB) := FB.out.below hb
          replace hbw := Below.on hbw hb
          clear hb
          go_wp2_with fail
          refine (same_t E4.out.at_ A1.out.at_).mono ?_
          rintro e v31 ⟨rfl, hb⟩
          have Sv31 : Hid (v30.heap.size ≤ v31.heap.size) := hb.size
          replace A1 : Hid (WA7 v31 p1 m1 N1 b1 u1) := A1.out.below hb
          replace A2 : Hid (WA7 v31 p2 m2 N2 b2 u2) := A2.out.below hb
          replace E1 : Hid (EQ7 v31 w.heap.size q1 l1 c1 u1) := E1.out.below hb
          replace E2 : Hid (EQ7 v31 w.heap.size q2 l2 c2 u1) := E2.out.below hb
          replace E3 : Hid (EQ7 v31 w.heap.size q3 l3 c3 u2) := E3.out.below hb
          replace E4 : Hid (EQ7 v31 w.heap.size q4 l4 c4 u1) := E4.out.below hb
          replace A3 : Hid (WA7 v31 p3 m3 N3 b3 u3) := A3.out.below hb
          replace E5 : Hid (EQ7 v31 w.heap.size q5 l5 c5 u3) := E5.out.below hb
          replace FA : Hid (EQ7 v31 w.heap.size (some ⟨gA, 0, none⟩) (na + 80) gA yA) := FA.out.below hb
          replace FB : Hid (EQ7 v31 w.heap.size (some ⟨gB, 0, none⟩) (nb + 80) gB yB) := FB.out.below hb
          replace hbw := Below.on hbw hb
          clear hb
          go_wp2_with fail
          refine (same_t E5.out.at_ A3.out.at_).mono ?_
          rintro e v32 ⟨rfl, hb⟩
          have Sv32 : Hid (v31.heap.size ≤ v32.heap.size) := hb.size
          replace A1 : Hid (WA7 v32 p1 m1 N1 b1 u1) := A1.out.below hb
          replace A2 : Hid (WA7 v32 p2 m2 N2 b2 u2) := A2.out.below hb
          replace E1 : Hid (EQ7 v32 w.heap.size q1 l1 c1 u1) := E1.out.below hb
          replace E2 : Hid (EQ7 v32 w.heap.size q2 l2 c2 u1) := E2.out.below hb
          replace E3 : Hid (EQ7 v32 w.heap.size q3 l3 c3 u2) := E3.out.below hb
          replace E4 : Hid (EQ7 v32 w.heap.size q4 l4 c4 u1) := E4.out.below hb
          replace A3 : Hid (WA7 v32 p3 m3 N3 b3 u3) := A3.out.below hb
          replace E5 : Hid (EQ7 v32 w.heap.size q5 l5 c5 u3) := E5.out.below hb
          replace FA : Hid (EQ7 v32 w.heap.size (some ⟨gA, 0, none⟩) (na + 80) gA yA) := FA.out.below hb
          replace FB : Hid (EQ7 v32 w.heap.size (some ⟨gB, 0, none⟩) (nb + 80) gB yB) := FB.out.below hb
          replace hbw := Below.on hbw hb
          clear hb
          go_wp2_with fail
          clear A1
          clear A2
          clear A3
          have hbl := below1 v32 (.cells #[.slice q1 l1 l1, .slice q2 l2 l2, .slice q3 l3 l3, .slice q4 l4 l4, .slice q5 l5 l5, .slice (some ⟨gA, 0, none⟩) (na + 80) (na + 80), .slice (some ⟨gB, 0, none⟩) (nb + 80) (nb + 80)] 24)
          have HPW : Hid (([⟨q1, l1, c1, u1⟩, ⟨q2, l2, c2, u1⟩, ⟨q3, l3, c3, u2⟩, ⟨q4, l4, c4, u1⟩, ⟨q5, l5, c5, u3⟩, ⟨some ⟨gA, 0, none⟩, na + 80, gA, yA⟩, ⟨some ⟨gB, 0, none⟩, nb + 80, gB, yB⟩] : List EN7).Pairwise (fun a b => a.n ≠ 0 → b.n ≠ 0 → a.b ≠ b.b)) := pw7k (t := gq) (H1 := K1.out.1) (H2 := K2.out.1) (H3 := K3.out.1) (H4 := K4.out.1) (H5 := K5.out.1) (c1 := by have := CH.out; omega) (c2 := by have := CH.out; omega) (c3 := Nat.le_refl _) (c4 := by have := CH.out; have := C2.out; omega) (d1 := K1.out.2) (d2 := K2.out.2) (d3 := K3.out.2) (d4 := K4.out.2) (ht := by have := CH.out; omega) (hA := by have := GA.out; have := CH.out; omega) (hB := GB.out.2.1) (hAB := by have := GA.out; have := GB.out; omega)
          have HLQ := lq_list (w := v32.alloc (.cells #[.slice q1 l1 l1, .slice q2 l2 l2, .slice q3 l3 l3, .slice q4 l4 l4, .slice q5 l5 l5, .slice (some ⟨gA, 0, none⟩) (na + 80) (na + 80), .slice (some ⟨gB, 0, none⟩) (nb + 80) (nb + 80)] 24)) (B := w.heap.size) (go := v32.heap.size) ([⟨q1, l1, c1, u1⟩, ⟨q2, l2, c2, u1⟩, ⟨q3, l3, c3, u2⟩, ⟨q4, l4, c4, u1⟩, ⟨q5, l5, c5, u3⟩, ⟨some ⟨gA, 0, none⟩, na + 80, gA, yA⟩, ⟨some ⟨gB, 0, none⟩, nb + 80, gB, yB⟩] : List EN7) (List.forall_mem_cons.2 ⟨(E1.out.below hbl), (List.forall_mem_cons.2 ⟨(E2.out.below hbl), (List.forall_mem_cons.2 ⟨(E3.out.below hbl), (List.forall_mem_cons.2 ⟨(E4.out.below hbl), (List.forall_mem_cons.2 ⟨(E5.out.below hbl), (List.forall_mem_cons.2 ⟨(FA.out.below hbl), (List.forall_mem_cons.2 ⟨(FB.out.below hbl), (fun _ h => absurd h (List.not_mem_nil))⟩)⟩)⟩)⟩)⟩)⟩)⟩) (by intro i hi; have hi : i < 7 := hi; have h14 : i = 0 ∨ i = 1 ∨ i = 2 ∨ i = 3 ∨ i = 4 ∨ i = 5 ∨ i = 6 := (by omega); clear hi; rcases h14 with rfl | rfl | rfl | rfl | rfl | rfl | rfl <;> go_simp) (List.forall_mem_cons.2 ⟨(fun hc => Nat.ne_of_lt (E1.out.lt hc)), (List.forall_mem_cons.2 ⟨(fun hc => Nat.ne_of_lt (E2.out.lt hc)), (List.forall_mem_cons.2 ⟨(fun hc => Nat.ne_of_lt (E3.out.lt hc)), (List.forall_mem_cons.2 ⟨(fun hc => Nat.ne_of_lt (E4.out.lt hc)), (List.forall_mem_cons.2 ⟨(fun hc => Nat.ne_of_lt (E5.out.lt hc)), (List.forall_mem_cons.2 ⟨(fun hc => Nat.ne_of_lt (FA.out.lt hc)), (List.forall_mem_cons.2 ⟨(fun hc => Nat.ne_of_lt (FB.out.lt hc)), (fun _ h => absurd h (List.not_mem_nil))⟩)⟩)⟩)⟩)⟩)⟩)⟩) HPW.out
          refine (apart_ok (N := 7) (C := 7) HLQ (by decide) (by decide) (by decide) (by decide) (Nat.le_trans hbw.size hbl.size)).mono ?_
          rintro e v50 ⟨rfl, hb50⟩
          have hbz := (Below.on hbw hbl).trans hb50
          clear HLQ hbl hb50 HPW
          go_wp2_with fail
          go_ret
          exact ⟨rfl, hbz⟩
theorem digit_bit {b e : Nat} (hb : b = 2 ^ e) {xs : List Nat} (hd : Dig b xs) {D R : Nat} (hD : D < xs.length) (hR : R < e) : xs.getD D 0 / 2 ^ R % 2 = valB b xs / 2 ^ (e * D + R) % 2 := by
  have hbp : 0 < b := by rw [hb]; exact Nat.pow_pos (by decide)
  have h1 : valB b (xs.drop D) = valB b xs / b ^ D := by
    have h2 := valB_split b xs D (Nat.le_of_lt hD)
    have h3 := valB_lt hbp (hd.take D)
    rw [List.length_take, Nat.min_eq_left (Nat.le_of_lt hD)] at h3
    rw [h2, Nat.add_mul_div_left _ _ (Nat.pow_pos hbp), Nat.div_eq_of_lt h3, Nat.zero_add]
  have h4 := valB_drop b xs D hD
  have h5 : b ^ D = 2 ^ (e * D) := by rw [hb, ← Nat.pow_mul]
  rw [Nat.pow_add, ← Nat.div_div_eq_div_mul, ← h5, ← h1, h4]
  obtain ⟨k, hk⟩ : ∃ k, e = R + 1 + k := ⟨e - R - 1, by omega⟩
  have h6 : b = 2 ^ R * (2 * 2 ^ k) := by rw [hb, hk, Nat.pow_add, Nat.pow_add, Nat.pow_one, Nat.mul_assoc]
  rw [h6, Nat.mul_assoc (2 ^ R), Nat.add_mul_div_left _ _ (Nat.pow_pos (by decide)), Nat.mul_assoc 2, Nat.add_mul_mod_self_left]
theorem and_one_u64q (i : Nat) (_hi : i < B64) : bits BinOp.and IntKind.u64 (i : Int) 1 = ((i % 2 : Nat) : Int) := by
  have h1 : (BitVec.ofInt 64 1).toNat = 2 ^ 1 - 1 := by decide
  have key : (BitVec.ofInt 64 (i : Int) &&& BitVec.ofInt 64 1).toNat = ((i : Int) % ((2 ^ 64 : Nat) : Int)).toNat % 2 ^ 1 := by
    rw [BitVec.toNat_and, BitVec.toNat_ofInt, h1, Nat.and_two_pow_sub_one_eq_mod]
  show IntKind.u64.wrap ((BitVec.ofInt 64 (i : Int) &&& BitVec.ofInt 64 1).toNat : Nat) = _
  rw [key]
  simp only [IntKind.wrap, IntKind.signed, IntKind.bits]
  simp
  omega

theorem bit_any {p : Option Addr} {n c : Nat} {xs : List Nat} {w : World} (h : At w p n c xs) (_hn : n ≤ 17592186044416) (i : Nat) (hi : i ≤ 9223372036854775807) :
    Calls Tryd.prog 50 #[.slice p n c, .int .i64 i] w fun e w' => e = .returned (.bool (decide (valB B64 xs / 2 ^ i % 2 = 1))) ∧ w' = w := by
  have hl := h.len
  have cap := h.cap
  have big := h.big
  unfold maxLen at big
  obtain ⟨D, hD⟩ : ∃ D, D = i / 64 := ⟨_, rfl⟩
  obtain ⟨R, hR⟩ : ∃ R, R = i % 64 := ⟨_, rfl⟩
  have d1 : (i : Int).tdiv 64 = (D : Int) := by rw [Int.tdiv_eq_ediv_of_nonneg (by omega)]; omega
  have d2 : (i : Int).tmod 64 = (R : Int) := by rw [Int.tmod_eq_emod_of_nonneg (by omega)]; omega
  have hneg : ¬ (i : Int) < 0 := by omega
  have hDb : D ≤ 144115188075855871 := by omega
  have hR64 : R < 64 := by omega
  have hei : i = 64 * D + R := by omega
  obtain ⟨r, hr⟩ : ∃ r, r = decide (valB B64 xs / 2 ^ i % 2 = 1) := ⟨_, rfl⟩
  rw [← hr]
  by_cases hc : n ≤ D
  · have HR0 : Hid (r = false) := by
      show _ = _
      rw [hr]
      refine decide_eq_false ?_
      have h1 : valB B64 xs < 2 ^ i := by
        have h2 := valB_lt B64_pos h.dig
        rw [hl] at h2
        refine Nat.lt_of_lt_of_le h2 ?_
        rw [B64_pow]
        exact Nat.pow_le_pow_right (by decide) (by omega)
      rw [Nat.div_eq_of_lt h1]
      decide
    have hci : (n : Int) ≤ (D : Int) := by omega
    have hcb : decide (n ≤ D) = true := decide_eq_true hc
    clear hr hei hD hR h hl
    go_enter Tryd.func50, Tryd.ntmps50
    go_wp2_with fail
    go_ret
    exact ⟨by rw [HR0.out]; rfl, rfl⟩
  · have hDn : D < n := by omega
    have hcb : decide (n ≤ D) = false := decide_eq_false hc
    obtain ⟨g, off, rfl, hcs⟩ := h.cells.resolve_left (by omega)
    obtain ⟨x, hx⟩ : ∃ x, x = xs.getD D 0 := ⟨_, rfl⟩
    have hcx : w.cell? ⟨g, off + D, none⟩ = some (U x) := by rw [hx]; exact hcs D hDn
    have hxb : x < B64 := by rw [hx]; exact h.dig.getD B64_pos D
    obtain ⟨y, hy⟩ : ∃ y, y = x / 2 ^ R := ⟨_, rfl⟩
    have hyI : (x : Int) / 2 ^ R = (y : Int) := by rw [hy]; norm_cast
    have hyb : y < B64 := by rw [hy]; exact Nat.lt_of_le_of_lt (Nat.div_le_self _ _) hxb
    obtain ⟨z, hz⟩ : ∃ z, z = y % 2 := ⟨_, rfl⟩
    have hand : bits BinOp.and IntKind.u64 (y : Int) 1 = (z : Int) := by rw [hz]; exact and_one_u64q y hyb
    have HR1 : Hid (r = decide (z = 1)) := by
      show _ = _
      rw [hr, hz, hy, hx, digit_bit B64_two_pow h.dig (by rw [hl]; exact hDn) hR64, ← hei]
    have hwD : IntKind.i64.wrap (D : Int) = (D : Int) := by simp [IntKind.wrap, IntKind.signed, IntKind.bits]; omega
    clear hr hei hD hR h hl hcs hx hy hz hxb hyb
    go_enter Tryd.func50, Tryd.ntmps50
    go_wp2_with fail
    go_ret
    have hzz : ((z : Int) == 1) = decide (z = 1) := by rw [Bool.eq_iff_iff]; simp; omega
    exact ⟨by rw [HR1.out, ← hzz]; rfl, rfl⟩
theorem and_one_u32q (i : Nat) (_hi : i < B32) : bits BinOp.and IntKind.u32 (i : Int) 1 = ((i % 2 : Nat) : Int) := by
  have h1 : (BitVec.ofInt 32 1).toNat = 2 ^ 1 - 1 := by decide
  have key : (BitVec.ofInt 32 (i : Int) &&& BitVec.ofInt 32 1).toNat = ((i : Int) % ((2 ^ 32 : Nat) : Int)).toNat % 2 ^ 1 := by
    rw [BitVec.toNat_and, BitVec.toNat_ofInt, h1, Nat.and_two_pow_sub_one_eq_mod]
  show IntKind.u32.wrap ((BitVec.ofInt 32 (i : Int) &&& BitVec.ofInt 32 1).toNat : Nat) = _
  rw [key]
  simp only [IntKind.wrap, IntKind.signed, IntKind.bits]
  simp
  omega
theorem rbit_any {p : Option Addr} {n c : Nat} {xs : List Nat} {w : World} (h : At32 w p n c xs) (_hn : n ≤ 35184372088832) (i : Nat) (hi : i ≤ 9223372036854775807) :
    Calls Tryd.prog 76 #[.slice p n c, .int .i64 i] w fun e w' => e = .returned (.int .i64 (valB B32 xs / 2 ^ i % 2 : Nat)) ∧ w' = w := by
  have hl := h.len
  have cap := h.cap
  have big := h.big
  unfold maxLen at big
  obtain ⟨D, hD⟩ : ∃ D, D = i / 32 := ⟨_, rfl⟩
  obtain ⟨R, hR⟩ : ∃ R, R = i % 32 := ⟨_, rfl⟩
  have d1 : (i : Int).tdiv 32 = (D : Int) := by rw [Int.tdiv_eq_ediv_of_nonneg (by omega)]; omega
  have d2 : (i : Int).tmod 32 = (R : Int) := by rw [Int.tmod_eq_emod_of_nonneg (by omega)]; omega
  have hneg : ¬ (i : Int) < 0 := by omega
  have hDb : D ≤ 288230376151711743 := by omega
  have hR64 : R < 32 := by omega
  have hei : i = 32 * D + R := by omega
  obtain ⟨r, hr⟩ : ∃ r, r = valB B32 xs / 2 ^ i % 2 := ⟨_, rfl⟩
  rw [← hr]
  by_cases hc : n ≤ D
  · have HR0 : Hid (r = 0) := by
      show _ = _
      rw [hr]
      have h1 : valB B32 xs < 2 ^ i := by
        have h2 := valB_lt B32_pos h.dig
        rw [hl] at h2
        refine Nat.lt_of_lt_of_le h2 ?_
        rw [B32_pow]
        exact Nat.pow_le_pow_right (by decide) (by omega)
      rw [Nat.div_eq_of_lt h1]
    have hci : (n : Int) ≤ (D : Int) := by omega
    have hcb : decide (n ≤ D) = true := decide_eq_true hc
    clear hr hei hD hR h hl
    go_enter Tryd.func76, Tryd.ntmps76
    go_wp2_with fail
    go_ret
    exact ⟨by rw [HR0.out]; rfl, rfl⟩
  · have hDn : D < n := by omega
    have hcb : decide (n ≤ D) = false := decide_eq_false hc
    obtain ⟨g, off, rfl, hcs⟩ := h.cells.resolve_left (by omega)
    obtain ⟨x, hx⟩ : ∃ x, x = xs.getD D 0 := ⟨_, rfl⟩
    have hcx : w.cell? ⟨g, off + D, none⟩ = some (V x) := by rw [hx]; exact hcs D hDn
    have hxb : x < B32 := by rw [hx]; exact h.dig.getD B32_pos D
    obtain ⟨y, hy⟩ : ∃ y, y = x / 2 ^ R := ⟨_, rfl⟩
    have hyI : (x : Int) / 2 ^ R = (y : Int) := by rw [hy]; norm_cast
    have hyb : y < B32 := by rw [hy]; exact Nat.lt_of_le_of_lt (Nat.div_le_self _ _) hxb
    obtain ⟨z, hz⟩ : ∃ z, z = y % 2 := ⟨_, rfl⟩
    have hand : bits BinOp.and IntKind.u32 (y : Int) 1 = (z : Int) := by rw [hz]; exact and_one_u32q y hyb
    have HR1 : Hid (r = z) := by
      show _ = _
      rw [hr, hz, hy, hx, digit_bit (show B32 = 2 ^ 32 from rfl) h.dig (by rw [hl]; exact hDn) hR64, ← hei]
    have hz2 : z < 2 := by omega
    have hzw : IntKind.i64.wrap (z : Int) = (z : Int) := by simp [IntKind.wrap, IntKind.signed, IntKind.bits]; omega
    have hwD : IntKind.i64.wrap (D : Int) = (D : Int) := by simp [IntKind.wrap, IntKind.signed, IntKind.bits]; omega
    clear hr hei hD hR h hl hcs hx hy hz hxb hyb
    go_enter Tryd.func76, Tryd.ntmps76
    go_wp2_with fail
    go_ret
    exact ⟨by rw [HR1.out]; rfl, rfl⟩
def TzIs (v k : Nat) : Prop := v % 2 ^ k = 0 ∧ v / 2 ^ k % 2 = 1
theorem TzIs.inj {v k l : Nat} (h : TzIs v k) (h' : TzIs v l) : k = l := by
  have aux : ∀ {a b : Nat}, TzIs v a → TzIs v b → ¬ a < b := by
    intro a b ha hb hab
    obtain ⟨d, hd⟩ : ∃ d, b = a + (d + 1) := ⟨b - a - 1, by omega⟩
    have h1 := Nat.dvd_of_mod_eq_zero hb.1
    obtain ⟨q, hq⟩ := h1
    have h2 := ha.2
    rw [hq, hd, Nat.pow_add, Nat.mul_assoc, Nat.mul_div_cancel_left _ (Nat.pow_pos (by decide)), Nat.pow_succ, Nat.mul_comm (2 ^ d) 2, Nat.mul_assoc, Nat.mul_mod_right] at h2
    exact absurd h2 (by decide)
  rcases Nat.lt_trichotomy k l with e | e | e
  · exact absurd e (aux h h')
  · exact e
  · exact absurd e (aux h' h)
theorem TzIs.ex : ∀ (v : Nat), 0 < v → ∃ k, TzIs v k := by
  intro v
  induction v using Nat.strongRecOn with
  | _ v ih =>
    intro hv
    rcases Nat.mod_two_eq_zero_or_one v with h | h
    · obtain ⟨k, h1, h2⟩ := ih (v / 2) (by omega) (by omega)
      refine ⟨k + 1, ?_, ?_⟩
      · rw [Nat.pow_succ, Nat.mul_comm, Nat.mod_mul, h, h1]
      · rw [Nat.pow_succ, Nat.mul_comm, ← Nat.div_div_eq_div_mul]; exact h2
    · exact ⟨0, by rw [Nat.pow_zero, Nat.mod_one], by rw [Nat.pow_zero, Nat.div_one]; exact h⟩
theorem TzIs.ge {v k n : Nat} (h : TzIs v k) (hn : v % 2 ^ n = 0) : n ≤ k := by
  rcases Nat.lt_or_ge k n with e | e
  · exfalso
    obtain ⟨d, hd⟩ : ∃ d, n = k + (d + 1) := ⟨n - k - 1, by omega⟩
    obtain ⟨q, hq⟩ := Nat.dvd_of_mod_eq_zero hn
    have h2 := h.2
    rw [hq, hd, Nat.pow_add, Nat.mul_assoc, Nat.mul_div_cancel_left _ (Nat.pow_pos (by decide)), Nat.pow_succ, Nat.mul_comm (2 ^ d) 2, Nat.mul_assoc, Nat.mul_mod_right] at h2
    exact absurd h2 (by decide)
  · exact e
theorem tz_step {v n : Nat} (h : v % 2 ^ n = 0) (hb : v / 2 ^ n % 2 = 0) : v % 2 ^ (n + 1) = 0 := by
  rw [Nat.pow_succ, Nat.mod_mul, h, hb, Nat.mul_zero]

theorem rzeros_any {p : Option Addr} {n c : Nat} {xs : List Nat} {v k : Nat} {w : World} (h : At32 w p n c xs) (hx : Nf B32 xs v) (hn : n ≤ 35184372088832) (hk : TzIs v k) (hv : 0 < v) :
    Calls Tryd.prog 75 #[.slice p n c] w fun e w' => e = .returned (.int .i64 k) ∧ w' = w := by
  have HX : Hid (Nf B32 xs v) := hx
  have HA : Hid (At32 w p n c xs) := h
  have HK : Hid (TzIs v k) := hk
  have HV : Hid (0 < v) := hv
  have hl := h.len
  have cap := h.cap
  have big := h.big
  unfold maxLen at big
  have hn0 : 0 < n := by
    rcases Nat.eq_zero_or_pos n with e | e
    · exfalso
      rw [e] at hl
      have := hx.val
      rw [List.eq_nil_of_length_eq_zero hl] at this
      simp [valB] at this
      omega
    · exact e
  have hkb : k < 32 * n := by
    rcases Nat.lt_or_ge k (32 * n) with e | e
    · exact e
    · exfalso
      have h1 : v < 2 ^ k := by
        have h2 := valB_lt B32_pos hx.dig
        rw [hx.val, hl, B32_pow] at h2
        exact Nat.lt_of_lt_of_le h2 (Nat.pow_le_pow_right (by decide) e)
      have h3 := hk.2
      rw [Nat.div_eq_of_lt h1] at h3
      exact absurd h3 (by decide)
  have hne : ((n : Int) == 0) = false := by simp; omega
  have HL : Hid (xs.length = n) := hl
  obtain ⟨g, off, rfl, hcs⟩ := h.cells.resolve_left (by omega)
  have HCS : Hid (∀ j, j < n → w.cell? ⟨g, off + j, none⟩ = some (V (xs.getD j 0))) := hcs
  clear hx h hk hv hl hcs
  go_enter Tryd.func75, Tryd.ntmps75
  go_wp2_with fail
  go_loopg [3] n (fun gk nv wr => ∃ j M : Nat, j + gk = n ∧ nv = .int .i64 M ∧ M = 32 * j ∧ Hid (valB B32 (xs.take j) = 0) ∧ wr = w)
  case atStart => exact ⟨0, 0, by omega, rfl, rfl, by show _ = _; simp [valB], rfl⟩
  case round =>
    obtain ⟨j, M, hjg, rfl, hMj, HZ, hwr⟩ := hrel
    obtain rfl := hwr.symm
    clear hwr
    cases gk with
    | zero =>
      exfalso
      obtain rfl : j = n := by omega
      have h1 := HZ.out
      rw [List.take_of_length_le (by rw [HL.out]; omega), HX.out.val] at h1
      have h2 := HV.out
      omega
    | succ gg =>
      have hjn : j < n := by omega
      obtain ⟨x, hx⟩ : ∃ x, x = xs.getD j 0 := ⟨_, rfl⟩
      have hcx : w.cell? ⟨g, off + j, none⟩ = some (V x) := by rw [hx]; exact HCS.out j hjn
      have d1 : (M : Int).tdiv 32 = (j : Int) := by rw [Int.tdiv_eq_ediv_of_nonneg (by omega)]; omega
      have hjI : (j : Int) < (n : Int) := by omega
      have hwj : IntKind.i64.wrap (j : Int) = (j : Int) := by simp [IntKind.wrap, IntKind.signed, IntKind.bits]; omega
      have hMb : M ≤ 1125899906842624 := by omega
      have hjb : j ≤ 35184372088832 := by omega
      have HMj : Hid (M = 32 * j) := hMj
      clear hMj
      by_cases hx0 : x = 0
      · have HZ1 : Hid (valB B32 (xs.take (j + 1)) = 0) := by
          show _ = _
          rw [valB_take_any, HZ.out, ← hx, hx0, Nat.mul_zero]
        subst hx0
        clear hx HZ
        go_wp2_with fail
        go_roundg gg
        case measure => omega
        case rel => exact ⟨j + 1, M + 32, by omega, by go_num, by have := HMj.out; omega, HZ1, rfl⟩
      · have hxI : ((x : Int) == 0) = false := by simp; omega
        have HM0 : Hid (v % 2 ^ M = 0) := by
          show _ = _
          have h1 := valB_split B32 xs j (by rw [HL.out]; omega)
          rw [HMj.out, ← B32_pow, ← HX.out.val, h1, HZ.out, Nat.zero_add, Nat.mul_mod_right]
        have hMk : M ≤ k := HK.out.ge HM0.out
        clear hx HZ
        go_wp2_with fail
        go_loopg [3] (k - M) (fun gm nv wr => ∃ m : Nat, nv = .int .i64 m ∧ m + gm = k ∧ Hid (v % 2 ^ m = 0) ∧ wr = w)
        case atStart => exact ⟨M, rfl, by omega, HM0, rfl⟩
        case round =>
          obtain ⟨m, rfl, hmk, HB, hwr⟩ := hrel
          obtain rfl := hwr.symm
          clear hwr
          have hmb : m ≤ 1125899906842624 := by omega
          cases gk with
          | zero =>
            obtain rfl : m = k := by omega
            have hb1 := HK.out.2
            go_wp2_with fail
            refine (rbit_any HA.out hn m (by omega)).mono ?_
            rintro e w1 ⟨rfl, hw⟩
            rw [HX.out.val, hb1]
            obtain rfl := hw.symm
            clear hw hb1
            go_wp2_with fail
            go_ret
            exact ⟨rfl, rfl⟩
          | succ gg2 =>
            have hb0 : v / 2 ^ m % 2 = 0 := by
              rcases Nat.mod_two_eq_zero_or_one (v / 2 ^ m) with e | e
              · exact e
              · have := HK.out.inj ⟨HB.out, e⟩; omega
            have HB1 : Hid (v % 2 ^ (m + 1) = 0) := tz_step HB.out hb0
            go_wp2_with fail
            refine (rbit_any HA.out hn m (by omega)).mono ?_
            rintro e w1 ⟨rfl, hw⟩
            rw [HX.out.val, hb0]
            obtain rfl := hw.symm
            clear hw hb0
            go_wp2_with fail
            go_roundg gg2
            case measure => omega
            case rel => exact ⟨m + 1, by go_num, by omega, HB1, rfl⟩
def renTz : Ren := ⟨fun x => match x with | 29 => 74 | n => n, fun x => match x with | 0 => 0 | 3 => 3 | 4 => 4 | 5 => 5 | 22 => 23 | 25 => 70 | 54 => 96 | n => n, fun x => match x with | 1 => 2 | n => n⟩
theorem laysTz : Lays7.n29 Tryd.prog renTz :=
  { mixed := by kernel_rfl, f29 := Tryd.func74.trans (congrArg some (by kernel_rfl)),
    t0 := by kernel_rfl, a0 := fun w => by kernel_rfl, z0 := fun w => by kernel_rfl, v0 := fun w => by kernel_rfl, i0 := by kernel_rfl,
    t3 := Tryd.underlying3, a3 := Tryd.isAgg3, z3 := Tryd.sizeOf3, v3 := Tryd.zeroValue3, i3 := by kernel_rfl,
    t4 := Tryd.underlying4, a4 := Tryd.isAgg4, z4 := Tryd.sizeOf4, v4 := Tryd.zeroValue4, i4 := by kernel_rfl,
    t5 := Tryd.underlying5, a5 := Tryd.isAgg5, z5 := Tryd.sizeOf5, v5 := Tryd.zeroValue5, i5 := by kernel_rfl,
    t22 := Tryd.underlying23, a22 := Tryd.isAgg23, z22 := Tryd.sizeOf23, v22 := Tryd.zeroValue23, i22 := by kernel_rfl,
    t25 := Tryd.underlying70, a25 := Tryd.isAgg70, z25 := Tryd.sizeOf70, v25 := Tryd.zeroValue70, i25 := by kernel_rfl,
    t54 := Tryd.underlying96, a54 := Tryd.isAgg96, z54 := Tryd.sizeOf96, g1 := by kernel_rfl }

def Tab (w : World) : Prop := TabAt 2 Lib.deBruijn64tab w
theorem Tab.below {w w' : World} (h : Tab w) (hb : Below w.heap.size w w') : Tab w' := by
  intro j hj
  have h1 := h j hj
  have hl : 2 < w.heap.size := World.block_lt_of_cell? w _ h1
  exact (hb.cell (p := ⟨2, j, none⟩) hl).trans h1
theorem ctz_is {x : Nat} (h0 : x ≠ 0) (hx : x < B64) : TzIs x (Lib.ctz 64 x) ∧ Lib.ctz 64 x < 64 := by
  rw [B64_two_pow] at hx
  unfold Lib.ctz
  rw [if_neg h0]
  obtain ⟨m, hm, hk⟩ := Lib.ctzFrom_spec 64 x (by omega) hx
  generalize Lib.ctzFrom 64 x = k at *
  refine ⟨⟨?_, ?_⟩, hk⟩
  · rw [hm, Nat.mul_mod_right]
  · rw [hm, Nat.mul_div_cancel_left _ (Nat.pow_pos (by decide))]; omega
theorem tz_any {x r : Nat} (h0 : x ≠ 0) (hx : x < B64) (hr : TzIs x r) {w : World} (hT : Tab w) : Calls Tryd.prog 74 #[U x] w fun e w' => e = .returned (.int .i64 r) ∧ w' = w := by
  obtain ⟨h1, _⟩ := ctz_is h0 hx
  obtain rfl := hr.inj h1
  exact Any7.bits_TrailingZeros64 laysTz x (by rw [B64_eq] at hx; exact hx) w (fun _ => hT)

theorem tz_lift {xs : List Nat} (hd : Dig B64 xs) {j r : Nat} (hj : j < xs.length) (hz : valB B64 (xs.take j) = 0) (hr : TzIs (xs.getD j 0) r) (hr64 : r < 64) : TzIs (valB B64 xs) (64 * j + r) := by
  constructor
  · have h1 := valB_split B64 xs j (Nat.le_of_lt hj)
    have h2 := valB_drop B64 xs j hj
    rw [hz, Nat.zero_add, h2] at h1
    rw [h1, B64_pow, Nat.pow_add, Nat.mul_mod_mul_left]
    obtain ⟨k, hk⟩ : ∃ k, 64 = r + k := ⟨64 - r, by omega⟩
    have h3 : B64 = 2 ^ r * 2 ^ k := by rw [← Nat.pow_add, ← hk]; rfl
    rw [h3, Nat.mul_assoc, Nat.add_mul_mod_self_left, hr.1, Nat.mul_zero]
  · have h1 := digit_bit (b := B64) (e := 64) rfl hd hj hr64
    rw [← h1]
    exact hr.2

def TzO (v k : Nat) : Prop := (v = 0 ∧ k = 0) ∨ (v ≠ 0 ∧ TzIs v k)
theorem TzO.inj {v k l : Nat} (h : TzO v k) (h' : TzO v l) : k = l := by
  rcases h with ⟨h1, rfl⟩ | ⟨h1, h2⟩ <;> rcases h' with ⟨h3, rfl⟩ | ⟨h3, h4⟩
  · rfl
  · exact absurd h1 h3
  · exact absurd h3 h1
  · exact h2.inj h4
theorem TzO.ex (v : Nat) : ∃ k, TzO v k := by
  by_cases h : v = 0
  · exact ⟨0, .inl ⟨h, rfl⟩⟩
  · obtain ⟨k, hk⟩ := TzIs.ex v (by omega)
    exact ⟨k, .inr ⟨h, hk⟩⟩

theorem trail_any {p : Option Addr} {n c : Nat} {xs : List Nat} {k : Nat} {w : World} (h : At w p n c xs) (hn : n ≤ 17592186044416) (hk : TzO (valB B64 xs) k) (hT : Tab w) :
    Calls Tryd.prog 48 #[.slice p n c] w fun e w' => e = .returned (.int .i64 k) ∧ w' = w := by
  have HT : Hid (Tab w) := hT
  have HK : Hid (TzO (valB B64 xs) k) := hk
  have HD : Hid (Dig B64 xs) := h.dig
  have HL : Hid (xs.length = n) := h.len
  have cap := h.cap
  have big := h.big
  unfold maxLen at big
  have HC : Hid (n = 0 ∨ ∃ g off, p = some ⟨g, off, none⟩ ∧ ∀ j, j < n → w.cell? ⟨g, off + j, none⟩ = some (U (xs.getD j 0))) := h.cells
  clear h hk hT
  go_enter Tryd.func48, Tryd.ntmps48
  go_wp2_with fail
  go_loopg [6] n (fun gk iv wr => ∃ j : Nat, j + gk = n ∧ iv = .int .i64 j ∧ Hid (valB B64 (xs.take j) = 0) ∧ wr = w)
  case atStart => exact ⟨0, by omega, rfl, by show _ = _; simp [valB], rfl⟩
  case round =>
    obtain ⟨j, hjg, rfl, HZ, hwr⟩ := hrel
    obtain rfl := hwr.symm
    clear hwr
    cases gk with
    | zero =>
      obtain rfl : j = n := by omega
      have hnk : ¬ (j : Int) < (j : Int) := by omega
      have HK0 : Hid (k = 0) := by
        show _ = _
        have h1 := HZ.out
        rw [List.take_of_length_le (by rw [HL.out]; omega)] at h1
        exact HK.out.inj (.inl ⟨h1, rfl⟩)
      go_wp2_with fail
      go_ret
      exact ⟨ret_int (by have := HK0.out; omega), rfl⟩
    | succ gg =>
      have hjn : j < n := by omega
      obtain ⟨g, off, rfl, hcs⟩ := HC.out.resolve_left (by omega)
      obtain ⟨x, hx⟩ : ∃ x, x = xs.getD j 0 := ⟨_, rfl⟩
      have hcx : w.cell? ⟨g, off + j, none⟩ = some (U x) := by rw [hx]; exact hcs j hjn
      have hjI : (j : Int) < (n : Int) := by omega
      have hwj : IntKind.i64.wrap (j : Int) = (j : Int) := by simp [IntKind.wrap, IntKind.signed, IntKind.bits]; omega
      have hjb : j ≤ 17592186044416 := by omega
      have HXB : Hid (x < B64) := by show _ < _; rw [hx]; exact HD.out.getD B64_pos _
      clear hcs
      by_cases hx0 : x = 0
      · have HZ1 : Hid (valB B64 (xs.take (j + 1)) = 0) := by
          show _ = _
          rw [valB_take_any, HZ.out, ← hx, hx0, Nat.mul_zero]
        subst hx0
        clear hx HZ
        go_wp2_with fail
        go_roundg gg
        case measure => omega
        case rel => exact ⟨j + 1, by omega, by go_num, HZ1, rfl⟩
      · have hxI : ((x : Int) == 0) = false := by simp; omega
        obtain ⟨hr1, hr2⟩ := ctz_is hx0 HXB.out
        generalize Lib.ctz 64 x = r at *
        have HR : Hid (TzIs x r) := hr1
        have HKR : Hid (k = 64 * j + r) := by
          show _ = _
          have h1 := tz_lift HD.out (by rw [HL.out]; omega) HZ.out (hx ▸ hr1) hr2
          refine HK.out.inj (.inr ⟨fun e => ?_, h1⟩)
          have h2 := h1.2
          rw [e, Nat.zero_div] at h2
          exact absurd h2 (by decide)
        clear hr1 hx HZ
        go_wp2_with (go_at_call 74; refine (tz_any hx0 HXB.out HR.out HT.out).mono ?_; rintro e w' ⟨rfl, hw⟩; obtain rfl := hw.symm; clear hw)
        go_ret
        exact ⟨ret_int (by have := HKR.out; omega), rfl⟩
theorem docbits_any {p : Option Addr} {n c : Nat} {xs : List Nat} {w : World} (h : At w p n c xs) (hn : n ≤ 17592186044416) :
    Calls Tryd.prog 47 #[.slice p n c] w fun e w' => e = .returned (.int .i64 (bitsN (valB B64 xs))) ∧ Below w.heap.size w w' := by
  have HA : Hid (At w p n c xs) := h
  clear h
  obtain ⟨rr, hrr⟩ : ∃ rr, rr = bitsN (valB B64 xs) := ⟨_, rfl⟩
  rw [← hrr]
  have HRR : Hid (rr = bitsN (valB B64 xs)) := hrr
  clear hrr
  go_enter Tryd.func47, Tryd.ntmps47
  go_wp2_with fail
  refine (from_any HA.out (by omega)).mono ?_
  rintro e w1 ⟨g1, z1, rfl, hg1, hk1, hn1, hl1, hb1⟩
  have A1 : Hid (At32 w1 (some ⟨g1, 0, none⟩) z1.length z1.length z1) := hk1.at_ hn1.dig rfl (by unfold maxLen; omega)
  have N1 : Hid (Nf B32 z1 (valB B64 xs)) := hn1
  obtain ⟨l1, hl1e⟩ : ∃ l1, l1 = z1.length := ⟨_, rfl⟩
  have HLE : Hid (l1 = z1.length) := hl1e
  rw [← hl1e] at A1 hl1 ⊢
  clear hk1 hn1 hg1 hl1e HA
  go_wp2_with fail
  refine (rbits_any A1.out N1.out (by omega)).mono ?_
  rintro e w2 ⟨rfl, hw⟩
  rw [← HRR.out]
  obtain rfl := hw.symm
  clear hw
  go_wp2_with fail
  go_ret
  exact ⟨rfl, hb1⟩
theorem rzeros_nil (p : Option Addr) (c : Nat) (w : World) : Calls Tryd.prog 75 #[.slice p 0 c] w fun e w' => e = .returned (.int .i64 0) ∧ w' = w := by
  go_enter Tryd.func75, Tryd.ntmps75
  go_wp2_with fail
  go_ret
  exact ⟨rfl, rfl⟩
theorem doctrail_any {p : Option Addr} {n c : Nat} {xs : List Nat} {w : World} (h : At w p n c xs) (hn : n ≤ 17592186044416) {k : Nat} (hk : TzO (valB B64 xs) k) :
    Calls Tryd.prog 49 #[.slice p n c] w fun e w' => e = .returned (.int .i64 k) ∧ Below w.heap.size w w' := by
  have HA : Hid (At w p n c xs) := h
  clear h
  have HK : Hid (TzO (valB B64 xs) k) := hk
  clear hk
  go_enter Tryd.func49, Tryd.ntmps49
  go_wp2_with fail
  refine (from_any HA.out (by omega)).mono ?_
  rintro e w1 ⟨g1, z1, rfl, hg1, hk1, hn1, hl1, hb1⟩
  have A1 : Hid (At32 w1 (some ⟨g1, 0, none⟩) z1.length z1.length z1) := hk1.at_ hn1.dig rfl (by unfold maxLen; omega)
  have N1 : Hid (Nf B32 z1 (valB B64 xs)) := hn1
  obtain ⟨l1, hl1e⟩ : ∃ l1, l1 = z1.length := ⟨_, rfl⟩
  have HLE : Hid (l1 = z1.length) := hl1e
  rw [← hl1e] at A1 hl1 ⊢
  clear hk1 hn1 hg1 hl1e HA
  by_cases hv : valB B64 xs = 0
  · have hk0 : k = 0 := HK.out.inj (.inl ⟨hv, rfl⟩)
    have hz : l1 = 0 := by
      have h1 := N1.out
      rw [hv] at h1
      have h2 := h1.inj (by decide) (show Nf B32 [] 0 from ⟨Dig.nil _, by intro x hx; simp at hx, by simp [valB]⟩)
      rw [HLE.out, h2]; rfl
    subst hz
    subst hk0
    clear A1 N1 HLE HK
    go_wp2_with fail
    refine (rzeros_nil _ _ _).mono ?_
    rintro e w2 ⟨rfl, hw⟩
    obtain rfl := hw.symm
    clear hw
    go_wp2_with fail
    go_ret
    exact ⟨rfl, hb1⟩
  · have HT : Hid (TzIs (valB B64 xs) k) := by
      rcases HK.out with ⟨h1, _⟩ | ⟨_, h2⟩
      · exact absurd h1 hv
      · exact h2
    have HV : Hid (0 < valB B64 xs) := by show _ < _; omega
    clear hv HK HLE
    go_wp2_with fail
    refine (rzeros_any A1.out N1.out (by omega) HT.out HV.out).mono ?_
    rintro e w2 ⟨rfl, hw⟩
    obtain rfl := hw.symm
    clear hw
    go_wp2_with fail
    go_ret
    exact ⟨rfl, hb1⟩
theorem rbit_neg (p : Option Addr) (n c : Nat) (i : Int) (hi : i < 0) (w : World) : Calls Tryd.prog 76 #[.slice p n c, .int .i64 i] w fun e w' => e = .returned (.int .i64 0) ∧ w' = w := by
  have hb : decide (i < 0) = true := decide_eq_true hi
  go_enter Tryd.func76, Tryd.ntmps76
  go_wp2_with fail
  go_ret
  exact ⟨rfl, rfl⟩
theorem bit_neg (p : Option Addr) (n c : Nat) (i : Int) (hi : i < 0) (w : World) : Calls Tryd.prog 50 #[.slice p n c, .int .i64 i] w fun e w' => e = .returned (.bool false) ∧ w' = w := by
  have hb : decide (i < 0) = true := decide_eq_true hi
  go_enter Tryd.func50, Tryd.ntmps50
  go_wp2_with fail
  go_ret
  exact ⟨rfl, rfl⟩
def bitO (v : Nat) (i : Int) : Bool := if i < 0 then false else decide (v / 2 ^ i.toNat % 2 = 1)
theorem bit_int {p : Option Addr} {n c : Nat} {xs : List Nat} {w : World} (h : At w p n c xs) (hn : n ≤ 17592186044416) (i : Int) (hi : i ≤ 9223372036854775807) :
    Calls Tryd.prog 50 #[.slice p n c, .int .i64 i] w fun e w' => e = .returned (.bool (bitO (valB B64 xs) i)) ∧ w' = w := by
  by_cases h0 : i < 0
  · unfold bitO
    rw [if_pos h0]
    exact bit_neg p n c i h0 w
  · obtain ⟨m, rfl⟩ := Int.eq_ofNat_of_zero_le (by omega : 0 ≤ i)
    unfold bitO
    rw [if_neg h0, Int.toNat_natCast]
    exact bit_any h hn m (by omega)
theorem rbit_int {p : Option Addr} {n c : Nat} {xs : List Nat} {w : World} (h : At32 w p n c xs) (hn : n ≤ 35184372088832) (i : Int) (hi : i ≤ 9223372036854775807) :
    Calls Tryd.prog 76 #[.slice p n c, .int .i64 i] w fun e w' => ∃ r : Nat, e = .returned (.int .i64 r) ∧ ((r : Int) == 1) = bitO (valB B32 xs) i ∧ w' = w := by
  by_cases h0 : i < 0
  · refine (rbit_neg p n c i h0 w).mono ?_
    rintro e w' ⟨rfl, rfl⟩
    refine ⟨0, rfl, ?_, rfl⟩
    unfold bitO
    rw [if_pos h0]
    decide
  · obtain ⟨m, rfl⟩ := Int.eq_ofNat_of_zero_le (by omega : 0 ≤ i)
    refine (rbit_any h hn m (by omega)).mono ?_
    rintro e w' ⟨rfl, rfl⟩
    refine ⟨_, rfl, ?_, rfl⟩
    unfold bitO
    rw [if_neg h0, Int.toNat_natCast]
    rcases Nat.mod_two_eq_zero_or_one (valB B32 xs / 2 ^ m) with e | e <;> rw [e] <;> decide
theorem docbit_any {p : Option Addr} {n c : Nat} {xs : List Nat} {w : World} (h : At w p n c xs) (hn : n ≤ 17592186044416) (i : Int) (hi : i ≤ 9223372036854775807) :
    Calls Tryd.prog 51 #[.slice p n c, .int .i64 i] w fun e w' => e = .returned (.bool (bitO (valB B64 xs) i)) ∧ Below w.heap.size w w' := by
  have HA : Hid (At w p n c xs) := h
  clear h
  have HI : Hid (i ≤ 9223372036854775807) := hi
  clear hi
  obtain ⟨rr, hrr⟩ : ∃ rr, rr = bitO (valB B64 xs) i := ⟨_, rfl⟩
  rw [← hrr]
  have HRR : Hid (rr = bitO (valB B64 xs) i) := hrr
  clear hrr
  go_enter Tryd.func51, Tryd.ntmps51
  go_wp2_with fail
  refine (from_any HA.out (by omega)).mono ?_
  rintro e w1 ⟨g1, z1, rfl, hg1, hk1, hn1, hl1, hb1⟩
  have A1 : Hid (At32 w1 (some ⟨g1, 0, none⟩) z1.length z1.length z1) := hk1.at_ hn1.dig rfl (by unfold maxLen; omega)
  have N1 : Hid (Nf B32 z1 (valB B64 xs)) := hn1
  obtain ⟨l1, hl1e⟩ : ∃ l1, l1 = z1.length := ⟨_, rfl⟩
  have HLE : Hid (l1 = z1.length) := hl1e
  rw [← hl1e] at A1 hl1 ⊢
  clear hk1 hn1 hg1 hl1e HA
  go_wp2_with fail
  refine (rbit_int A1.out (by omega) i HI.out).mono ?_
  rintro e w2 ⟨r, rfl, hr, hw⟩
  rw [N1.out.val, ← HRR.out] at hr
  obtain rfl := hw.symm
  clear hw
  go_wp2_with fail
  go_ret
  exact ⟨rfl, hb1⟩
theorem doccmp_any {p q : Option Addr} {n c m d : Nat} {xs ys : List Nat} {w : World} (h : At w p n c xs) (hn : n ≤ 17592186044416) (k : At w q m d ys) (hm : m ≤ 17592186044416) :
    Calls Tryd.prog 52 #[.slice p n c, .slice q m d] w fun e w' => e = .returned (.int .i64 (cmpN (valB B64 xs) (valB B64 ys))) ∧ Below w.heap.size w w' := by
  have HA : Hid (At w p n c xs) := h
  have HB : Hid (At w q m d ys) := k
  clear h k
  obtain ⟨rr, hrr⟩ : ∃ rr, rr = cmpN (valB B64 xs) (valB B64 ys) := ⟨_, rfl⟩
  rw [← hrr]
  have HRR : Hid (rr = cmpN (valB B64 xs) (valB B64 ys)) := hrr
  clear hrr
  go_enter Tryd.func52, Tryd.ntmps52
  go_wp2_with fail
  refine (from_any HA.out (by omega)).mono ?_
  rintro e w1 ⟨g1, z1, rfl, hg1, hk1, hn1, hl1, hb1⟩
  have A1 : Hid (At32 w1 (some ⟨g1, 0, none⟩) z1.length z1.length z1) := hk1.at_ hn1.dig rfl (by unfold maxLen; omega)
  have N1 : Hid (Nf B32 z1 (valB B64 xs)) := hn1
  obtain ⟨l1, hl1e⟩ : ∃ l1, l1 = z1.length := ⟨_, rfl⟩
  have HLE : Hid (l1 = z1.length) := hl1e
  rw [← hl1e] at A1 hl1 ⊢
  clear hk1 hn1 hg1 hl1e HA
  have B1 : Hid (At w1 q m d ys) := HB.out.below hb1
  clear HB HLE
  go_wp2_with fail
  refine (from_any B1.out (by omega)).mono ?_
  rintro e w2 ⟨g2, z2, rfl, hg2, hk2, hn2, hl2, hb2⟩
  have A2 : Hid (At32 w2 (some ⟨g2, 0, none⟩) z2.length z2.length z2) := hk2.at_ hn2.dig rfl (by unfold maxLen; omega)
  have N2 : Hid (Nf B32 z2 (valB B64 ys)) := hn2
  have A1' : Hid (At32 w2 (some ⟨g1, 0, none⟩) l1 l1 z1) := A1.out.below hb2
  have hbw := Below.on hb1 hb2
  obtain ⟨l2, hl2e⟩ : ∃ l2, l2 = z2.length := ⟨_, rfl⟩
  rw [← hl2e] at A2 hl2 ⊢
  clear hk2 hn2 hg2 hl2e A1 hb1 hb2 B1
  go_wp2_with fail
  refine (rcmp_any A1'.out A2.out N1.out N2.out).mono ?_
  rintro e w3 ⟨rfl, r, hw⟩
  have HW : Hid (Below w.heap.size w w3) := by rw [hw]; exact bDrewN hbw r
  rw [← HRR.out]
  clear hw hbw
  go_wp2_with fail
  go_ret
  exact ⟨rfl, HW.out⟩
theorem saysK1 {pa pb pe pf : Option Addr} {na nb ca cb ce cf : Nat} {xa xb : List Nat} {nn : Int} {x : Nat} {w : World} (ho : OpA w pa na ca xa pb nb cb xb nn x) (ha : At w pe na ce xa) (hb : At w pf nb cf xb) (hT : Tab w) :
    Calls Tryd.prog 19 #[.agg #[.int .i64 1, .slice pa na ca, .slice pb nb cb, .int .i64 nn, U x], .slice pe na ce, .slice pf nb cf] w fun en w' => en = .returned (.bool true) ∧ Below w.heap.size w w' := by
  have AO : Hid (OpA w pa na ca xa pb nb cb xb nn x) := ho
  have HAB : Hid (At w pe na ce xa ∧ At w pf nb cf xb ∧ Tab w) := ⟨ha, hb, hT⟩
  clear ho ha hb hT
  obtain ⟨rr, hrr⟩ : ∃ rr, rr = formB xa := ⟨_, rfl⟩
  have HRR : Hid (rr = formB xa) := hrr
  have hff : (rr == rr) = true := by simp
  clear hrr
  go_enter Tryd.func19, Tryd.ntmps19
  go_wp2_with fail
  obtain ⟨W0, hW0⟩ : ∃ W0, W0 = (w.alloc (.cells #[.int .i64 1, .slice pa na ca, .slice pb nb cb, .int .i64 nn, U x] 26)) := ⟨_, rfl⟩
  have Xo : Hid (B5q W0 (w.heap.size) (.int .i64 1) (.slice pa na ca) (.slice pb nb cb) (.int .i64 nn) (U x)) := by rw [hW0]; exact ⟨by go_simp, by go_simp, by go_simp, by go_simp, by go_simp, by go_simp, by go_simp, by go_simp, by go_simp, by go_simp⟩
  have hb0 : Below w.heap.size w W0 := by rw [hW0]; exact below1 w _
  rw [← hW0]
  clear hW0
  have hbw : Below w.heap.size w w := Below.refl _ _
  obtain ⟨go, hgo⟩ : ∃ g, g = w.heap.size := ⟨_, rfl⟩
  have HGo : Hid (w.heap.size ≤ go) := by rw [hgo]; show _ ≤ _; omega
  rw [← hgo] at Xo
  try rw [← hgo]
  clear hgo
  replace hbw := Below.on hbw hb0
  clear hb0
  obtain ⟨co0, co1, co2, co3, co4, fo0, fo1, fo2, fo3, fo4⟩ := Xo.out
  have hneo : go < W0.heap.size := World.block_lt_of_cell? W0 _ co0
  go_wp2_with fail
  clear co0 co1 co2 co3 co4 fo0 fo1 fo2 fo3 fo4 hneo
  obtain ⟨W1, hW1⟩ : ∃ W1, W1 = W0.drew := ⟨_, rfl⟩
  have hbd : Below W0.heap.size W0 W1 := by rw [hW1]; exact bDrew1 (Below.refl _ _)
  replace Xo : Hid _ := Xo.out.below hbd
  replace hbw := Below.on hbw hbd
  clear hbd
  have HJ : Hid ((fun W' : World => W'.cell? ⟨go, 1, none⟩ = some (.slice pa na ca)) W1) := Xo.out.c1
  refine wp_region_J (fun W' => W'.cell? ⟨go, 1, none⟩ = some (.slice pa na ca)) (by kernel_rfl) ?_
  rw [← hW1]
  clear hW1
  refine wpJ_tk 0 (v := ?v1x0) rfl ?hy1x0 HJ.out ?_
  case hy1x0 => (intro W' hJ; have j0 := hJ; go_simp; first | done | with_reducible rfl)
  refine wpJ_tk 2 (v := ?v2x2) rfl ?hy2x2 HJ.out ?_
  case hy2x2 => (intro W' hJ; have j0 := hJ; go_simp; first | done | with_reducible rfl)
  refine wpJ_tk 3 (v := ?v3x3) rfl ?hy3x3 HJ.out ?_
  case hy3x3 => (intro W' hJ; have j0 := hJ; go_simp; first | done | with_reducible rfl)
  refine wpJ_on 1 rfl fun KJ hK => ?_
  go_simp
  refine (form_any (HAB.out.1.below hbw)).mono ?_
  rintro e w' ⟨rfl, hw⟩
  rw [← HRR.out]
  obtain rfl := hw.symm
  clear hw
  refine hK _ _ Xo.out.c1 ?_
  clear hK
  refine wpJ_on 4 rfl fun KJ hK => ?_
  go_simp
  refine (docform_any (AO.out.a.below hbw)).mono ?_
  rintro e w' ⟨rfl, hw⟩
  rw [← HRR.out]
  obtain rfl := hw.symm
  clear hw
  clear HJ
  have HJ : Hid ((fun W' : World => W'.cell? ⟨go, 1, none⟩ = some (.slice pa na ca)) W1) := Xo.out.c1
  refine hK _ _ HJ.out ?_
  clear hK
  refine wpJ_tk 5 (v := ?v4x5) rfl ?hy4x5 HJ.out ?_
  case hy4x5 => (intro W' hJ; have j0 := hJ; go_simp; first | done | with_reducible rfl)
  refine wpJ_tk 6 (v := ?v5x6) rfl ?hy5x6 HJ.out ?_
  case hy5x6 => (intro W' hJ; have j0 := hJ; go_simp; first | done | with_reducible rfl)
  refine wpJ_done (by kernel_rfl) ?_ _
  clear HJ
  go_wp2_with fail
  go_ret
  exact ⟨rfl, hbw⟩
theorem saysK4 {pa pb pe pf : Option Addr} {na nb ca cb ce cf : Nat} {xa xb : List Nat} {nn : Int} {x : Nat} {w : World} (ho : OpA w pa na ca xa pb nb cb xb nn x) (ha : At w pe na ce xa) (hb : At w pf nb cf xb) (hT : Tab w) :
    Calls Tryd.prog 19 #[.agg #[.int .i64 4, .slice pa na ca, .slice pb nb cb, .int .i64 nn, U x], .slice pe na ce, .slice pf nb cf] w fun en w' => en = .returned (.bool true) ∧ Below w.heap.size w w' := by
  have AO : Hid (OpA w pa na ca xa pb nb cb xb nn x) := ho
  have HAB : Hid (At w pe na ce xa ∧ At w pf nb cf xb ∧ Tab w) := ⟨ha, hb, hT⟩
  clear ho ha hb hT
  obtain ⟨rr, hrr⟩ : ∃ rr, rr = bitsN (valB B64 xa) := ⟨_, rfl⟩
  have HRR : Hid (rr = bitsN (valB B64 xa)) := hrr
  have hff : ((rr : Int) == (rr : Int)) = true := by simp
  clear hrr
  go_enter Tryd.func19, Tryd.ntmps19
  go_wp2_with fail
  obtain ⟨W0, hW0⟩ : ∃ W0, W0 = (w.alloc (.cells #[.int .i64 4, .slice pa na ca, .slice pb nb cb, .int .i64 nn, U x] 26)) := ⟨_, rfl⟩
  have Xo : Hid (B5q W0 (w.heap.size) (.int .i64 4) (.slice pa na ca) (.slice pb nb cb) (.int .i64 nn) (U x)) := by rw [hW0]; exact ⟨by go_simp, by go_simp, by go_simp, by go_simp, by go_simp, by go_simp, by go_simp, by go_simp, by go_simp, by go_simp⟩
  have hb0 : Below w.heap.size w W0 := by rw [hW0]; exact below1 w _
  rw [← hW0]
  clear hW0
  have hbw : Below w.heap.size w w := Below.refl _ _
  obtain ⟨go, hgo⟩ : ∃ g, g = w.heap.size := ⟨_, rfl⟩
  have HGo : Hid (w.heap.size ≤ go) := by rw [hgo]; show _ ≤ _; omega
  rw [← hgo] at Xo
  try rw [← hgo]
  clear hgo
  replace hbw := Below.on hbw hb0
  clear hb0
  obtain ⟨co0, co1, co2, co3, co4, fo0, fo1, fo2, fo3, fo4⟩ := Xo.out
  have hneo : go < W0.heap.size := World.block_lt_of_cell? W0 _ co0
  go_wp2_with fail
  clear co0 co1 co2 co3 co4 fo0 fo1 fo2 fo3 fo4 hneo
  obtain ⟨W1, hW1⟩ : ∃ W1, W1 = W0.drew := ⟨_, rfl⟩
  have hbd : Below W0.heap.size W0 W1 := by rw [hW1]; exact bDrew1 (Below.refl _ _)
  replace Xo : Hid _ := Xo.out.below hbd
  replace hbw := Below.on hbw hbd
  clear hbd
  have HJ : Hid ((fun W' : World => W'.cell? ⟨go, 1, none⟩ = some (.slice pa na ca)) W1) := Xo.out.c1
  refine wp_region_J (fun W' => W'.cell? ⟨go, 1, none⟩ = some (.slice pa na ca)) (by kernel_rfl) ?_
  rw [← hW1]
  clear hW1
  refine wpJ_tk 0 (v := ?v6x0) rfl ?hy6x0 HJ.out ?_
  case hy6x0 => (intro W' hJ; have j0 := hJ; go_simp; first | done | with_reducible rfl)
  refine wpJ_tk 2 (v := ?v7x2) rfl ?hy7x2 HJ.out ?_
  case hy7x2 => (intro W' hJ; have j0 := hJ; go_simp; first | done | with_reducible rfl)
  refine wpJ_tk 3 (v := ?v8x3) rfl ?hy8x3 HJ.out ?_
  case hy8x3 => (intro W' hJ; have j0 := hJ; go_simp; first | done | with_reducible rfl)
  refine wpJ_on 1 rfl fun KJ hK => ?_
  go_simp
  refine (bits_any (HAB.out.1.below hbw) AO.out.na_).mono ?_
  rintro e w' ⟨rfl, hw⟩
  rw [← HRR.out]
  obtain rfl := hw.symm
  clear hw
  refine hK _ _ Xo.out.c1 ?_
  clear hK
  refine wpJ_on 4 rfl fun KJ hK => ?_
  go_simp
  refine (docbits_any (AO.out.a.below hbw) AO.out.na_).mono ?_
  rintro e w8 ⟨rfl, hb⟩
  rw [← HRR.out]
  replace Xo : Hid _ := Xo.out.below hb
  replace hbw := Below.on hbw hb
  clear hb
  clear HJ
  have HJ : Hid ((fun W' : World => W'.cell? ⟨go, 1, none⟩ = some (.slice pa na ca)) w8) := Xo.out.c1
  refine hK _ _ HJ.out ?_
  clear hK
  refine wpJ_tk 5 (v := ?v9x5) rfl ?hy9x5 HJ.out ?_
  case hy9x5 => (intro W' hJ; have j0 := hJ; go_simp; first | done | with_reducible rfl)
  refine wpJ_tk 6 (v := ?v10x6) rfl ?hy10x6 HJ.out ?_
  case hy10x6 => (intro W' hJ; have j0 := hJ; go_simp; first | done | with_reducible rfl)
  refine wpJ_done (by kernel_rfl) ?_ _
  clear HJ
  go_wp2_with fail
  go_ret
  exact ⟨rfl, hbw⟩
theorem saysK5 {pa pb pe pf : Option Addr} {na nb ca cb ce cf : Nat} {xa xb : List Nat} {nn : Int} {x : Nat} {w : World} (ho : OpA w pa na ca xa pb nb cb xb nn x) (ha : At w pe na ce xa) (hb : At w pf nb cf xb) (hT : Tab w) :
    Calls Tryd.prog 19 #[.agg #[.int .i64 5, .slice pa na ca, .slice pb nb cb, .int .i64 nn, U x], .slice pe na ce, .slice pf nb cf] w fun en w' => en = .returned (.bool true) ∧ Below w.heap.size w w' := by
  have AO : Hid (OpA w pa na ca xa pb nb cb xb nn x) := ho
  have HAB : Hid (At w pe na ce xa ∧ At w pf nb cf xb ∧ Tab w) := ⟨ha, hb, hT⟩
  clear ho ha hb hT
  obtain ⟨k0, hk0⟩ := TzO.ex (valB B64 xa)
  have HK0 : Hid (TzO (valB B64 xa) k0) := hk0
  clear hk0
  obtain ⟨rr, hrr⟩ : ∃ rr, rr = k0 := ⟨_, rfl⟩
  have HRR : Hid (rr = k0) := hrr
  have hff : ((rr : Int) == (rr : Int)) = true := by simp
  clear hrr
  go_enter Tryd.func19, Tryd.ntmps19
  go_wp2_with fail
  obtain ⟨W0, hW0⟩ : ∃ W0, W0 = (w.alloc (.cells #[.int .i64 5, .slice pa na ca, .slice pb nb cb, .int .i64 nn, U x] 26)) := ⟨_, rfl⟩
  have Xo : Hid (B5q W0 (w.heap.size) (.int .i64 5) (.slice pa na ca) (.slice pb nb cb) (.int .i64 nn) (U x)) := by rw [hW0]; exact ⟨by go_simp, by go_simp, by go_simp, by go_simp, by go_simp, by go_simp, by go_simp, by go_simp, by go_simp, by go_simp⟩
  have hb0 : Below w.heap.size w W0 := by rw [hW0]; exact below1 w _
  rw [← hW0]
  clear hW0
  have hbw : Below w.heap.size w w := Below.refl _ _
  obtain ⟨go, hgo⟩ : ∃ g, g = w.heap.size := ⟨_, rfl⟩
  have HGo : Hid (w.heap.size ≤ go) := by rw [hgo]; show _ ≤ _; omega
  rw [← hgo] at Xo
  try rw [← hgo]
  clear hgo
  replace hbw := Below.on hbw hb0
  clear hb0
  obtain ⟨co0, co1, co2, co3, co4, fo0, fo1, fo2, fo3, fo4⟩ := Xo.out
  have hneo : go < W0.heap.size := World.block_lt_of_cell? W0 _ co0
  go_wp2_with fail
  clear co0 co1 co2 co3 co4 fo0 fo1 fo2 fo3 fo4 hneo
  obtain ⟨W1, hW1⟩ : ∃ W1, W1 = W0.drew := ⟨_, rfl⟩
  have hbd : Below W0.heap.size W0 W1 := by rw [hW1]; exact bDrew1 (Below.refl _ _)
  replace Xo : Hid _ := Xo.out.below hbd
  replace hbw := Below.on hbw hbd
  clear hbd
  have HJ : Hid ((fun W' : World => W'.cell? ⟨go, 1, none⟩ = some (.slice pa na ca)) W1) := Xo.out.c1
  refine wp_region_J (fun W' => W'.cell? ⟨go, 1, none⟩ = some (.slice pa na ca)) (by kernel_rfl) ?_
  rw [← hW1]
  clear hW1
  refine wpJ_tk 0 (v := ?v11x0) rfl ?hy11x0 HJ.out ?_
  case hy11x0 => (intro W' hJ; have j0 := hJ; go_simp; first | done | with_reducible rfl)
  refine wpJ_tk 2 (v := ?v12x2) rfl ?hy12x2 HJ.out ?_
  case hy12x2 => (intro W' hJ; have j0 := hJ; go_simp; first | done | with_reducible rfl)
  refine wpJ_tk 3 (v := ?v13x3) rfl ?hy13x3 HJ.out ?_
  case hy13x3 => (intro W' hJ; have j0 := hJ; go_simp; first | done | with_reducible rfl)
  refine wpJ_on 1 rfl fun KJ hK => ?_
  go_simp
  refine (trail_any (HAB.out.1.below hbw) AO.out.na_ HK0.out (HAB.out.2.2.below hbw)).mono ?_
  rintro e w' ⟨rfl, hw⟩
  rw [← HRR.out]
  obtain rfl := hw.symm
  clear hw
  refine hK _ _ Xo.out.c1 ?_
  clear hK
  refine wpJ_on 4 rfl fun KJ hK => ?_
  go_simp
  refine (doctrail_any (AO.out.a.below hbw) AO.out.na_ HK0.out).mono ?_
  rintro e w8 ⟨rfl, hb⟩
  rw [← HRR.out]
  replace Xo : Hid _ := Xo.out.below hb
  replace hbw := Below.on hbw hb
  clear hb
  clear HJ
  have HJ : Hid ((fun W' : World => W'.cell? ⟨go, 1, none⟩ = some (.slice pa na ca)) w8) := Xo.out.c1
  refine hK _ _ HJ.out ?_
  clear hK
  refine wpJ_tk 5 (v := ?v14x5) rfl ?hy14x5 HJ.out ?_
  case hy14x5 => (intro W' hJ; have j0 := hJ; go_simp; first | done | with_reducible rfl)
  refine wpJ_tk 6 (v := ?v15x6) rfl ?hy15x6 HJ.out ?_
  case hy15x6 => (intro W' hJ; have j0 := hJ; go_simp; first | done | with_reducible rfl)
  refine wpJ_done (by kernel_rfl) ?_ _
  clear HJ
  go_wp2_with fail
  go_ret
  exact ⟨rfl, hbw⟩
theorem saysK6 {pa pb pe pf : Option Addr} {na nb ca cb ce cf : Nat} {xa xb : List Nat} {nn : Int} {x : Nat} {w : World} (ho : OpA w pa na ca xa pb nb cb xb nn x) (ha : At w pe na ce xa) (hb : At w pf nb cf xb) (hT : Tab w) :
    Calls Tryd.prog 19 #[.agg #[.int .i64 6, .slice pa na ca, .slice pb nb cb, .int .i64 nn, U x], .slice pe na ce, .slice pf nb cf] w fun en w' => en = .returned (.bool true) ∧ Below w.heap.size w w' := by
  have AO : Hid (OpA w pa na ca xa pb nb cb xb nn x) := ho
  have HAB : Hid (At w pe na ce xa ∧ At w pf nb cf xb ∧ Tab w) := ⟨ha, hb, hT⟩
  clear ho ha hb hT
  obtain ⟨rr, hrr⟩ : ∃ rr, rr = bitO (valB B64 xa) nn := ⟨_, rfl⟩
  have HRR : Hid (rr = bitO (valB B64 xa) nn) := hrr
  have hff : (rr == rr) = true := by simp
  clear hrr
  go_enter Tryd.func19, Tryd.ntmps19
  go_wp2_with fail
  obtain ⟨W0, hW0⟩ : ∃ W0, W0 = (w.alloc (.cells #[.int .i64 6, .slice pa na ca, .slice pb nb cb, .int .i64 nn, U x] 26)) := ⟨_, rfl⟩
  have Xo : Hid (B5q W0 (w.heap.size) (.int .i64 6) (.slice pa na ca) (.slice pb nb cb) (.int .i64 nn) (U x)) := by rw [hW0]; exact ⟨by go_simp, by go_simp, by go_simp, by go_simp, by go_simp, by go_simp, by go_simp, by go_simp, by go_simp, by go_simp⟩
  have hb0 : Below w.heap.size w W0 := by rw [hW0]; exact below1 w _
  rw [← hW0]
  clear hW0
  have hbw : Below w.heap.size w w := Below.refl _ _
  obtain ⟨go, hgo⟩ : ∃ g, g = w.heap.size := ⟨_, rfl⟩
  have HGo : Hid (w.heap.size ≤ go) := by rw [hgo]; show _ ≤ _; omega
  rw [← hgo] at Xo
  try rw [← hgo]
  clear hgo
  replace hbw := Below.on hbw hb0
  clear hb0
  obtain ⟨co0, co1, co2, co3, co4, fo0, fo1, fo2, fo3, fo4⟩ := Xo.out
  have hneo : go < W0.heap.size := World.block_lt_of_cell? W0 _ co0
  go_wp2_with fail
  clear co0 co1 co2 co3 co4 fo0 fo1 fo2 fo3 fo4 hneo
  obtain ⟨W1, hW1⟩ : ∃ W1, W1 = W0.drew := ⟨_, rfl⟩
  have hbd : Below W0.heap.size W0 W1 := by rw [hW1]; exact bDrew1 (Below.refl _ _)
  replace Xo : Hid _ := Xo.out.below hbd
  replace hbw := Below.on hbw hbd
  clear hbd
  have HJ : Hid ((fun W' : World => W'.cell? ⟨go, 1, none⟩ = some (.slice pa na ca) ∧ W'.cell? ⟨go, 3, none⟩ = some (.int .i64 nn)) W1) := ⟨Xo.out.c1, Xo.out.c3⟩
  refine wp_region_J (fun W' => W'.cell? ⟨go, 1, none⟩ = some (.slice pa na ca) ∧ W'.cell? ⟨go, 3, none⟩ = some (.int .i64 nn)) (by kernel_rfl) ?_
  rw [← hW1]
  clear hW1
  refine wpJ_tq 0 rfl HJ.out ?_
  refine wpJ_tq 1 rfl HJ.out ?_
  refine wpJ_tq 2 rfl HJ.out ?_
  refine wpJ_tq 4 rfl HJ.out ?_
  refine wpJ_tq 5 rfl HJ.out ?_
  go_simp
  refine wpJ_tq 6 rfl HJ.out ?_
  refine wpJ_tq 7 rfl HJ.out ?_
  refine wpJ_on 3 rfl fun KJ hK => ?_
  go_simp
  refine (bit_int (HAB.out.1.below hbw) AO.out.na_ nn AO.out.nn_).mono ?_
  rintro e w' ⟨rfl, hw⟩
  rw [← HRR.out]
  obtain rfl := hw.symm
  clear hw
  refine hK _ _ ⟨Xo.out.c1, Xo.out.c3⟩ ?_
  clear hK
  refine wpJ_on 8 rfl fun KJ hK => ?_
  go_simp
  refine (docbit_any (AO.out.a.below hbw) AO.out.na_ nn AO.out.nn_).mono ?_
  rintro e w8 ⟨rfl, hb⟩
  rw [← HRR.out]
  replace Xo : Hid _ := Xo.out.below hb
  replace hbw := Below.on hbw hb
  clear hb
  clear HJ
  have HJ : Hid ((fun W' : World => W'.cell? ⟨go, 1, none⟩ = some (.slice pa na ca) ∧ W'.cell? ⟨go, 3, none⟩ = some (.int .i64 nn)) w8) := ⟨Xo.out.c1, Xo.out.c3⟩
  refine hK _ _ HJ.out ?_
  clear hK
  refine wpJ_tq 9 rfl HJ.out ?_
  refine wpJ_tq 10 rfl HJ.out ?_
  refine wpJ_done (by kernel_rfl) ?_ _
  clear HJ
  go_wp2_with fail
  go_ret
  exact ⟨rfl, hbw⟩
theorem saysK7 {pa pb pe pf : Option Addr} {na nb ca cb ce cf : Nat} {xa xb : List Nat} {nn : Int} {x : Nat} {w : World} (ho : OpA w pa na ca xa pb nb cb xb nn x) (ha : At w pe na ce xa) (hb : At w pf nb cf xb) (hT : Tab w) :
    Calls Tryd.prog 19 #[.agg #[.int .i64 7, .slice pa na ca, .slice pb nb cb, .int .i64 nn, U x], .slice pe na ce, .slice pf nb cf] w fun en w' => en = .returned (.bool true) ∧ Below w.heap.size w w' := by
  have AO : Hid (OpA w pa na ca xa pb nb cb xb nn x) := ho
  have HAB : Hid (At w pe na ce xa ∧ At w pf nb cf xb ∧ Tab w) := ⟨ha, hb, hT⟩
  clear ho ha hb hT
  obtain ⟨rr, hrr⟩ : ∃ rr, rr = cmpN (valB B64 xa) (valB B64 xb) := ⟨_, rfl⟩
  have HRR : Hid (rr = cmpN (valB B64 xa) (valB B64 xb)) := hrr
  have hff : (rr == rr) = true := by simp
  clear hrr
  go_enter Tryd.func19, Tryd.ntmps19
  go_wp2_with fail
  obtain ⟨W0, hW0⟩ : ∃ W0, W0 = (w.alloc (.cells #[.int .i64 7, .slice pa na ca, .slice pb nb cb, .int .i64 nn, U x] 26)) := ⟨_, rfl⟩
  have Xo : Hid (B5q W0 (w.heap.size) (.int .i64 7) (.slice pa na ca) (.slice pb nb cb) (.int .i64 nn) (U x)) := by rw [hW0]; exact ⟨by go_simp, by go_simp, by go_simp, by go_simp, by go_simp, by go_simp, by go_simp, by go_simp, by go_simp, by go_simp⟩
  have hb0 : Below w.heap.size w W0 := by rw [hW0]; exact below1 w _
  rw [← hW0]
  clear hW0
  have hbw : Below w.heap.size w w := Below.refl _ _
  obtain ⟨go, hgo⟩ : ∃ g, g = w.heap.size := ⟨_, rfl⟩
  have HGo : Hid (w.heap.size ≤ go) := by rw [hgo]; show _ ≤ _; omega
  rw [← hgo] at Xo
  try rw [← hgo]
  clear hgo
  replace hbw := Below.on hbw hb0
  clear hb0
  obtain ⟨co0, co1, co2, co3, co4, fo0, fo1, fo2, fo3, fo4⟩ := Xo.out
  have hneo : go < W0.heap.size := World.block_lt_of_cell? W0 _ co0
  go_wp2_with fail
  clear co0 co1 co2 co3 co4 fo0 fo1 fo2 fo3 fo4 hneo
  obtain ⟨W1, hW1⟩ : ∃ W1, W1 = W0.drew := ⟨_, rfl⟩
  have hbd : Below W0.heap.size W0 W1 := by rw [hW1]; exact bDrew1 (Below.refl _ _)
  replace Xo : Hid _ := Xo.out.below hbd
  replace hbw := Below.on hbw hbd
  clear hbd
  have HJ : Hid ((fun W' : World => W'.cell? ⟨go, 1, none⟩ = some (.slice pa na ca) ∧ W'.cell? ⟨go, 2, none⟩ = some (.slice pb nb cb)) W1) := ⟨Xo.out.c1, Xo.out.c2⟩
  refine wp_region_J (fun W' => W'.cell? ⟨go, 1, none⟩ = some (.slice pa na ca) ∧ W'.cell? ⟨go, 2, none⟩ = some (.slice pb nb cb)) (by kernel_rfl) ?_
  rw [← hW1]
  clear hW1
  refine wpJ_tq 0 rfl HJ.out ?_
  refine wpJ_tq 1 rfl HJ.out ?_
  refine wpJ_tq 3 rfl HJ.out ?_
  refine wpJ_tq 4 rfl HJ.out ?_
  refine wpJ_tq 5 rfl HJ.out ?_
  go_simp
  refine wpJ_tq 6 rfl HJ.out ?_
  refine wpJ_on 2 rfl fun KJ hK => ?_
  go_simp
  refine (cmp_w (HAB.out.1.below hbw) (HAB.out.2.1.below hbw)).mono ?_
  rintro e w7 ⟨rfl, hb⟩
  rw [← HRR.out]
  replace Xo : Hid _ := Xo.out.below hb
  replace hbw := Below.on hbw hb
  clear hb
  refine hK _ _ ⟨Xo.out.c1, Xo.out.c2⟩ ?_
  clear hK
  refine wpJ_on 7 rfl fun KJ hK => ?_
  go_simp
  refine (doccmp_any (AO.out.a.below hbw) AO.out.na_ (AO.out.b.below hbw) AO.out.nb_).mono ?_
  rintro e w8 ⟨rfl, hb⟩
  rw [← HRR.out]
  replace Xo : Hid _ := Xo.out.below hb
  replace hbw := Below.on hbw hb
  clear hb
  clear HJ
  have HJ : Hid ((fun W' : World => W'.cell? ⟨go, 1, none⟩ = some (.slice pa na ca) ∧ W'.cell? ⟨go, 2, none⟩ = some (.slice pb nb cb)) w8) := ⟨Xo.out.c1, Xo.out.c2⟩
  refine hK _ _ HJ.out ?_
  clear hK
  refine wpJ_tq 8 rfl HJ.out ?_
  refine wpJ_tq 9 rfl HJ.out ?_
  refine wpJ_done (by kernel_rfl) ?_ _
  clear HJ
  go_wp2_with fail
  go_ret
  exact ⟨rfl, hbw⟩
theorem saysKx {pa pb pe pf : Option Addr} {na nb ca cb ce cf : Nat} {nn : Int} {x : Nat} {w : World} {kd : Int} (h1 : kd ≠ 1) (h4 : kd ≠ 4) (h5 : kd ≠ 5) (h6 : kd ≠ 6) (h7 : kd ≠ 7) :
    Calls Tryd.prog 19 #[.agg #[.int .i64 kd, .slice pa na ca, .slice pb nb cb, .int .i64 nn, U x], .slice pe na ce, .slice pf nb cf] w fun en w' => en = .returned (.bool true) ∧ Below w.heap.size w w' := by
  have d1 : (kd == 1) = false := by simpa using h1
  have d4 : (kd == 4) = false := by simpa using h4
  have d5 : (kd == 5) = false := by simpa using h5
  have d6 : (kd == 6) = false := by simpa using h6
  have d7 : (kd == 7) = false := by simpa using h7
  go_enter Tryd.func19, Tryd.ntmps19
  go_wp2_with fail
  go_ret
  exact ⟨rfl, below1 w _⟩
theorem saysK {pa pb pe pf : Option Addr} {na nb ca cb ce cf : Nat} {xa xb : List Nat} {nn : Int} {x : Nat} {w : World} (ho : OpA w pa na ca xa pb nb cb xb nn x) (ha : At w pe na ce xa) (hb : At w pf nb cf xb) (hT : Tab w) (kd : Int) :
    Calls Tryd.prog 19 #[.agg #[.int .i64 kd, .slice pa na ca, .slice pb nb cb, .int .i64 nn, U x], .slice pe na ce, .slice pf nb cf] w fun en w' => en = .returned (.bool true) ∧ Below w.heap.size w w' := by
  by_cases h1 : kd = 1
  · subst h1; exact saysK1 ho ha hb hT
  by_cases h4 : kd = 4
  · subst h4; exact saysK4 ho ha hb hT
  by_cases h5 : kd = 5
  · subst h5; exact saysK5 ho ha hb hT
  by_cases h6 : kd = 6
  · subst h6; exact saysK6 ho ha hb hT
  by_cases h7 : kd = 7
  · subst h7; exact saysK7 ho ha hb hT
  exact saysKx h1 h4 h5 h6 h7
end Go.Proofs.YtkdpafliibclnaaDoor
namespace Go.Proofs.YtkdpafliibclnaaDoor
open Go.RowKit
set_option maxRecDepth 20000
set_option maxHeartbeats 0
variable {P : Program} {md : Region.Mode} {ops : Array Oper} {Q : Exit → Act → World → Prop} {J : World → Prop}

theorem wpJ_two {i k : Nat} {oi ok : Oper} {fuel : Nat} {listed : Array Bool} {a : Act} {w : World} (hr : Region.ready md ops listed = [i, k]) (hi : ops[i]? = some oi) (hk : ops[k]? = some ok)
    (hwi : Region.wanted oi (yielded ops a.tmps) = true) (hwk : Region.wanted ok (yielded ops a.tmps) = true)
    (h1 : ∀ K : Act → World → Prop, (∀ a' w', J w' → wpJ P md ops Q J fuel (listed.setIfInBounds i true) a' w' → K a' w') → Oper.wp P oi a w K Q)
    (h2 : ∀ K : Act → World → Prop, (∀ a' w', J w' → wpJ P md ops Q J fuel (listed.setIfInBounds k true) a' w' → K a' w') → Oper.wp P ok a w K Q) : wpJ P md ops Q J (fuel + 1) listed a w := by
  refine ⟨fun h => (by rw [hr] at h; cases h), fun j hj => ?_⟩
  rw [hr] at hj
  rcases List.mem_cons.1 hj with rfl | hj
  · unfold wpOp
    simp only [hi, hwi, if_true]
    exact .inl (h1 _ fun a' w' h1 h2 => ⟨h1, h2⟩)
  · obtain rfl : j = k := by simpa using hj
    unfold wpOp
    simp only [hk, hwk, if_true]
    exact .inl (h2 _ fun a' w' h1 h2 => ⟨h1, h2⟩)
variable {P : Program} {md : Region.Mode} {ops : Array Oper} {Q : Exit → Act → World → Prop} {J : World → Prop}
end Go.Proofs.YtkdpafliibclnaaDoor
namespace Go.Proofs.YtkdpafliibclnaaDoor
open Go.RowKit Go.Shelf
set_option maxRecDepth 20000
set_option maxHeartbeats 0
theorem wpJ_nodes5 {P : Program} {md : Region.Mode} {ops : Array Oper} {Q : Exit → Act → World → Prop} {J : World → Prop} {fuel : Nat} {listed : Array Bool} {a : Act} {w : World} (h : ∀ WP : Nat → Array Bool → Act → World → Prop, WP = wpJ P md ops Q J → ∀ L a0, L = listed → a0 = a → WP fuel L a0 w) : wpJ P md ops Q J fuel listed a w := h _ rfl _ _ rfl rfl
theorem wpJ_same5 {P : Program} {md : Region.Mode} {ops : Array Oper} {Q : Exit → Act → World → Prop} {J : World → Prop} {fuel : Nat} {L L' : Array Bool} {a a' : Act} {w : World} (h1 : L = L') (h2 : a = a') (h : wpJ P md ops Q J fuel L a w) : wpJ P md ops Q J fuel L' a' w := by
  subst h1 h2; exact h
theorem Hid.mk5 {p : Prop} (h : p) : Hid p := h
end Go.Proofs.YtkdpafliibclnaaDoor
