import Derived.Test.YtkdpafliibclnaaDoorJ14
import Derived.Test.YtkdpafliibclnaaDoorJ9
import Derived.Test.YtkdpafliibclnaaDoorJ10
namespace Go.Proofs.YtkdpafliibclnaaDoor
open Go.RowKit Go.Shelf
set_option maxRecDepth 20000
set_option maxHeartbeats 0
theorem wrx {y d : Nat} (hd : 2 ≤ d) (h : y < B64) : IntKind.u64.wrap ((y : Int) / (d : Int)) = ((y / d : Nat) : Int) := by
  have h2 := half_lt d hd h
  rw [B64_eq] at h2
  rw [IntKind.wrap_u64, show (y : Int) / (d : Int) = ((y / d : Nat) : Int) from rfl]
  generalize y / d = z at *
  omega
structure TW (w : World) (g n : Nat) (zs : List Nat) : Prop where
  at_ : At w (some ⟨g, 0, none⟩) n n zs
  lt : g < w.heap.size
theorem TW.below {w w' : World} {g n : Nat} {zs : List Nat} (h : TW w g n zs) (hb : Below w.heap.size w w') : TW w' g n zs := ⟨h.at_.below hb, Nat.lt_of_lt_of_le h.lt hb.size⟩
theorem TW.keep {w w' : World} {g n : Nat} {zs : List Nat} (h : TW w g n zs) (hb : w'.heap[g]? = w.heap[g]?) : At w' (some ⟨g, 0, none⟩) n n zs := ((⟨h.at_, fun _ => rfl⟩ : WA7 w (some ⟨g, 0, none⟩) n n g zs).keep (fun _ => hb)).at_
theorem twin_tw {p : Option Addr} {n c : Nat} {xs : List Nat} {w : World} (h : At w p n c xs) (hn : n ≤ 17592186044416) :
    Calls Tryd.prog 20 #[.slice p n c] w fun e w' => ∃ g, e = .returned (.slice (some ⟨g, 0, none⟩) n n) ∧ w.heap.size ≤ g ∧ TW w' g n xs ∧ Below w.heap.size w w' := by
  refine (twin_any h (by omega)).mono ?_
  rintro e w' ⟨g, rfl, hg, hblk, hb⟩
  exact ⟨g, rfl, hg, ⟨hblk.at_ h.dig h.len (by unfold maxLen; omega), (Array.getElem?_eq_some_iff.1 hblk).1⟩, hb⟩
theorem set5k (w : World) (g : Nat) (v0 v1 v2 v3 v4 : Value) {k : Nat} (h : k ≠ g) : (((((w.setCell ⟨g, 0, none⟩ v0).setCell ⟨g, 1, none⟩ v1).setCell ⟨g, 2, none⟩ v2).setCell ⟨g, 3, none⟩ v3).setCell ⟨g, 4, none⟩ v4).heap[k]? = w.heap[k]? := by
  rw [Below.heap_setCell _ _ _ k h, Below.heap_setCell _ _ _ k h, Below.heap_setCell _ _ _ k h, Below.heap_setCell _ _ _ k h, Below.heap_setCell _ _ _ k h]
theorem part_lt {y : Nat} (d : Nat) (hd : 2 ≤ d) (h : y < B64) : y / d < B64 := by
  have := half_lt d hd h
  omega
theorem leavesK {pa pb : Option Addr} {na nb ca cb : Nat} {xa xb : List Nat} {nn : Int} {x : Nat} {kd : Int} {w : World} (ho : OpA w pa na ca xa pb nb cb xb nn x) (hT : Tab w) :
    Calls Tryd.prog 6 #[.agg #[.int .i64 kd, .slice pa na ca, .slice pb nb cb, .int .i64 nn, U x]] w fun en w' => en = .returned (.bool true) ∧ Below w.heap.size w w' := by
  have AO : Hid (OpA w pa na ca xa pb nb cb xb nn x ∧ Tab w) := ⟨ho, hT⟩
  clear ho hT
  go_enter Tryd.func6, Tryd.ntmps6
  go_wp2_with fail
  obtain ⟨W0, hW0⟩ : ∃ W0, W0 = (w.alloc (.cells #[.int .i64 kd, .slice pa na ca, .slice pb nb cb, .int .i64 nn, U x] 26)) := ⟨_, rfl⟩
  have Xo : Hid (B5q W0 (w.heap.size) (.int .i64 kd) (.slice pa na ca) (.slice pb nb cb) (.int .i64 nn) (U x)) := by rw [hW0]; exact ⟨by go_simp, by go_simp, by go_simp, by go_simp, by go_simp, by go_simp, by go_simp, by go_simp, by go_simp, by go_simp⟩
  have hb0 : Below w.heap.size w W0 := by rw [hW0]; exact below1 w _
  rw [← hW0]
  clear hW0
  have hbw : Below w.heap.size w w := Below.refl _ _
  obtain ⟨go, hgo⟩ : ∃ g, g = w.heap.size := ⟨_, rfl⟩
  have HGo : Hid (w.heap.size ≤ go) := by rw [hgo]; show _ ≤ _; omega
  rw [← hgo] at Xo
  try rw [← hgo]
  clear hgo
  replace hbw := Below.on hbw hb0
  clear hb0
  skip
  obtain ⟨co0, co1, co2, co3, co4, fo0, fo1, fo2, fo3, fo4⟩ := Xo.out
  have hneo : go < W0.heap.size := World.block_lt_of_cell? W0 _ co0
  go_wp2_with fail
  clear co0 co1 co2 co3 co4 fo0 fo1 fo2 fo3 fo4 hneo
  have GO : Hid (go < W0.heap.size) := Xo.out.lt
  refine (spare_sr (AO.out.1.a.below hbw) AO.out.1.na_).mono ?_
  rintro e v3 ⟨gA, rfl, h1, h2, hS, hb⟩
  have GA : Hid (W0.heap.size ≤ gA ∧ gA < v3.heap.size ∧ W0.heap.size ≤ v3.heap.size) := ⟨h1, h2, hb.size⟩
  have hS2 := hS.mono (hbw.size)
  have SA : Hid (SR v3 w.heap.size gA na xa) := hS2
  clear h1 h2 hS hS2
  replace Xo : Hid _ := Xo.out.below hb
  replace hbw := Below.on hbw hb
  clear hb
  obtain ⟨co0, co1, co2, co3, co4, fo0, fo1, fo2, fo3, fo4⟩ := Xo.out
  have hneo : go < v3.heap.size := World.block_lt_of_cell? v3 _ co0
  go_wp2_with fail
  clear co0 co1 co2 co3 co4 fo0 fo1 fo2 fo3 fo4 hneo
  refine (spare_sr (AO.out.1.b.below hbw) AO.out.1.nb_).mono ?_
  rintro e v4 ⟨gB, rfl, h1, h2, hS, hb⟩
  have GB : Hid (v3.heap.size ≤ gB ∧ gB < v4.heap.size ∧ v3.heap.size ≤ v4.heap.size) := ⟨h1, h2, hb.size⟩
  have hS2 := hS.mono (hbw.size)
  have SB : Hid (SR v4 w.heap.size gB nb xb) := hS2
  clear h1 h2 hS hS2
  replace Xo : Hid _ := Xo.out.below hb
  replace SA : Hid (SR v4 w.heap.size gA na xa) := SA.out.below hb
  replace hbw := Below.on hbw hb
  clear hb
  go_wp2_with fail
  have hrf : Below v4.heap.size v4 v4 := Below.refl _ _
  go_loopg [22] 2 (fun gk iv wr => ∃ (i : Nat), i + gk = 2 ∧ iv = .int .i64 i ∧ Below v4.heap.size v4 wr)
  case atStart => exact ⟨0, by omega, rfl, hrf⟩
  case round =>
    obtain ⟨i, hig, rfl, hb9⟩ := hrel
    clear hrf
    have HB4 : Hid (Below v4.heap.size v4 wr) := hb9
    replace Xo : Hid _ := Xo.out.below hb9
    replace SA : Hid (SR wr w.heap.size gA na xa) := SA.out.below hb9
    replace SB : Hid (SR wr w.heap.size gB nb xb) := SB.out.below hb9
    replace hbw := Below.on hbw hb9
    clear hb9
    cases gk with
    | succ gi =>
      have hil : (i : Int) < 2 := by omega
      have hi9 : Hid (i < 2) := by show _ < _; omega
      obtain ⟨co0, co1, co2, co3, co4, fo0, fo1, fo2, fo3, fo4⟩ := Xo.out
      have hneo : go < wr.heap.size := World.block_lt_of_cell? wr _ co0
      go_wp2_with fail
      clear co0 co1 co2 co3 co4 fo0 fo1 fo2 fo3 fo4 hneo
      have hrr : Below wr.heap.size wr wr := Below.refl _ _
      refine (saysK (AO.out.1.below hbw) (SA.out.at_ AO.out.1.na_) (SB.out.at_ AO.out.1.nb_) (AO.out.2.below hbw) kd).mono ?_
      rintro e u1 ⟨rfl, hb⟩
      have hrr' := Below.on hrr hb
      clear hrr
      have hrr := hrr'
      clear hrr'
      replace Xo : Hid _ := Xo.out.below hb
      replace SA : Hid (SR u1 w.heap.size gA na xa) := SA.out.below hb
      replace SB : Hid (SR u1 w.heap.size gB nb xb) := SB.out.below hb
      replace hbw := Below.on hbw hb
      clear hb
      obtain ⟨co0, co1, co2, co3, co4, fo0, fo1, fo2, fo3, fo4⟩ := Xo.out
      have hneo : go < u1.heap.size := World.block_lt_of_cell? u1 _ co0
      go_wp2_with fail
      clear co0 co1 co2 co3 co4 fo0 fo1 fo2 fo3 fo4 hneo
      refine (kept_ok (AO.out.1.a.below hbw) (SA.out.full AO.out.1.na_) AO.out.1.na_).mono ?_
      rintro e u2 ⟨rfl, hb⟩
      have hrr' := Below.on hrr hb
      clear hrr
      have hrr := hrr'
      clear hrr'
      replace Xo : Hid _ := Xo.out.below hb
      replace SA : Hid (SR u2 w.heap.size gA na xa) := SA.out.below hb
      replace SB : Hid (SR u2 w.heap.size gB nb xb) := SB.out.below hb
      replace hbw := Below.on hbw hb
      clear hb
      obtain ⟨co0, co1, co2, co3, co4, fo0, fo1, fo2, fo3, fo4⟩ := Xo.out
      have hneo : go < u2.heap.size := World.block_lt_of_cell? u2 _ co0
      go_wp2_with fail
      clear co0 co1 co2 co3 co4 fo0 fo1 fo2 fo3 fo4 hneo
      refine (kept_ok (AO.out.1.b.below hbw) (SB.out.full AO.out.1.nb_) AO.out.1.nb_).mono ?_
      rintro e u3 ⟨rfl, hb⟩
      have hrr' := Below.on hrr hb
      clear hrr
      have hrr := hrr'
      clear hrr'
      replace Xo : Hid _ := Xo.out.below hb
      replace SA : Hid (SR u3 w.heap.size gA na xa) := SA.out.below hb
      replace SB : Hid (SR u3 w.heap.size gB nb xb) := SB.out.below hb
      replace hbw := Below.on hbw hb
      clear hb
      have wi : wrap64 ((i : Int) + 1) = ((i + 1 : Nat) : Int) := wj80 (by omega)
      go_wp2_with fail
      go_roundg gi
      case measure => omega
      case rel => exact ⟨i + 1, by omega, by go_num, HB4.out.trans (hrr.mono HB4.out.size)⟩
    | zero =>
      obtain rfl : i = 2 := by omega
      have SZ4 : Hid (v4.heap.size ≤ wr.heap.size) := HB4.out.size
      generalize wr = v5 at *
      clear HB4
      go_wp2_with fail
      have h00 : v5.heap.size ≤ v5.heap.size := Nat.le_refl _
      go_loopg [7] na (fun gk iv wr => ∃ (i : Nat) (zs : List Nat), i + gk = na ∧ iv = .int .i64 i ∧ SR wr w.heap.size gA na zs ∧ Below w.heap.size w wr ∧ v5.heap.size ≤ wr.heap.size ∧ ∀ k, k ≠ gA → wr.heap[k]? = v5.heap[k]?)
      case atStart => exact ⟨0, _, by omega, rfl, SA.out, hbw, h00, fun _ _ => rfl⟩
      case round =>
        clear SA h00 hbw
        obtain ⟨i, za, hig, rfl, x1, hb9, x2, x3⟩ := hrel
        have SA : Hid (SR wr w.heap.size gA na za) := x1
        have HKP : Hid (v5.heap.size ≤ wr.heap.size ∧ ∀ k, k ≠ gA → wr.heap[k]? = v5.heap[k]?) := ⟨x2, x3⟩
        clear x1 x2 x3
        cases gk with
        | succ gi =>
          have HIM : Hid (i < na ∧ i < 17592186044500) := ⟨by omega, by have := AO.out.1.na_; omega⟩
          have hil : (i : Int) < (na : Int) := by omega
          have hi0 : (0 : Int) ≤ (i : Int) ∧ (i : Int) < (na : Int) := by omega
          have wi := wj80 HIM.out.2
          have hcl := SA.out.row.cell i (by omega)
          have hfr := SA.out.row.frozen i (by omega)
          rw [Nat.zero_add] at hcl hfr
          rw [spl_lo (by rw [SA.out.len]; omega)] at hcl
          obtain ⟨c, hc⟩ : ∃ c, c = za.getD i 0 := ⟨_, rfl⟩
          rw [← hc] at hcl
          obtain ⟨c9, hx9, hx8⟩ := xorM c
          have HCB : Hid (c9 < B64) := hx8
          have hsg : IntKind.u64.signed = false := rfl
          have hw2 : IntKind.u64.wrap ((c9 : Int) / 3) = ((c9 / 3 : Nat) : Int) := wrx (d := 3) (by decide) HCB.out
          have HB9 : Hid (Below w.heap.size w wr) := hb9
          clear hb9 hc hx8
          go_wp2_with fail
          go_roundg gi
          case measure => omega
          case rel => exact ⟨i + 1, _, by omega, by go_num, SA.out.set HIM.out.1 (part_lt 3 (by decide) HCB.out), bSet HB9.out gA i _ SA.out.ge, by rw [World.size_setCell]; exact HKP.out.1, fun k hk => (Below.heap_setCell wr _ _ k hk).trans (HKP.out.2 k hk)⟩
        | zero =>
          obtain rfl : na = i := by omega
          have hnk : ¬ ((na : Nat) : Int) < ((na : Nat) : Int) := by omega
          have SLA : Hid (v5.heap.size ≤ wr.heap.size) := HKP.out.1
          have SB' : Hid (SR wr w.heap.size gB nb xb) := SB.out.keep (HKP.out.2 gB (by have := GA.out; have := GB.out; omega))
          clear SB
          have SB := SB'
          clear SB'
          have Xo' : Hid (B5q wr go (.int .i64 kd) (.slice pa na ca) (.slice pb nb cb) (.int .i64 nn) (U x)) := Xo.out.keep (HKP.out.2 go (by have := GA.out; have := GB.out; have := GO.out; omega))
          clear Xo
          have Xo := Xo'
          clear Xo'
          have hbw := hb9
          clear hb9 HKP
          generalize wr = wLA at *
          go_wp2_with fail
          clear hnk hig
          have h00 : wLA.heap.size ≤ wLA.heap.size := Nat.le_refl _
          go_loopg [8] nb (fun gk iv wr => ∃ (i : Nat) (zs : List Nat), i + gk = nb ∧ iv = .int .i64 i ∧ SR wr w.heap.size gB nb zs ∧ Below w.heap.size w wr ∧ wLA.heap.size ≤ wr.heap.size ∧ ∀ k, k ≠ gB → wr.heap[k]? = wLA.heap[k]?)
          case atStart => exact ⟨0, _, by omega, rfl, SB.out, hbw, h00, fun _ _ => rfl⟩
          case round =>
            clear SB h00 hbw
            obtain ⟨i, zb, hig, rfl, x1, hb9, x2, x3⟩ := hrel
            have SB : Hid (SR wr w.heap.size gB nb zb) := x1
            have HKP : Hid (wLA.heap.size ≤ wr.heap.size ∧ ∀ k, k ≠ gB → wr.heap[k]? = wLA.heap[k]?) := ⟨x2, x3⟩
            clear x1 x2 x3
            cases gk with
            | succ gi =>
              have HIM : Hid (i < nb ∧ i < 17592186044500) := ⟨by omega, by have := AO.out.1.nb_; omega⟩
              have hil : (i : Int) < (nb : Int) := by omega
              have hi0 : (0 : Int) ≤ (i : Int) ∧ (i : Int) < (nb : Int) := by omega
              have wi := wj80 HIM.out.2
              have hcl := SB.out.row.cell i (by omega)
              have hfr := SB.out.row.frozen i (by omega)
              rw [Nat.zero_add] at hcl hfr
              rw [spl_lo (by rw [SB.out.len]; omega)] at hcl
              obtain ⟨c, hc⟩ : ∃ c, c = zb.getD i 0 := ⟨_, rfl⟩
              rw [← hc] at hcl
              obtain ⟨c9, hx9, hx8⟩ := xorM c
              have HCB : Hid (c9 < B64) := hx8
              have hsg : IntKind.u64.signed = false := rfl
              have hw2 : IntKind.u64.wrap ((c9 : Int) / 2) = ((c9 / 2 : Nat) : Int) := wrx (d := 2) (by decide) HCB.out
              have HB9 : Hid (Below w.heap.size w wr) := hb9
              clear hb9 hc hx8
              go_wp2_with fail
              go_roundg gi
              case measure => omega
              case rel => exact ⟨i + 1, _, by omega, by go_num, SB.out.set HIM.out.1 (part_lt 2 (by decide) HCB.out), bSet HB9.out gB i _ SB.out.ge, by rw [World.size_setCell]; exact HKP.out.1, fun k hk => (Below.heap_setCell wr _ _ k hk).trans (HKP.out.2 k hk)⟩
            | zero =>
              obtain rfl : nb = i := by omega
              have hnk : ¬ ((nb : Nat) : Int) < ((nb : Nat) : Int) := by omega
              have SLB : Hid (wLA.heap.size ≤ wr.heap.size) := HKP.out.1
              have SA' : Hid (SR wr w.heap.size gA na za) := SA.out.keep (HKP.out.2 gA (by have := GA.out; have := GB.out; omega))
              clear SA
              have SA := SA'
              clear SA'
              have Xo' : Hid (B5q wr go (.int .i64 kd) (.slice pa na ca) (.slice pb nb cb) (.int .i64 nn) (U x)) := Xo.out.keep (HKP.out.2 go (by have := GA.out; have := GB.out; have := GO.out; omega))
              clear Xo
              have Xo := Xo'
              clear Xo'
              have hbw := hb9
              clear hb9 HKP
              generalize wr = wLB at *
              obtain ⟨co0, co1, co2, co3, co4, fo0, fo1, fo2, fo3, fo4⟩ := Xo.out
              have hneo : go < wLB.heap.size := World.block_lt_of_cell? wLB _ co0
              go_wp2_with fail
              clear co0 co1 co2 co3 co4 fo0 fo1 fo2 fo3 fo4 hneo
              clear hnk hig
              obtain ⟨W5, hW5⟩ : ∃ W1, W1 = wLB.drew := ⟨_, rfl⟩
              have hbd : Below wLB.heap.size wLB W5 := by rw [hW5]; exact bDrew1 (Below.refl _ _)
              replace Xo : Hid _ := Xo.out.below hbd
              replace SA : Hid (SR W5 w.heap.size gA na za) := SA.out.below hbd
              replace SB : Hid (SR W5 w.heap.size gB nb zb) := SB.out.below hbd
              replace hbw := Below.on hbw hbd
              clear hbd
              have HJ : Hid ((fun W' : World => W'.cell? ⟨go, 0, none⟩ = some (.int .i64 kd) ∧ W'.cell? ⟨go, 3, none⟩ = some (.int .i64 nn)) W5) := ⟨Xo.out.c0, Xo.out.c3⟩
              refine wp_region_J (fun W' => W'.cell? ⟨go, 0, none⟩ = some (.int .i64 kd) ∧ W'.cell? ⟨go, 3, none⟩ = some (.int .i64 nn)) (by kernel_rfl) ?_
              rw [← hW5]
              clear hW5
              refine wpJ_tq 0 rfl HJ.out ?_
              refine wpJ_tq 1 rfl HJ.out ?_
              refine wpJ_tq 2 rfl HJ.out ?_
              refine wpJ_tq 4 rfl HJ.out ?_
              go_simp
              refine wpJ_tq 6 rfl HJ.out ?_
              refine wpJ_tq 7 rfl HJ.out ?_
              go_simp
              refine wpJ_nodes5 fun WP hWP L0 a0 hL ha => ?_
              have N3_5_9 : ∀ (g3 : Nat) (g5 : Nat) (gn : Nat) (W' : World), (B5q W' go (.int .i64 kd) (.slice pa na ca) (.slice pb nb cb) (.int .i64 nn) (U x)) ∧ (Below w.heap.size w W') ∧ (SR W' w.heap.size gA na za) ∧ (SR W' w.heap.size gB nb zb) ∧ (TW W' g3 na za) ∧ (TW W' g5 nb zb) ∧ (B5q W' gn (.int .i64 0) (.slice none 0 0) (.slice none 0 0) (.int .i64 0) (.int .u64 0)) ∧ (w.heap.size ≤ gn) ∧ (gA ≠ gn ∧ gB ≠ gn ∧ go ≠ gn) ∧ (g3 ≠ gn) ∧ (g5 ≠ gn) → WP 1 ((((L0.setIfInBounds 3 true).setIfInBounds 5 true).setIfInBounds 8 true).setIfInBounds 9 true) ((((a0.put (some 77) (.slice (some ⟨g3, 0, none⟩) na na)).put (some 79) (.slice (some ⟨g5, 0, none⟩) nb nb)).put (some 82) (.agg #[.int .i64 kd, .slice (some ⟨g3, 0, none⟩) na na, .slice (some ⟨g5, 0, none⟩) nb nb, .int .i64 nn, .int .u64 0])).put (some 9) (.pointer (some ⟨gn, 0, none⟩))) W' := by
                rintro g3 g5 gn W' ⟨xo, hbw, SA, SB, t3, t5, x9, h9, n9, o3, o5⟩
                subst hWP hL ha
                have Hxo := Hid.mk5 xo
                have HSA := Hid.mk5 SA
                have HSB := Hid.mk5 SB
                have Ht3 := Hid.mk5 t3
                have Ht5 := Hid.mk5 t5
                have Hx9 := Hid.mk5 x9
                have Hh9 := Hid.mk5 h9
                have Hn9 := Hid.mk5 n9
                have Ho3 := Hid.mk5 o3
                have Ho5 := Hid.mk5 o5
                clear xo SA SB t3 t5 x9 h9 n9 o3 o5
                go_simp
                have Xo := Hxo
                have Xn := Hx9
                clear Hxo Hx9
                have HGn : Hid (w.heap.size ≤ gn) := Hh9.out
                have HJ : Hid ((fun W' : World => W'.cell? ⟨go, 0, none⟩ = some (.int .i64 kd) ∧ W'.cell? ⟨go, 3, none⟩ = some (.int .i64 nn)) W') := ⟨Xo.out.c0, Xo.out.c3⟩
                obtain ⟨cn0, cn1, cn2, cn3, cn4, fn0, fn1, fn2, fn3, fn4⟩ := Xn.out
                have hnen : gn < W'.heap.size := World.block_lt_of_cell? W' _ cn0
                refine wpJ_on 10 rfl fun KJ hK => ?_
                go_simp
                have Xn2 : Hid (B5q (((((W'.setCell ⟨gn, 0, none⟩ (.int .i64 kd)).setCell ⟨gn, 1, none⟩ (.slice (some ⟨g3, 0, none⟩) na na)).setCell ⟨gn, 2, none⟩ (.slice (some ⟨g5, 0, none⟩) nb nb)).setCell ⟨gn, 3, none⟩ (.int .i64 nn)).setCell ⟨gn, 4, none⟩ (.int .u64 0)) gn (.int .i64 kd) (.slice (some ⟨g3, 0, none⟩) na na) (.slice (some ⟨g5, 0, none⟩) nb nb) (.int .i64 nn) (.int .u64 0)) := ⟨by go_simp, by go_simp, by go_simp, by go_simp, by go_simp, by go_simp, by go_simp, by go_simp, by go_simp, by go_simp⟩
                have Xo2 : Hid (B5q (((((W'.setCell ⟨gn, 0, none⟩ (.int .i64 kd)).setCell ⟨gn, 1, none⟩ (.slice (some ⟨g3, 0, none⟩) na na)).setCell ⟨gn, 2, none⟩ (.slice (some ⟨g5, 0, none⟩) nb nb)).setCell ⟨gn, 3, none⟩ (.int .i64 nn)).setCell ⟨gn, 4, none⟩ (.int .u64 0)) go (.int .i64 kd) (.slice pa na ca) (.slice pb nb cb) (.int .i64 nn) (U x)) := Xo.out.keep (set5k _ _ _ _ _ _ _ Hn9.out.2.2)
                have SA2 : Hid (SR (((((W'.setCell ⟨gn, 0, none⟩ (.int .i64 kd)).setCell ⟨gn, 1, none⟩ (.slice (some ⟨g3, 0, none⟩) na na)).setCell ⟨gn, 2, none⟩ (.slice (some ⟨g5, 0, none⟩) nb nb)).setCell ⟨gn, 3, none⟩ (.int .i64 nn)).setCell ⟨gn, 4, none⟩ (.int .u64 0)) w.heap.size gA na za) := HSA.out.keep (set5k _ _ _ _ _ _ _ Hn9.out.1)
                have SB2 : Hid (SR (((((W'.setCell ⟨gn, 0, none⟩ (.int .i64 kd)).setCell ⟨gn, 1, none⟩ (.slice (some ⟨g3, 0, none⟩) na na)).setCell ⟨gn, 2, none⟩ (.slice (some ⟨g5, 0, none⟩) nb nb)).setCell ⟨gn, 3, none⟩ (.int .i64 nn)).setCell ⟨gn, 4, none⟩ (.int .u64 0)) w.heap.size gB nb zb) := HSB.out.keep (set5k _ _ _ _ _ _ _ Hn9.out.2.1)
                have T3 : Hid (At (((((W'.setCell ⟨gn, 0, none⟩ (.int .i64 kd)).setCell ⟨gn, 1, none⟩ (.slice (some ⟨g3, 0, none⟩) na na)).setCell ⟨gn, 2, none⟩ (.slice (some ⟨g5, 0, none⟩) nb nb)).setCell ⟨gn, 3, none⟩ (.int .i64 nn)).setCell ⟨gn, 4, none⟩ (.int .u64 0)) (some ⟨g3, 0, none⟩) na na za) := Ht3.out.keep (set5k _ _ _ _ _ _ _ Ho3.out)
                have T5 : Hid (At (((((W'.setCell ⟨gn, 0, none⟩ (.int .i64 kd)).setCell ⟨gn, 1, none⟩ (.slice (some ⟨g3, 0, none⟩) na na)).setCell ⟨gn, 2, none⟩ (.slice (some ⟨g5, 0, none⟩) nb nb)).setCell ⟨gn, 3, none⟩ (.int .i64 nn)).setCell ⟨gn, 4, none⟩ (.int .u64 0)) (some ⟨g5, 0, none⟩) nb nb zb) := Ht5.out.keep (set5k _ _ _ _ _ _ _ Ho5.out)
                have hbw2 : Below w.heap.size w (((((W'.setCell ⟨gn, 0, none⟩ (.int .i64 kd)).setCell ⟨gn, 1, none⟩ (.slice (some ⟨g3, 0, none⟩) na na)).setCell ⟨gn, 2, none⟩ (.slice (some ⟨g5, 0, none⟩) nb nb)).setCell ⟨gn, 3, none⟩ (.int .i64 nn)).setCell ⟨gn, 4, none⟩ (.int .u64 0)) := bSet (bSet (bSet (bSet (bSet hbw _ _ _ HGn.out) _ _ _ HGn.out) _ _ _ HGn.out) _ _ _ HGn.out) _ _ _ HGn.out
                have HJ2 : Hid ((fun W' : World => W'.cell? ⟨go, 0, none⟩ = some (.int .i64 kd) ∧ W'.cell? ⟨go, 3, none⟩ = some (.int .i64 nn)) (((((W'.setCell ⟨gn, 0, none⟩ (.int .i64 kd)).setCell ⟨gn, 1, none⟩ (.slice (some ⟨g3, 0, none⟩) na na)).setCell ⟨gn, 2, none⟩ (.slice (some ⟨g5, 0, none⟩) nb nb)).setCell ⟨gn, 3, none⟩ (.int .i64 nn)).setCell ⟨gn, 4, none⟩ (.int .u64 0))) := ⟨Xo2.out.c0, Xo2.out.c3⟩
                refine hK _ _ HJ2.out ?_
                clear hK HJ
                have HJ := HJ2
                clear HJ2
                clear cn0 cn1 cn2 cn3 cn4 fn0 fn1 fn2 fn3 fn4 hnen
                refine wpJ_done (by kernel_rfl) ?_ _
                clear HJ
                clear Xn Xo hbw HSA HSB Ht3 Ht5 Hn9 Ho3 Ho5
                have Xn := Xn2
                have SA := SA2
                have SB := SB2
                have hbw := hbw2
                clear Xn2 Xo2 SA2 SB2 hbw2
                generalize (((((W'.setCell ⟨gn, 0, none⟩ (.int .i64 kd)).setCell ⟨gn, 1, none⟩ (.slice (some ⟨g3, 0, none⟩) na na)).setCell ⟨gn, 2, none⟩ (.slice (some ⟨g5, 0, none⟩) nb nb)).setCell ⟨gn, 3, none⟩ (.int .i64 nn)).setCell ⟨gn, 4, none⟩ (.int .u64 0)) = W9 at *
                obtain ⟨cn0, cn1, cn2, cn3, cn4, fn0, fn1, fn2, fn3, fn4⟩ := Xn.out
                have hnen : gn < W9.heap.size := World.block_lt_of_cell? W9 _ cn0
                go_wp2_with fail
                clear cn0 cn1 cn2 cn3 cn4 fn0 fn1 fn2 fn3 fn4 hnen
                refine (saysK (x := 0) ⟨T3.out, T5.out, AO.out.1.na_, AO.out.1.nb_, AO.out.1.nn_, by decide⟩ (SA.out.at_ AO.out.1.na_) (SB.out.at_ AO.out.1.nb_) (AO.out.2.below hbw) kd).mono ?_
                rintro e v31 ⟨rfl, hb31⟩
                replace Xn : Hid _ := Xn.out.below hb31
                replace SA : Hid (SR v31 w.heap.size gA na za) := SA.out.below hb31
                replace SB : Hid (SR v31 w.heap.size gB nb zb) := SB.out.below hb31
                replace T3 : Hid _ := T3.out.below hb31
                replace T5 : Hid _ := T5.out.below hb31
                replace hbw := Below.on hbw hb31
                clear hb31
                obtain ⟨cn0, cn1, cn2, cn3, cn4, fn0, fn1, fn2, fn3, fn4⟩ := Xn.out
                have hnen : gn < v31.heap.size := World.block_lt_of_cell? v31 _ cn0
                go_wp2_with fail
                clear cn0 cn1 cn2 cn3 cn4 fn0 fn1 fn2 fn3 fn4 hnen
                refine (kept_ok T3.out (SA.out.full AO.out.1.na_) AO.out.1.na_).mono ?_
                rintro e v32 ⟨rfl, hb32⟩
                replace Xn : Hid _ := Xn.out.below hb32
                replace SA : Hid (SR v32 w.heap.size gA na za) := SA.out.below hb32
                replace SB : Hid (SR v32 w.heap.size gB nb zb) := SB.out.below hb32
                replace T3 : Hid _ := T3.out.below hb32
                replace T5 : Hid _ := T5.out.below hb32
                replace hbw := Below.on hbw hb32
                clear hb32
                obtain ⟨cn0, cn1, cn2, cn3, cn4, fn0, fn1, fn2, fn3, fn4⟩ := Xn.out
                have hnen : gn < v32.heap.size := World.block_lt_of_cell? v32 _ cn0
                go_wp2_with fail
                clear cn0 cn1 cn2 cn3 cn4 fn0 fn1 fn2 fn3 fn4 hnen
                refine (kept_ok T5.out (SB.out.full AO.out.1.nb_) AO.out.1.nb_).mono ?_
                rintro e v33 ⟨rfl, hb33⟩
                replace Xn : Hid _ := Xn.out.below hb33
                replace SA : Hid (SR v33 w.heap.size gA na za) := SA.out.below hb33
                replace SB : Hid (SR v33 w.heap.size gB nb zb) := SB.out.below hb33
                replace T3 : Hid _ := T3.out.below hb33
                replace T5 : Hid _ := T5.out.below hb33
                replace hbw := Below.on hbw hb33
                clear hb33
                go_wp2_with fail
                go_ret
                exact ⟨rfl, hbw⟩
              have N3_5 : ∀ (g3 : Nat) (g5 : Nat) (W' : World), (B5q W' go (.int .i64 kd) (.slice pa na ca) (.slice pb nb cb) (.int .i64 nn) (U x)) ∧ (Below w.heap.size w W') ∧ (SR W' w.heap.size gA na za) ∧ (SR W' w.heap.size gB nb zb) ∧ (TW W' g3 na za) ∧ (TW W' g5 nb zb) → WP 2 (((L0.setIfInBounds 3 true).setIfInBounds 5 true).setIfInBounds 8 true) (((a0.put (some 77) (.slice (some ⟨g3, 0, none⟩) na na)).put (some 79) (.slice (some ⟨g5, 0, none⟩) nb nb)).put (some 82) (.agg #[.int .i64 kd, .slice (some ⟨g3, 0, none⟩) na na, .slice (some ⟨g5, 0, none⟩) nb nb, .int .i64 nn, .int .u64 0])) W' := by
                rintro g3 g5 W' ⟨xo, hbw, SA, SB, t3, t5⟩
                subst hWP hL ha
                have Hxo := Hid.mk5 xo
                have HSA := Hid.mk5 SA
                have HSB := Hid.mk5 SB
                have Ht3 := Hid.mk5 t3
                have Ht5 := Hid.mk5 t5
                clear xo SA SB t3 t5
                go_simp
                refine wpJ_on 9 rfl fun KJ hK => ?_
                go_simp
                have hb := below1 W' (.cells #[.int .i64 0, .slice none 0 0, .slice none 0 0, .int .i64 0, .int .u64 0] 26)
                refine hK _ _ ⟨(Hxo.out.below hb).c0, (Hxo.out.below hb).c3⟩ ?_
                exact wpJ_same5 (by kernel_rfl) (by kernel_rfl) (N3_5_9 g3 g5 W'.heap.size _ ⟨(Hxo.out.below hb), (Below.on hbw hb), (HSA.out.below hb), (HSB.out.below hb), (Ht3.out.below hb), (Ht5.out.below hb), (B5q.new W' _ _ _ _ _ _), hbw.size, ⟨Nat.ne_of_lt HSA.out.lt, Nat.ne_of_lt HSB.out.lt, Nat.ne_of_lt Hxo.out.lt⟩, (Nat.ne_of_lt Ht3.out.lt), (Nat.ne_of_lt Ht5.out.lt)⟩)
              have N3_9 : ∀ (g3 : Nat) (gn : Nat) (W' : World), (B5q W' go (.int .i64 kd) (.slice pa na ca) (.slice pb nb cb) (.int .i64 nn) (U x)) ∧ (Below w.heap.size w W') ∧ (SR W' w.heap.size gA na za) ∧ (SR W' w.heap.size gB nb zb) ∧ (TW W' g3 na za) ∧ (B5q W' gn (.int .i64 0) (.slice none 0 0) (.slice none 0 0) (.int .i64 0) (.int .u64 0)) ∧ (w.heap.size ≤ gn) ∧ (gA ≠ gn ∧ gB ≠ gn ∧ go ≠ gn) ∧ (g3 ≠ gn) → WP 3 ((L0.setIfInBounds 3 true).setIfInBounds 9 true) ((a0.put (some 77) (.slice (some ⟨g3, 0, none⟩) na na)).put (some 9) (.pointer (some ⟨gn, 0, none⟩))) W' := by
                rintro g3 gn W' ⟨xo, hbw, SA, SB, t3, x9, h9, n9, o3⟩
                subst hWP hL ha
                have Hxo := Hid.mk5 xo
                have HSA := Hid.mk5 SA
                have HSB := Hid.mk5 SB
                have Ht3 := Hid.mk5 t3
                have Hx9 := Hid.mk5 x9
                have Hh9 := Hid.mk5 h9
                have Hn9 := Hid.mk5 n9
                have Ho3 := Hid.mk5 o3
                clear xo SA SB t3 x9 h9 n9 o3
                go_simp
                refine wpJ_on 5 rfl fun KJ hK => ?_
                go_simp
                refine (twin_tw (HSB.out.at_ AO.out.1.nb_) AO.out.1.nb_).mono ?_
                rintro e W2 ⟨g5, rfl, hg, ht, hb⟩
                have HJ : Hid ((fun W' : World => W'.cell? ⟨go, 0, none⟩ = some (.int .i64 kd) ∧ W'.cell? ⟨go, 3, none⟩ = some (.int .i64 nn)) W2) := ⟨(Hxo.out.below hb).c0, (Hxo.out.below hb).c3⟩
                refine hK _ _ HJ.out ?_
                refine wpJ_tq 8 rfl HJ.out ?_
                exact wpJ_same5 (by kernel_rfl) (by kernel_rfl) (N3_5_9 g3 g5 gn W2 ⟨(Hxo.out.below hb), (Below.on hbw hb), (HSA.out.below hb), (HSB.out.below hb), (Ht3.out.below hb), ht, (Hx9.out.below hb), Hh9.out, Hn9.out, Ho3.out, (Nat.ne_of_gt (Nat.lt_of_lt_of_le Hx9.out.lt hg))⟩)
              have N3 : ∀ (g3 : Nat) (W' : World), (B5q W' go (.int .i64 kd) (.slice pa na ca) (.slice pb nb cb) (.int .i64 nn) (U x)) ∧ (Below w.heap.size w W') ∧ (SR W' w.heap.size gA na za) ∧ (SR W' w.heap.size gB nb zb) ∧ (TW W' g3 na za) → WP 4 (L0.setIfInBounds 3 true) (a0.put (some 77) (.slice (some ⟨g3, 0, none⟩) na na)) W' := by
                rintro g3 W' ⟨xo, hbw, SA, SB, t3⟩
                subst hWP hL ha
                have Hxo := Hid.mk5 xo
                have HSA := Hid.mk5 SA
                have HSB := Hid.mk5 SB
                have Ht3 := Hid.mk5 t3
                clear xo SA SB t3
                go_simp
                refine wpJ_two (i := 5) (k := 9) (by kernel_rfl) rfl rfl (by kernel_rfl) (by kernel_rfl) (fun KJ hK => ?_) (fun KJ hK => ?_)
                · go_simp
                  refine (twin_tw (HSB.out.at_ AO.out.1.nb_) AO.out.1.nb_).mono ?_
                  rintro e W2 ⟨g5, rfl, hg, ht, hb⟩
                  have HJ : Hid ((fun W' : World => W'.cell? ⟨go, 0, none⟩ = some (.int .i64 kd) ∧ W'.cell? ⟨go, 3, none⟩ = some (.int .i64 nn)) W2) := ⟨(Hxo.out.below hb).c0, (Hxo.out.below hb).c3⟩
                  refine hK _ _ HJ.out ?_
                  refine wpJ_tq 8 rfl HJ.out ?_
                  exact wpJ_same5 (by kernel_rfl) (by kernel_rfl) (N3_5 g3 g5 W2 ⟨(Hxo.out.below hb), (Below.on hbw hb), (HSA.out.below hb), (HSB.out.below hb), (Ht3.out.below hb), ht⟩)
                · go_simp
                  have hb := below1 W' (.cells #[.int .i64 0, .slice none 0 0, .slice none 0 0, .int .i64 0, .int .u64 0] 26)
                  refine hK _ _ ⟨(Hxo.out.below hb).c0, (Hxo.out.below hb).c3⟩ ?_
                  exact wpJ_same5 (by kernel_rfl) (by kernel_rfl) (N3_9 g3 W'.heap.size _ ⟨(Hxo.out.below hb), (Below.on hbw hb), (HSA.out.below hb), (HSB.out.below hb), (Ht3.out.below hb), (B5q.new W' _ _ _ _ _ _), hbw.size, ⟨Nat.ne_of_lt HSA.out.lt, Nat.ne_of_lt HSB.out.lt, Nat.ne_of_lt Hxo.out.lt⟩, (Nat.ne_of_lt Ht3.out.lt)⟩)
              have N9 : ∀ (gn : Nat) (W' : World), (B5q W' go (.int .i64 kd) (.slice pa na ca) (.slice pb nb cb) (.int .i64 nn) (U x)) ∧ (Below w.heap.size w W') ∧ (SR W' w.heap.size gA na za) ∧ (SR W' w.heap.size gB nb zb) ∧ (B5q W' gn (.int .i64 0) (.slice none 0 0) (.slice none 0 0) (.int .i64 0) (.int .u64 0)) ∧ (w.heap.size ≤ gn) ∧ (gA ≠ gn ∧ gB ≠ gn ∧ go ≠ gn) → WP 4 (L0.setIfInBounds 9 true) (a0.put (some 9) (.pointer (some ⟨gn, 0, none⟩))) W' := by
                rintro gn W' ⟨xo, hbw, SA, SB, x9, h9, n9⟩
                subst hWP hL ha
                have Hxo := Hid.mk5 xo
                have HSA := Hid.mk5 SA
                have HSB := Hid.mk5 SB
                have Hx9 := Hid.mk5 x9
                have Hh9 := Hid.mk5 h9
                have Hn9 := Hid.mk5 n9
                clear xo SA SB x9 h9 n9
                go_simp
                refine wpJ_on 3 rfl fun KJ hK => ?_
                go_simp
                refine (twin_tw (HSA.out.at_ AO.out.1.na_) AO.out.1.na_).mono ?_
                rintro e W2 ⟨g3, rfl, hg, ht, hb⟩
                refine hK _ _ ⟨(Hxo.out.below hb).c0, (Hxo.out.below hb).c3⟩ ?_
                exact wpJ_same5 (by kernel_rfl) (by kernel_rfl) (N3_9 g3 gn W2 ⟨(Hxo.out.below hb), (Below.on hbw hb), (HSA.out.below hb), (HSB.out.below hb), ht, (Hx9.out.below hb), Hh9.out, Hn9.out, (Nat.ne_of_gt (Nat.lt_of_lt_of_le Hx9.out.lt hg))⟩)
              have N_ : ∀ (W' : World), (B5q W' go (.int .i64 kd) (.slice pa na ca) (.slice pb nb cb) (.int .i64 nn) (U x)) ∧ (Below w.heap.size w W') ∧ (SR W' w.heap.size gA na za) ∧ (SR W' w.heap.size gB nb zb) → WP 5 L0 a0 W' := by
                rintro  W' ⟨xo, hbw, SA, SB⟩
                subst hWP hL ha
                have Hxo := Hid.mk5 xo
                have HSA := Hid.mk5 SA
                have HSB := Hid.mk5 SB
                clear xo SA SB
                go_simp
                refine wpJ_two (i := 3) (k := 9) (by kernel_rfl) rfl rfl (by kernel_rfl) (by kernel_rfl) (fun KJ hK => ?_) (fun KJ hK => ?_)
                · go_simp
                  refine (twin_tw (HSA.out.at_ AO.out.1.na_) AO.out.1.na_).mono ?_
                  rintro e W2 ⟨g3, rfl, hg, ht, hb⟩
                  refine hK _ _ ⟨(Hxo.out.below hb).c0, (Hxo.out.below hb).c3⟩ ?_
                  exact wpJ_same5 (by kernel_rfl) (by kernel_rfl) (N3 g3 W2 ⟨(Hxo.out.below hb), (Below.on hbw hb), (HSA.out.below hb), (HSB.out.below hb), ht⟩)
                · go_simp
                  have hb := below1 W' (.cells #[.int .i64 0, .slice none 0 0, .slice none 0 0, .int .i64 0, .int .u64 0] 26)
                  refine hK _ _ ⟨(Hxo.out.below hb).c0, (Hxo.out.below hb).c3⟩ ?_
                  exact wpJ_same5 (by kernel_rfl) (by kernel_rfl) (N9 W'.heap.size _ ⟨(Hxo.out.below hb), (Below.on hbw hb), (HSA.out.below hb), (HSB.out.below hb), (B5q.new W' _ _ _ _ _ _), hbw.size, ⟨Nat.ne_of_lt HSA.out.lt, Nat.ne_of_lt HSB.out.lt, Nat.ne_of_lt Hxo.out.lt⟩⟩)
              exact N_ W5 ⟨Xo.out, hbw, SA.out, SB.out⟩
def LsO (w : World) (g : Nat) : Prop := ∃ k pc nc cc xc pd nd cd xd np y, B5q w g (.int .i64 k) (.slice pc nc cc) (.slice pd nd cd) (.int .i64 np) (U y) ∧ OpA w pc nc cc xc pd nd cd xd np y ∧ LKd k
theorem B5q.put5 {w : World} {g : Nat} {a0 a1 a2 a3 a4 : Value} (h : B5q w g a0 a1 a2 a3 a4) (v0 v1 v2 v3 v4 : Value) : B5q (((((w.setCell ⟨g, 0, none⟩ v0).setCell ⟨g, 1, none⟩ v1).setCell ⟨g, 2, none⟩ v2).setCell ⟨g, 3, none⟩ v3).setCell ⟨g, 4, none⟩ v4) g v0 v1 v2 v3 v4 := by
  obtain ⟨c0, c1, c2, c3, c4, f0, f1, f2, f3, f4⟩ := h
  exact ⟨by go_simp, by go_simp, by go_simp, by go_simp, by go_simp, by go_simp, by go_simp, by go_simp, by go_simp, by go_simp⟩
theorem LsO.below {w w' : World} {g : Nat} (h : LsO w g) (hb : Below w.heap.size w w') : LsO w' g := by
  obtain ⟨k, pc, nc, cc, xc, pd, nd, cd, xd, np, y, h1, h2, h3⟩ := h
  exact ⟨k, pc, nc, cc, xc, pd, nd, cd, xd, np, y, h1.below hb, h2.below hb, h3⟩
theorem natKeeps_walk {P : Option Addr} {N C : Nat} {its : List Op5} {w : World} (h : Scr w P N C its) (hT : Tab w) :
    Calls Tryd.prog 3 #[.slice P N C] w fun e w' => e = .returned (.bool true) ∧ Below w.heap.size w w' := by
  have H : Hid (Scr w P N C its ∧ Tab w) := ⟨h, hT⟩
  have HLN : Hid (its.length = N) := h.len
  have cap := h.cap; have big := h.big
  unfold maxLen at big
  clear h hT
  have hbw : Below w.heap.size w w := Below.refl _ _
  go_enter Tryd.func3, Tryd.ntmps3
  go_wp2_with fail
  obtain ⟨W0, hW0⟩ : ∃ W0, W0 = (((w.alloc (.cells #[.int .u64 18446744073709551615, .int .u64 3] 23)).alloc (.cells #[.int .u64 1] 23)).alloc (.cells #[.int .i64 8, .slice (some ⟨w.heap.size, 0, none⟩) 2 2, .slice (some ⟨w.heap.size + 1, 0, none⟩) 1 1, .int .i64 0, .int .u64 0] 26)) := ⟨_, rfl⟩
  have FA : Hid (At W0 (some ⟨w.heap.size, 0, none⟩) 2 2 [18446744073709551615, 3]) := by rw [hW0]; exact ((lit_at w _ [18446744073709551615, 3] 2 rfl rfl (dig2 (by decide) (by decide)) (by omega)).alloc _).alloc _
  have FB : Hid (At W0 (some ⟨w.heap.size + 1, 0, none⟩) 1 1 [1]) := by rw [hW0]; have h9 := lit_at (w.alloc (.cells #[.int .u64 18446744073709551615, .int .u64 3] 23)) _ [1] 1 rfl rfl (dig1 (by decide)) (by omega); rw [show (w.alloc (.cells #[.int .u64 18446744073709551615, .int .u64 3] 23)).heap.size = w.heap.size + 1 from by simp] at h9; exact h9.alloc _
  have Xf : Hid (B5q W0 (w.heap.size + 1 + 1) (.int .i64 8) (.slice (some ⟨w.heap.size, 0, none⟩) 2 2) (.slice (some ⟨w.heap.size + 1, 0, none⟩) 1 1) (.int .i64 0) (.int .u64 0)) := by rw [hW0]; exact ⟨by go_simp, by go_simp, by go_simp, by go_simp, by go_simp, by go_simp, by go_simp, by go_simp, by go_simp, by go_simp⟩
  have hb0 : Below w.heap.size w W0 := by rw [hW0]; exact below3 w _ _ _
  rw [← hW0]
  clear hW0 hbw
  have hbw := hb0
  clear hb0
  obtain ⟨gf, hgf⟩ : ∃ g, g = w.heap.size + 1 + 1 := ⟨_, rfl⟩
  rw [← hgf] at Xf ⊢
  clear hgf
  generalize (some ⟨w.heap.size, 0, none⟩ : Option Addr) = f1 at *
  generalize (some ⟨w.heap.size + 1, 0, none⟩ : Option Addr) = f2 at *
  refine (awake_any _).mono ?_
  rintro e v1 ⟨rfl, hb1⟩
  replace Xf : Hid _ := Xf.out.below hb1
  replace FA : Hid _ := FA.out.below hb1
  replace FB : Hid _ := FB.out.below hb1
  replace hbw := Below.on hbw hb1
  clear hb1
  obtain ⟨cf0, cf1, cf2, cf3, cf4, ff0, ff1, ff2, ff3, ff4⟩ := Xf.out
  have hnef : gf < v1.heap.size := World.block_lt_of_cell? v1 _ cf0
  go_wp2_with fail
  clear cf0 cf1 cf2 cf3 cf4 ff0 ff1 ff2 ff3 ff4 hnef
  obtain ⟨W1, hW1⟩ : ∃ W1, W1 = ((v1.alloc (.cells #[.int .u64 9, .int .u64 9] 23)).alloc (.cells #[.int .u64 4] 23)) := ⟨_, rfl⟩
  have GA : Hid (At W1 (some ⟨v1.heap.size, 0, none⟩) 2 2 [9, 9]) := by rw [hW1]; exact (lit_at v1 _ [9, 9] 2 rfl rfl (dig2 (by decide) (by decide)) (by omega)).alloc _
  have GB : Hid (At W1 (some ⟨v1.heap.size + 1, 0, none⟩) 1 1 [4]) := by rw [hW1]; have h9 := lit_at (v1.alloc (.cells #[.int .u64 9, .int .u64 9] 23)) _ [4] 1 rfl rfl (dig1 (by decide)) (by omega); rw [show (v1.alloc (.cells #[.int .u64 9, .int .u64 9] 23)).heap.size = v1.heap.size + 1 from by simp] at h9; exact h9
  have hb0 : Below v1.heap.size v1 W1 := by rw [hW1]; exact below2 v1 _ _
  rw [← hW1]
  clear hW1
  replace Xf : Hid _ := Xf.out.below hb0
  replace FA : Hid _ := FA.out.below hb0
  replace FB : Hid _ := FB.out.below hb0
  replace hbw := Below.on hbw hb0
  clear hb0
  refine (keepsK (x := 0) (y := 0) ⟨FA.out, FB.out, by decide, by decide, by decide, by decide⟩ ⟨GA.out, GB.out, by decide, by decide, by decide, by decide⟩ (.inr (.inr (.inl rfl))) (.inr (.inr (.inr (.inl rfl))))).mono ?_
  rintro e v2 ⟨rfl, hb⟩
  clear GA GB
  replace Xf : Hid _ := Xf.out.below hb
  replace FA : Hid _ := FA.out.below hb
  replace FB : Hid _ := FB.out.below hb
  replace hbw := Below.on hbw hb
  clear hb
  obtain ⟨cf0, cf1, cf2, cf3, cf4, ff0, ff1, ff2, ff3, ff4⟩ := Xf.out
  have hnef : gf < v2.heap.size := World.block_lt_of_cell? v2 _ cf0
  go_wp2_with fail
  clear cf0 cf1 cf2 cf3 cf4 ff0 ff1 ff2 ff3 ff4 hnef
  have Xl0 : Hid (B5q (v2.alloc (.cells #[.int .i64 8, .slice f1 2 2, .slice f2 1 1, .int .i64 0, .int .u64 0] 26)) v2.heap.size (.int .i64 8) (.slice f1 2 2) (.slice f2 1 1) (.int .i64 0) (.int .u64 0)) := B5q.new v2 _ _ _ _ _ _
  have hbn : Below v2.heap.size v2 (v2.alloc (.cells #[.int .i64 8, .slice f1 2 2, .slice f2 1 1, .int .i64 0, .int .u64 0] 26)) := below1 v2 _
  generalize v2.alloc (.cells #[.int .i64 8, .slice f1 2 2, .slice f2 1 1, .int .i64 0, .int .u64 0] 26) = Wl at *
  have HGl : Hid (w.heap.size ≤ v2.heap.size) := hbw.size
  replace Xf : Hid _ := Xf.out.below hbn
  replace FA : Hid _ := FA.out.below hbn
  replace FB : Hid _ := FB.out.below hbn
  replace hbw := Below.on hbw hbn
  clear hbn
  generalize v2.heap.size = gl at *
  have Xl := Xl0
  clear Xl0
  have HLO : Hid (LsO Wl gl) := ⟨8, f1, 2, 2, _, f2, 1, 1, _, 0, 0, Xl.out, ⟨FA.out, FB.out, by decide, by decide, by decide, by decide⟩, .inr (.inr (.inl rfl))⟩
  clear FA
  clear FB
  clear Xf
  clear Xl
  go_loopg [24] N (fun gk iv wr => ∃ k : Nat, k + gk = N ∧ iv = .int .i64 k ∧ Below w.heap.size w wr ∧ LsO wr gl)
  case atStart => exact ⟨0, by omega, rfl, hbw, HLO.out⟩
  case round =>
    clear hbw HLO
    obtain ⟨k, hkg, rfl, hbw, xl⟩ := hrel
    have HLO : Hid (LsO wr gl) := xl
    clear xl
    cases gk with
    | zero =>
      obtain rfl : k = N := by omega
      have hnk : ¬ (k : Int) < (k : Int) := by omega
      go_wp2_with fail
      go_ret
      exact ⟨rfl, hbw⟩
    | succ gg =>
      have hki : k < its.length := by rw [HLN.out]; omega
      obtain ⟨g, off, rfl, hc⟩ := (H.out.1.below hbw).cells.resolve_left (by omega)
      obtain ⟨e0, e1, e2, e3, e4⟩ := hc k hki
      obtain ⟨hA, hB, hna, hnb, hwd, hn1, hn2⟩ := H.out.1.ats its[k] (List.getElem_mem hki)
      have HOW : Hid (OpA w its[k].pa its[k].na its[k].ca its[k].xa its[k].pb its[k].nb its[k].cb its[k].xb its[k].nn its[k].wd) := ⟨hA, hB, hna, hnb, hn2, hwd⟩
      have hkk : (k : Int) < (N : Int) := by omega
      have hlt : g < wr.heap.size := World.block_lt_of_cell? wr _ e0
      clear hc hA hB hn1 hn2 hwd hna hnb
      generalize its[k].k = kd at *
      generalize its[k].pa = pa at *
      generalize its[k].na = na at *
      generalize its[k].ca = ca at *
      generalize its[k].xa = xa at *
      generalize its[k].pb = pb at *
      generalize its[k].nb = nb at *
      generalize its[k].cb = cb at *
      generalize its[k].xb = xb at *
      generalize its[k].nn = nn at *
      generalize its[k].wd = wd at *
      by_cases c1 : kd < 2
      · have d1 : decide (kd < 2) = true := decide_eq_true c1
        go_wp2_with fail
        refine (leavesK (HOW.out.below (Below.on hbw (below1 wr _))) (H.out.2.below (Below.on hbw (below1 wr _)))).mono ?_
        rintro e wz ⟨rfl, hbz⟩
        have hb2 := Below.on (below1 wr _) hbz
        clear hbz e0 e1 e2 e3 e4
        go_wp2_with fail
        go_roundg gg
        case measure => omega
        case rel => exact ⟨k + 1, by omega, by go_num, Below.on hbw hb2, HLO.out.below hb2⟩
      by_cases c2 : 14 < kd
      · have d1 : decide (kd < 2) = false := decide_eq_false c1
        have d2 : decide (14 < kd) = true := decide_eq_true c2
        go_wp2_with fail
        refine (leavesK (HOW.out.below (Below.on hbw (below1 wr _))) (H.out.2.below (Below.on hbw (below1 wr _)))).mono ?_
        rintro e wz ⟨rfl, hbz⟩
        have hb2 := Below.on (below1 wr _) hbz
        clear hbz e0 e1 e2 e3 e4
        go_wp2_with fail
        go_roundg gg
        case measure => omega
        case rel => exact ⟨k + 1, by omega, by go_num, Below.on hbw hb2, HLO.out.below hb2⟩
      by_cases c3 : 4 ≤ kd ∧ kd ≤ 7
      · have d1 : decide (kd < 2) = false := decide_eq_false c1
        have d2 : decide (14 < kd) = false := decide_eq_false c2
        have d3 : decide (4 ≤ kd) = true := decide_eq_true c3.1
        have d4 : decide (kd ≤ 7) = true := decide_eq_true c3.2
        go_wp2_with fail
        refine (leavesK (HOW.out.below (Below.on hbw (below1 wr _))) (H.out.2.below (Below.on hbw (below1 wr _)))).mono ?_
        rintro e wz ⟨rfl, hbz⟩
        have hb2 := Below.on (below1 wr _) hbz
        clear hbz e0 e1 e2 e3 e4
        go_wp2_with fail
        go_roundg gg
        case measure => omega
        case rel => exact ⟨k + 1, by omega, by go_num, Below.on hbw hb2, HLO.out.below hb2⟩
      have HLK : Hid (LKd kd) := by show LKd kd; unfold LKd; omega
      have d1 : decide (kd < 2) = false := decide_eq_false c1
      have d2 : decide (14 < kd) = false := decide_eq_false c2
      have d34 : (decide (4 ≤ kd) && decide (kd ≤ 7)) = false := by simp; omega
      obtain ⟨kp, pc, nc, cc, xc, pd, nd, cd, xd, np, y, xl, ol, lk⟩ := HLO.out
      have Xl : Hid (B5q wr gl (.int .i64 kp) (.slice pc nc cc) (.slice pd nd cd) (.int .i64 np) (U y)) := xl
      have HOP : Hid (OpA wr pc nc cc xc pd nd cd xd np y ∧ LKd kp) := ⟨ol, lk⟩
      clear xl ol lk HLO
      by_cases c4 : 4 ≤ kd
      · have d3 : decide (4 ≤ kd) = true := decide_eq_true c4
        have d4 : decide (kd ≤ 7) = false := decide_eq_false (by omega)
        clear d34
        obtain ⟨cl0, cl1, cl2, cl3, cl4, fl0, fl1, fl2, fl3, fl4⟩ := Xl.out
        have hnel : gl < wr.heap.size := World.block_lt_of_cell? wr _ cl0
        go_wp2_with fail
        clear cl0 cl1 cl2 cl3 cl4 fl0 fl1 fl2 fl3 fl4 hnel
        obtain ⟨Ws, hWs⟩ : ∃ Ws, Ws = ((wr.alloc (.cells #[.int .i64 kd, .slice pa na ca, .slice pb nb cb, .int .i64 nn, U wd] 26)).alloc (.cells #[.int .i64 kd, .slice pc nc cc, .slice pd nd cd, .int .i64 np, U y] 26)) := ⟨_, rfl⟩
        have Xo : Hid (B5q Ws wr.heap.size (.int .i64 kd) (.slice pa na ca) (.slice pb nb cb) (.int .i64 nn) (U wd)) := by rw [hWs]; exact ⟨by go_simp, by go_simp, by go_simp, by go_simp, by go_simp, by go_simp, by go_simp, by go_simp, by go_simp, by go_simp⟩
        have Xs : Hid (B5q Ws (wr.heap.size + 1) (.int .i64 kd) (.slice pc nc cc) (.slice pd nd cd) (.int .i64 np) (U y)) := by rw [hWs]; exact ⟨by go_simp, by go_simp, by go_simp, by go_simp, by go_simp, by go_simp, by go_simp, by go_simp, by go_simp, by go_simp⟩
        have hb0 : Below wr.heap.size wr Ws := by rw [hWs]; exact below2 wr _ _
        rw [← hWs]
        clear hWs e0 e1 e2 e3 e4 hlt
        have HOP2 : Hid (OpA Ws pc nc cc xc pd nd cd xd np y) := HOP.out.1.below hb0
        have HKP : Hid (LKd kp) := HOP.out.2
        clear HOP
        replace Xl : Hid _ := Xl.out.below hb0
        replace hbw := Below.on hbw hb0
        clear hb0
        generalize wr.heap.size = go at *
        obtain ⟨gs, hgs⟩ : ∃ gs, gs = go + 1 := ⟨_, rfl⟩
        rw [← hgs] at Xs ⊢
        clear hgs
        refine (keepsK (HOW.out.below hbw) HOP2.out HLK.out HKP.out).mono ?_
        rintro e v41 ⟨rfl, hb41⟩
        replace Xl : Hid _ := Xl.out.below hb41
        replace Xo : Hid _ := Xo.out.below hb41
        replace Xs : Hid _ := Xs.out.below hb41
        replace HOP2 : Hid (OpA v41 pc nc cc xc pd nd cd xd np y) := HOP2.out.below hb41
        replace hbw := Below.on hbw hb41
        clear hb41
        obtain ⟨co0, co1, co2, co3, co4, fo0, fo1, fo2, fo3, fo4⟩ := Xo.out
        have hneo : go < v41.heap.size := World.block_lt_of_cell? v41 _ co0
        obtain ⟨cs0, cs1, cs2, cs3, cs4, fs0, fs1, fs2, fs3, fs4⟩ := Xs.out
        have hnes : gs < v41.heap.size := World.block_lt_of_cell? v41 _ cs0
        go_wp2_with fail
        clear co0 co1 co2 co3 co4 fo0 fo1 fo2 fo3 fo4 hneo
        clear cs0 cs1 cs2 cs3 cs4 fs0 fs1 fs2 fs3 fs4 hnes
        refine (keepsK (HOW.out.below hbw) HOP2.out HLK.out HLK.out).mono ?_
        rintro e v42 ⟨rfl, hb42⟩
        replace Xl : Hid _ := Xl.out.below hb42
        replace Xo : Hid _ := Xo.out.below hb42
        replace Xs : Hid _ := Xs.out.below hb42
        replace HOP2 : Hid (OpA v42 pc nc cc xc pd nd cd xd np y) := HOP2.out.below hb42
        replace hbw := Below.on hbw hb42
        clear hb42
        obtain ⟨co0, co1, co2, co3, co4, fo0, fo1, fo2, fo3, fo4⟩ := Xo.out
        have hneo : go < v42.heap.size := World.block_lt_of_cell? v42 _ co0
        obtain ⟨cl0, cl1, cl2, cl3, cl4, fl0, fl1, fl2, fl3, fl4⟩ := Xl.out
        have hnel : gl < v42.heap.size := World.block_lt_of_cell? v42 _ cl0
        go_wp2_with fail
        clear co0 co1 co2 co3 co4 fo0 fo1 fo2 fo3 fo4 hneo
        clear cl0 cl1 cl2 cl3 cl4 fl0 fl1 fl2 fl3 fl4 hnel
        have hbz : Below w.heap.size w (((((v42.setCell ⟨gl, 0, none⟩ (.int .i64 kd)).setCell ⟨gl, 1, none⟩ (.slice pa na ca)).setCell ⟨gl, 2, none⟩ (.slice pb nb cb)).setCell ⟨gl, 3, none⟩ (.int .i64 nn)).setCell ⟨gl, 4, none⟩ (U wd)) := bSet (bSet (bSet (bSet (bSet hbw _ _ _ HGl.out) _ _ _ HGl.out) _ _ _ HGl.out) _ _ _ HGl.out) _ _ _ HGl.out
        have HLZ : Hid (LsO (((((v42.setCell ⟨gl, 0, none⟩ (.int .i64 kd)).setCell ⟨gl, 1, none⟩ (.slice pa na ca)).setCell ⟨gl, 2, none⟩ (.slice pb nb cb)).setCell ⟨gl, 3, none⟩ (.int .i64 nn)).setCell ⟨gl, 4, none⟩ (U wd)) gl) := ⟨kd, pa, na, ca, xa, pb, nb, cb, xb, nn, wd, Xl.out.put5 _ _ _ _ _, HOW.out.below hbz, HLK.out⟩
        go_roundg gg
        case measure => omega
        case rel => exact ⟨k + 1, by omega, by go_num, hbz, HLZ.out⟩
      · have d3 : decide (4 ≤ kd) = false := decide_eq_false c4
        clear d34
        obtain ⟨cl0, cl1, cl2, cl3, cl4, fl0, fl1, fl2, fl3, fl4⟩ := Xl.out
        have hnel : gl < wr.heap.size := World.block_lt_of_cell? wr _ cl0
        go_wp2_with fail
        clear cl0 cl1 cl2 cl3 cl4 fl0 fl1 fl2 fl3 fl4 hnel
        obtain ⟨Ws, hWs⟩ : ∃ Ws, Ws = ((wr.alloc (.cells #[.int .i64 kd, .slice pa na ca, .slice pb nb cb, .int .i64 nn, U wd] 26)).alloc (.cells #[.int .i64 kd, .slice pc nc cc, .slice pd nd cd, .int .i64 np, U y] 26)) := ⟨_, rfl⟩
        have Xo : Hid (B5q Ws wr.heap.size (.int .i64 kd) (.slice pa na ca) (.slice pb nb cb) (.int .i64 nn) (U wd)) := by rw [hWs]; exact ⟨by go_simp, by go_simp, by go_simp, by go_simp, by go_simp, by go_simp, by go_simp, by go_simp, by go_simp, by go_simp⟩
        have Xs : Hid (B5q Ws (wr.heap.size + 1) (.int .i64 kd) (.slice pc nc cc) (.slice pd nd cd) (.int .i64 np) (U y)) := by rw [hWs]; exact ⟨by go_simp, by go_simp, by go_simp, by go_simp, by go_simp, by go_simp, by go_simp, by go_simp, by go_simp, by go_simp⟩
        have hb0 : Below wr.heap.size wr Ws := by rw [hWs]; exact below2 wr _ _
        rw [← hWs]
        clear hWs e0 e1 e2 e3 e4 hlt
        have HOP2 : Hid (OpA Ws pc nc cc xc pd nd cd xd np y) := HOP.out.1.below hb0
        have HKP : Hid (LKd kp) := HOP.out.2
        clear HOP
        replace Xl : Hid _ := Xl.out.below hb0
        replace hbw := Below.on hbw hb0
        clear hb0
        generalize wr.heap.size = go at *
        obtain ⟨gs, hgs⟩ : ∃ gs, gs = go + 1 := ⟨_, rfl⟩
        rw [← hgs] at Xs ⊢
        clear hgs
        refine (keepsK (HOW.out.below hbw) HOP2.out HLK.out HKP.out).mono ?_
        rintro e v41 ⟨rfl, hb41⟩
        replace Xl : Hid _ := Xl.out.below hb41
        replace Xo : Hid _ := Xo.out.below hb41
        replace Xs : Hid _ := Xs.out.below hb41
        replace HOP2 : Hid (OpA v41 pc nc cc xc pd nd cd xd np y) := HOP2.out.below hb41
        replace hbw := Below.on hbw hb41
        clear hb41
        obtain ⟨co0, co1, co2, co3, co4, fo0, fo1, fo2, fo3, fo4⟩ := Xo.out
        have hneo : go < v41.heap.size := World.block_lt_of_cell? v41 _ co0
        obtain ⟨cs0, cs1, cs2, cs3, cs4, fs0, fs1, fs2, fs3, fs4⟩ := Xs.out
        have hnes : gs < v41.heap.size := World.block_lt_of_cell? v41 _ cs0
        go_wp2_with fail
        clear co0 co1 co2 co3 co4 fo0 fo1 fo2 fo3 fo4 hneo
        clear cs0 cs1 cs2 cs3 cs4 fs0 fs1 fs2 fs3 fs4 hnes
        refine (keepsK (HOW.out.below hbw) HOP2.out HLK.out HLK.out).mono ?_
        rintro e v42 ⟨rfl, hb42⟩
        replace Xl : Hid _ := Xl.out.below hb42
        replace Xo : Hid _ := Xo.out.below hb42
        replace Xs : Hid _ := Xs.out.below hb42
        replace HOP2 : Hid (OpA v42 pc nc cc xc pd nd cd xd np y) := HOP2.out.below hb42
        replace hbw := Below.on hbw hb42
        clear hb42
        obtain ⟨co0, co1, co2, co3, co4, fo0, fo1, fo2, fo3, fo4⟩ := Xo.out
        have hneo : go < v42.heap.size := World.block_lt_of_cell? v42 _ co0
        obtain ⟨cl0, cl1, cl2, cl3, cl4, fl0, fl1, fl2, fl3, fl4⟩ := Xl.out
        have hnel : gl < v42.heap.size := World.block_lt_of_cell? v42 _ cl0
        go_wp2_with fail
        clear co0 co1 co2 co3 co4 fo0 fo1 fo2 fo3 fo4 hneo
        clear cl0 cl1 cl2 cl3 cl4 fl0 fl1 fl2 fl3 fl4 hnel
        have hbz : Below w.heap.size w (((((v42.setCell ⟨gl, 0, none⟩ (.int .i64 kd)).setCell ⟨gl, 1, none⟩ (.slice pa na ca)).setCell ⟨gl, 2, none⟩ (.slice pb nb cb)).setCell ⟨gl, 3, none⟩ (.int .i64 nn)).setCell ⟨gl, 4, none⟩ (U wd)) := bSet (bSet (bSet (bSet (bSet hbw _ _ _ HGl.out) _ _ _ HGl.out) _ _ _ HGl.out) _ _ _ HGl.out) _ _ _ HGl.out
        have HLZ : Hid (LsO (((((v42.setCell ⟨gl, 0, none⟩ (.int .i64 kd)).setCell ⟨gl, 1, none⟩ (.slice pa na ca)).setCell ⟨gl, 2, none⟩ (.slice pb nb cb)).setCell ⟨gl, 3, none⟩ (.int .i64 nn)).setCell ⟨gl, 4, none⟩ (U wd)) gl) := ⟨kd, pa, na, ca, xa, pb, nb, cb, xb, nn, wd, Xl.out.put5 _ _ _ _ _, HOW.out.below hbz, HLK.out⟩
        go_roundg gg
        case measure => omega
        case rel => exact ⟨k + 1, by omega, by go_num, hbz, HLZ.out⟩
end Go.Proofs.YtkdpafliibclnaaDoor
