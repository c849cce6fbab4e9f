import Derived.Test.YtfmbifocgljieaaGreatDoorJ18
import Derived.Test.YtfmbifocgljieaaGreatDoorJ15
namespace Go.Proofs.YtfmbifocgljieaaGreatDoor
open Go.RowKit Go.Shelf
set_option maxRecDepth 20000
set_option maxHeartbeats 0
theorem Mk.trc {H : Nat} {l : Int} {I : Nat} {g : Int → Int} {A V : Int} {Z : Nat} {s : Nat → Int} (hM : Mk H l I g A V) (hZ : RNz H l I V Z)
    (h1 : ∀ z, s z < 0 → A < g (dv (hv H z : Int) (l - 1))) (h2 : ∀ z, 0 < s z → g (dv (hv H z : Int) (l - 1)) < A) (h3 : ∀ z, s z = 0 → A = g (dv (hv H z : Int) (l - 1))) : Trc s I Z := by
  refine ⟨hZ.le, fun z hz => ?_⟩
  rcases Int.lt_trichotomy V (dv (hv H z : Int) (l - 1)) with e | e | e
  · have e1 := hM.lt z hz e
    refine ⟨fun _ => hZ.lo z hz e, fun h => ?_, fun h => ?_⟩
    · have := h2 z h; omega
    · have := h3 z h; omega
  · have e1 := hM.eq z hz e
    refine ⟨fun h => ?_, fun h => ?_, fun _ => hZ.eq z hz e⟩
    · have := h1 z h; omega
    · have := h2 z h; omega
  · have e1 := hM.gt z hz e
    refine ⟨fun h => ?_, fun _ => hZ.hi z hz e, fun h => ?_⟩
    · have := h1 z h; omega
    · have := h3 z h; omega
theorem quo_trc {H : Nat} {l : Int} {I n d : Nat} {e V : Int} {Z : Nat} (hM : Mk H l I (fun τ => (d : Int) * τ) (dv (n : Int) e) V) (hZ : RNz H l I V Z) : Trc (fun z => cmpN (dN n e) (dN (hv H z * d) (l - 1))) I Z := by
  have hk : ∀ z, (d : Int) * dv (hv H z : Int) (l - 1) = (dN (hv H z * d) (l - 1) : Int) := fun z => by
    rw [dN_dv, ← Int.natCast_mul]
    congr 1
    unfold dN
    rw [Nat.mul_left_comm d, Nat.mul_assoc]
  refine hM.trc hZ (fun z h => ?_) (fun z h => ?_) (fun z h => ?_)
  · have := (cmpN_lt0 _ _).1 h
    show _ < (d : Int) * _
    rw [hk, dN_dv]; omega
  · have := (cmpN_gt0 _ _).1 h
    show (d : Int) * _ < _
    rw [hk, dN_dv]; omega
  · have := (cmpN_eq0 _ _).1 h
    show _ = (d : Int) * _
    rw [hk, dN_dv]; omega
theorem rot_trc {H : Nat} {l : Int} {I n : Nat} {e V : Int} {Z : Nat} (he : -4194304 ≤ e) (hl : -2000 ≤ l) (hM : Mk H l I (fun τ => τ * τ) ((n : Int) * ((2 ^ (e + 2 * 4194304).toNat : Nat) : Int)) V) (hZ : RNz H l I V Z) : Trc (fun z => cmpN (dN n e) (dN (hv H z * hv H z * 1) (2 * (l - 1)))) I Z := by
  obtain ⟨K, hK⟩ : ∃ K : Nat, K = 4194304 := ⟨_, rfl⟩
  have hp : 0 < 2 ^ K := Nat.two_pow_pos _
  have hA : (n : Int) * ((2 ^ (e + 2 * 4194304).toNat : Nat) : Int) = ((dN n e * 2 ^ K : Nat) : Int) := by
    rw [← Int.natCast_mul]
    congr 1
    unfold dN
    rw [Nat.mul_assoc, ← Nat.pow_add, show (e + 4194304).toNat + K = (e + 2 * 4194304).toNat by omega]
  have hk : ∀ z, dv (hv H z : Int) (l - 1) * dv (hv H z : Int) (l - 1) = ((dN (hv H z * hv H z * 1) (2 * (l - 1)) * 2 ^ K : Nat) : Int) := fun z => by
    rw [dN_dv, ← Int.natCast_mul, Nat.mul_one]
    congr 1
    unfold dN
    rw [Nat.mul_mul_mul_comm, ← Nat.pow_add, Nat.mul_assoc (hv H z * hv H z), ← Nat.pow_add, show (l - 1 + 4194304).toNat + (l - 1 + 4194304).toNat = (2 * (l - 1) + 4194304).toNat + K by omega]
  rw [hA] at hM
  refine hM.trc hZ (fun z h => ?_) (fun z h => ?_) (fun z h => ?_)
  · have := (cmpN_lt0 _ _).1 h
    show _ < _ * _
    rw [hk]; exact Int.ofNat_lt.2 (Nat.mul_lt_mul_of_pos_right this hp)
  · have := (cmpN_gt0 _ _).1 h
    show _ * _ < _
    rw [hk]; exact Int.ofNat_lt.2 (Nat.mul_lt_mul_of_pos_right this hp)
  · have := (cmpN_eq0 _ _).1 h
    show _ = _ * _
    rw [hk, this]
def QuoB (f : Int) (s : Bool) (xs : List Nat) (e : Int) (t : Bool) (ys : List Nat) (g : Int) : Prop := ∃ v er : Int, (∀ (w : World) (pa pb : Option Addr) (na ca nb cb : Nat), At w pa na ca xs → At w pb nb cb ys → Tab w → Calls Tryz.prog 13 #[.int .i64 f, DV s pa na ca e, DV t pb nb cb g] w fun en w' => en = .returned (.tuple #[.int .u64 v, .int .i64 er]) ∧ Below w.heap.size w w') ∧ (∀ (w : World) (pa pb : Option Addr) (na ca nb cb : Nat), At w pa na ca xs → At w pb nb cb ys → Calls Tryz.prog 55 #[.int .i64 f, DV s pa na ca e, DV t pb nb cb g] w fun en w' => en = .returned (.tuple #[.int .u64 v, .int .i64 er]) ∧ Below w.heap.size w w')
def RotB (f : Int) (s : Bool) (xs : List Nat) (e : Int) : Prop := ∃ v er : Int, (∀ (w : World) (pa : Option Addr) (na ca : Nat), At w pa na ca xs → Tab w → Calls Tryz.prog 14 #[.int .i64 f, DV s pa na ca e] w fun en w' => en = .returned (.tuple #[.int .u64 v, .int .i64 er]) ∧ Below w.heap.size w w') ∧ (∀ (w : World) (pa : Option Addr) (na ca : Nat), At w pa na ca xs → Calls Tryz.prog 56 #[.int .i64 f, DV s pa na ca e] w fun en w' => en = .returned (.tuple #[.int .u64 v, .int .i64 er]) ∧ Below w.heap.size w w')
theorem iv_nz {s : Bool} {n : Nat} (h : n ≠ 0) : iv s n ≠ 0 := by cases s <;> simp [iv] <;> omega
theorem iv_z0 {s : Bool} {n : Nat} (h : n = 0) : iv s n = 0 := by rw [h]; cases s <;> rfl
theorem at_pos {w : World} {p : Option Addr} {n c : Nat} {xs : List Nat} {s : Bool} {e : Int} (h : At w p n c xs) (hf : formD s xs e = true) (hv : valB B64 xs ≠ 0) : 0 < n := by
  obtain ⟨ys, hY⟩ := (formD_dn h hf).zn.ex
  refine num_pos hY ?_
  have := iv_nz (s := s) hv
  omega
theorem quo_fmt {f p m l P G : Int} {S I H sd Q : Nat} {Be : Int} (J : Jn f p m l S I H sd Be) (hmd : m = (sd : Int) + 1) (R : Rf f S P l G I Q) (K : Sk S P l G I Q H) (s : Bool) (xs : List Nat) (e : Int) (t : Bool) (ys : List Nat) (g : Int) : QuoB f s xs e t ys g := by
  cases hf : formD s xs e
  · exact ⟨0, 2, fun w pa pb na ca nb cb h k _ => quo_fa J s t h k hf, fun w pa pb na ca nb cb h k => docquo_e s t h k (fun w h k => chk_fa R s t h k hf) (by decide)⟩
  cases hg : formD t ys g
  · exact ⟨0, 2, fun w pa pb na ca nb cb h k _ => quo_fb J s t h k hf hg, fun w pa pb na ca nb cb h k => docquo_e s t h k (fun w h k => chk_fb R s t h k hf hg) (by decide)⟩
  by_cases hy : valB B64 ys = 0
  · exact ⟨0, 4, fun w pa pb na ca nb cb h k _ => quo_e9 J (formD_dn h hf) (formD_dn k hg) (iv_z0 hy), fun w pa pb na ca nb cb h k => docquo_z s t h k (fun w h k => chk_ok R s t h k hf hg) (val_nil k hg hy)⟩
  by_cases hl : 4096 < xs.length
  · exact ⟨0, 5, fun w pa pb na ca nb cb h k _ => quo_l1 J (formD_dn h hf) (formD_dn k hg) (iv_nz hy) (by rw [← h.len]; exact hl), fun w pa pb na ca nb cb h k => docquo_l1 s t h k (fun w h k => chk_ok R s t h k hf hg) (at_pos k hg hy) (by rw [← h.len]; exact hl)⟩
  by_cases hl2 : 4096 < ys.length
  · exact ⟨0, 5, fun w pa pb na ca nb cb h k _ => quo_l2 J (formD_dn h hf) (formD_dn k hg) (iv_nz hy) (by rw [← h.len]; omega) (by rw [← k.len]; exact hl2), fun w pa pb na ca nb cb h k => docquo_l2 s t h k (fun w h k => chk_ok R s t h k hf hg) (at_pos k hg hy) (by rw [← h.len]; exact hl) (by rw [← k.len]; exact hl2)⟩
  by_cases hx : valB B64 xs = 0
  · exact ⟨0, 0, fun w pa pb na ca nb cb h k hT => quotient_z J hmd (formD_dn h hf) (formD_dn k hg) (by rw [← h.len]; omega) (by rw [← k.len]; omega) hT (iv_nz hy) (iv_z0 hx), fun w pa pb na ca nb cb h k => docquo_n0 s t h k (fun w h k => chk_ok R s t h k hf hg) (at_pos k hg hy) (val_nil h hf hx) (by rw [← k.len]; exact hl2)⟩
  obtain ⟨x, hx9⟩ : ∃ x, x = iv s (valB B64 xs) := ⟨_, rfl⟩
  obtain ⟨y, hy9⟩ : ∃ y, y = iv t (valB B64 ys) := ⟨_, rfl⟩
  have hx0 : x ≠ 0 := by rw [hx9]; exact iv_nz hx
  have hy0 : y ≠ 0 := by rw [hy9]; exact iv_nz hy
  by_cases hE : ∃ Z, Trc (fun z => cmpN (dN x.natAbs (e - g)) (dN (hv H z * y.natAbs) (l - 1))) I Z
  · obtain ⟨Z, hZ⟩ := hE
    refine ⟨((if (s != t) then S + Z else Z : Nat) : Int), 0, fun w pa pb na ca nb cb h k hT => ?_, fun w pa pb na ca nb cb h k => ?_⟩
    · have h1 := formD_dn h hf
      have h2 := formD_dn k hg
      rw [← hx9] at h1
      rw [← hy9] at h2
      refine (quotient_n J hmd h1 h2 (by rw [← h.len]; omega) (by rw [← k.len]; omega) hT hy0 hx0).mono fun en w' ⟨b, Y, V, h3, h4, h5, h6, h7⟩ => ⟨?_, h7⟩
      rw [h3, h4, (quo_trc h6 h5).uniq hZ]
      cases s <;> cases t <;> rfl
    · have h1 := formD_dn h hf
      have h2 := formD_dn k hg
      rw [← hx9] at h1
      rw [← hy9] at h2
      refine (docquo_n R K h1 h2 hx0 hy0 (by rw [← h.len]; omega) (by rw [← k.len]; omega)).mono fun en w' ⟨⟨Y, h3, h4⟩, h7⟩ => ⟨?_, h7⟩
      rw [h3, h4.uniq hZ]
  · refine ⟨0, 0, fun w pa pb na ca nb cb h k hT => ?_, fun w pa pb na ca nb cb h k => ?_⟩
    · have h1 := formD_dn h hf
      have h2 := formD_dn k hg
      rw [← hx9] at h1
      rw [← hy9] at h2
      exact (quotient_n J hmd h1 h2 (by rw [← h.len]; omega) (by rw [← k.len]; omega) hT hy0 hx0).mono fun en w' ⟨b, Y, V, h3, h4, h5, h6, h7⟩ => absurd ⟨Y, quo_trc h6 h5⟩ hE
    · have h1 := formD_dn h hf
      have h2 := formD_dn k hg
      rw [← hx9] at h1
      rw [← hy9] at h2
      exact (docquo_n R K h1 h2 hx0 hy0 (by rw [← h.len]; omega) (by rw [← k.len]; omega)).mono fun en w' ⟨⟨Y, h3, h4⟩, h7⟩ => absurd ⟨Y, h4⟩ hE
theorem quo_all (f : Int) (s : Bool) (xs : List Nat) (e : Int) (t : Bool) (ys : List Nat) (g : Int) : QuoB f s xs e t ys g := by
  by_cases h1 : f = 32
  · subst h1; exact quo_fmt jn_32 (by decide) rf_32 sk_32 s xs e t ys g
  by_cases h2 : f = 64
  · subst h2; exact quo_fmt jn_64 (by decide) rf_64 sk_64 s xs e t ys g
  · exact ⟨0, 1, fun w pa pb na ca nb cb _ _ _ => quo_x f h1 h2 s t w, fun w pa pb na ca nb cb h k => docquo_e s t h k (fun w _ _ => chk_x f h1 h2 s t w) (by decide)⟩
theorem rot_fmt {f p m l P G : Int} {S I H sd Q : Nat} {Be : Int} (J : Jn f p m l S I H sd Be) (hmd : m = (sd : Int) + 1) (R : Rf f S P l G I Q) (K : Sk S P l G I Q H) (s : Bool) (xs : List Nat) (e : Int) : RotB f s xs e := by
  cases hf : formD s xs e
  · exact ⟨0, 2, fun w pa na ca h _ => rot_f J s h hf, fun w pa na ca h => docrot_e s h (fun w h => chk_fa R s s h h hf) (by decide)⟩
  have he : -4194304 ≤ e := by
    have h9 := hf
    unfold formD at h9
    simp only [Bool.and_eq_true, decide_eq_true_eq] at h9
    omega
  cases s
  · by_cases hl : 4096 < xs.length
    · exact ⟨0, 5, fun w pa na ca h _ => rot_l J (formD_dn h hf) (by rw [iv_f]; omega) (by rw [← h.len]; exact hl), fun w pa na ca h => docrot_l h (fun w h => chk_ok R false false h h hf hf) rfl (by rw [← h.len]; exact hl)⟩
    by_cases hx : valB B64 xs = 0
    · exact ⟨0, 0, fun w pa na ca h hT => root_z J hmd (formD_dn h hf) (by rw [← h.len]; omega) hT (iv_z0 hx), fun w pa na ca h => docrot_z h (fun w h => chk_ok R false false h h hf hf) rfl (val_nil h hf hx)⟩
    obtain ⟨x, hx9⟩ : ∃ x, x = iv false (valB B64 xs) := ⟨_, rfl⟩
    have hx0 : x > 0 := by rw [hx9, iv_f]; omega
    by_cases hE : ∃ Z, Trc (fun z => cmpN (dN x.natAbs e) (dN (hv H z * hv H z * 1) (2 * (l - 1)))) I Z
    · obtain ⟨Z, hZ⟩ := hE
      refine ⟨(Z : Int), 0, fun w pa na ca h hT => ?_, fun w pa na ca h => ?_⟩
      · have h1 := formD_dn h hf
        rw [← hx9] at h1
        refine (root_n J hmd h1 (by rw [← h.len]; omega) hT hx0).mono fun en w' ⟨Y, V, h3, h5, h6, h7⟩ => ⟨?_, h7⟩
        rw [h3, (rot_trc he (by have := K.lo; omega) h6 h5).uniq hZ]
      · have h1 := formD_dn h hf
        rw [← hx9] at h1
        refine (docrot_n R K h1 (by omega) (by rw [← h.len]; omega)).mono fun en w' ⟨⟨Y, h3, h4⟩, h7⟩ => ⟨?_, h7⟩
        rw [h3, h4.uniq hZ]
    · refine ⟨0, 0, fun w pa na ca h hT => ?_, fun w pa na ca h => ?_⟩
      · have h1 := formD_dn h hf
        rw [← hx9] at h1
        exact (root_n J hmd h1 (by rw [← h.len]; omega) hT hx0).mono fun en w' ⟨Y, V, h3, h5, h6, h7⟩ => absurd ⟨Y, rot_trc he (by have := K.lo; omega) h6 h5⟩ hE
      · have h1 := formD_dn h hf
        rw [← hx9] at h1
        exact (docrot_n R K h1 (by omega) (by rw [← h.len]; omega)).mono fun en w' ⟨⟨Y, h3, h4⟩, h7⟩ => absurd ⟨Y, h4⟩ hE
  · exact ⟨0, 3, fun w pa na ca h _ => rot_s9 J (formD_dn h hf) (of_decide_eq_true (formD_dn h hf).zn.sg.symm), fun w pa na ca h => docrot_s h (fun w h => chk_ok R true true h h hf hf) rfl⟩
theorem rot_all (f : Int) (s : Bool) (xs : List Nat) (e : Int) : RotB f s xs e := by
  by_cases h1 : f = 32
  · subst h1; exact rot_fmt jn_32 (by decide) rf_32 sk_32 s xs e
  by_cases h2 : f = 64
  · subst h2; exact rot_fmt jn_64 (by decide) rf_64 sk_64 s xs e
  · exact ⟨0, 1, fun w pa na ca _ _ => rot_x f h1 h2 s w, fun w pa na ca h => docrot_e s h (fun w _ => chk_x f h1 h2 s s w) (by decide)⟩
theorem plays8_4 {pa pb : Option Addr} {na ca nb cb wd : Nat} {xa xb : List Nat} {w : World} {ff ea eb : Int} (sa sb : Bool) (ha : At w pa na ca xa) (hb : At w pb nb cb xb) (hn : na ≤ 17592186044416 ∧ nb ≤ 17592186044416 ∧ wd < B64) (hT : Tab w) :
    Calls Tryz.prog 24 #[(.agg #[.int .i64 4, .int .i64 ff, .bool sa, .slice pa na ca, .int .i64 ea, .bool sb, .slice pb nb cb, .int .i64 eb, U wd])] w fun en w' => en = .returned (.bool true) ∧ Below w.heap.size w w' := by
  have HA : Hid (At w pa na ca xa) := ha
  have HB : Hid (At w pb nb cb xb) := hb
  have HN : Hid (na ≤ 17592186044416 ∧ nb ≤ 17592186044416 ∧ wd < B64) := hn
  have TB : Hid (Tab w) := hT
  clear ha hb hn hT
  obtain ⟨v, er, h1, h2⟩ := quo_all ff sa xa ea sb xb eb
  have H1 : Hid (∀ (w : World) (pa pb : Option Addr) (na ca nb cb : Nat), At w pa na ca xa → At w pb nb cb xb → Tab w → Calls Tryz.prog 13 #[.int .i64 ff, DV sa pa na ca ea, DV sb pb nb cb eb] w fun en w' => en = .returned (.tuple #[.int .u64 v, .int .i64 er]) ∧ Below w.heap.size w w') := h1
  have H2 : Hid (∀ (w : World) (pa pb : Option Addr) (na ca nb cb : Nat), At w pa na ca xa → At w pb nb cb xb → Calls Tryz.prog 55 #[.int .i64 ff, DV sa pa na ca ea, DV sb pb nb cb eb] w fun en w' => en = .returned (.tuple #[.int .u64 v, .int .i64 er]) ∧ Below w.heap.size w w') := h2
  have q0 : (v == v) = true := by simp
  have q1 : (er == er) = true := by simp
  clear h1 h2
  go_enter Tryz.func24, Tryz.ntmps24
  go_wp2_with fail
  obtain ⟨W0, hW0⟩ : ∃ W0, W0 = (w.alloc (.cells #[.int .i64 4, .int .i64 ff, .bool sa, .slice pa na ca, .int .i64 ea, .bool sb, .slice pb nb cb, .int .i64 eb, U wd] 59)) := ⟨_, rfl⟩
  have Xo : Hid (B9q W0 (w.heap.size) (.int .i64 4) (.int .i64 ff) (.bool sa) (.slice pa na ca) (.int .i64 ea) (.bool sb) (.slice pb nb cb) (.int .i64 eb) (U wd)) := by rw [hW0]; exact ⟨by go_simp, by go_simp, by go_simp, by go_simp, by go_simp, by go_simp, by go_simp, by go_simp, by go_simp, by go_simp, by go_simp, by go_simp, by go_simp, by go_simp, by go_simp, by go_simp, by go_simp, by go_simp⟩
  have hb0 : Below w.heap.size w W0 := by rw [hW0]; exact below1 w _
  rw [← hW0]
  clear hW0
  have hbw : Below w.heap.size w w := Below.refl _ _
  obtain ⟨go, hgo⟩ : ∃ g, g = w.heap.size := ⟨_, rfl⟩
  have HGo : Hid (w.heap.size ≤ go) := by rw [hgo]; show _ ≤ _; omega
  rw [← hgo] at Xo
  try rw [← hgo]
  clear hgo
  replace hbw := Below.on hbw hb0
  clear hb0
  obtain ⟨W1, hW1⟩ : ∃ W1, W1 = W0.drew := ⟨_, rfl⟩
  have hbd : Below W0.heap.size W0 W1 := by rw [hW1]; exact bDrew1 (Below.refl _ _)
  replace Xo : Hid (B9q W1 go (.int .i64 4) (.int .i64 ff) (.bool sa) (.slice pa na ca) (.int .i64 ea) (.bool sb) (.slice pb nb cb) (.int .i64 eb) (U wd)) := Xo.out.below hbd
  replace hbw := Below.on hbw hbd
  clear hbd
  have HJ : Hid ((fun W' : World => W'.cell? ⟨go, 0, none⟩ = some (.int .i64 4) ∧ W'.cell? ⟨go, 1, none⟩ = some (.int .i64 ff) ∧ W'.cell? ⟨go, 2, none⟩ = some (.bool sa) ∧ W'.cell? ⟨go, 3, none⟩ = some (.slice pa na ca) ∧ W'.cell? ⟨go, 4, none⟩ = some (.int .i64 ea) ∧ W'.cell? ⟨go, 5, none⟩ = some (.bool sb) ∧ W'.cell? ⟨go, 6, none⟩ = some (.slice pb nb cb) ∧ W'.cell? ⟨go, 7, none⟩ = some (.int .i64 eb) ∧ W'.cell? ⟨go, 8, none⟩ = some (U wd)) W1) := ⟨Xo.out.c0, Xo.out.c1, Xo.out.c2, Xo.out.c3, Xo.out.c4, Xo.out.c5, Xo.out.c6, Xo.out.c7, Xo.out.c8⟩
  refine wp_region_J (fun W' => W'.cell? ⟨go, 0, none⟩ = some (.int .i64 4) ∧ W'.cell? ⟨go, 1, none⟩ = some (.int .i64 ff) ∧ W'.cell? ⟨go, 2, none⟩ = some (.bool sa) ∧ W'.cell? ⟨go, 3, none⟩ = some (.slice pa na ca) ∧ W'.cell? ⟨go, 4, none⟩ = some (.int .i64 ea) ∧ W'.cell? ⟨go, 5, none⟩ = some (.bool sb) ∧ W'.cell? ⟨go, 6, none⟩ = some (.slice pb nb cb) ∧ W'.cell? ⟨go, 7, none⟩ = some (.int .i64 eb) ∧ W'.cell? ⟨go, 8, none⟩ = some (U wd)) (by kernel_rfl) ?_
  rw [← hW1]
  clear hW1
  refine wpJ_tq 0 rfl HJ.out ?_
  refine wpJ_tq 2 rfl HJ.out ?_
  refine wpJ_tq 3 rfl HJ.out ?_
  go_simp
  refine wpJ_nodes5 fun WP hWP L0 a0 hL ha => ?_
  have N1_4 : ∀ (ga : Nat) (gb : Nat) (gt : Nat) (W' : World), (B9q W' go (.int .i64 4) (.int .i64 ff) (.bool sa) (.slice pa na ca) (.int .i64 ea) (.bool sb) (.slice pb nb cb) (.int .i64 eb) (U wd)) ∧ (Below w.heap.size w W') ∧ (At W' (some ⟨ga, 0, none⟩) na na xa) ∧ (At W' (some ⟨gb, 0, none⟩) nb nb xb) ∧ (B9q W' gt (.int .i64 0) (.int .i64 0) (.bool false) (.slice none 0 0) (.int .i64 0) (.bool false) (.slice none 0 0) (.int .i64 0) (.int .u64 0)) ∧ (w.heap.size ≤ gt) ∧ (go ≠ gt) ∧ (na = 0 ∨ ga ≠ gt) ∧ (nb = 0 ∨ gb ≠ gt) → WP 2 ((L0.setIfInBounds 1 true).setIfInBounds 4 true) ((a0.put (some 34) (.agg #[.int .i64 4, .int .i64 ff, .bool sa, .slice (some ⟨ga, 0, none⟩) na na, .int .i64 ea, .bool sb, .slice (some ⟨gb, 0, none⟩) nb nb, .int .i64 eb, U wd])).put (some 3) (.pointer (some ⟨gt, 0, none⟩))) W' := by
    rintro ga gb gt W' ⟨xo, hbw, ta, tb, xt, ht, nt, oa, ob⟩
    subst hWP hL ha
    have Hxo := Hid.mk5 xo
    have Hta := Hid.mk5 ta
    have Htb := Hid.mk5 tb
    have Hxt := Hid.mk5 xt
    have Hht := Hid.mk5 ht
    have Hnt := Hid.mk5 nt
    have Hoa := Hid.mk5 oa
    have Hob := Hid.mk5 ob
    clear xo ta tb xt ht nt oa ob
    go_simp
    have Xo := Hxo
    have Xt := Hxt
    clear Hxo Hxt
    have q1 := Hnt.out
    have q1' := Ne.symm q1
    have HJ : Hid ((fun W' : World => W'.cell? ⟨go, 0, none⟩ = some (.int .i64 4) ∧ W'.cell? ⟨go, 1, none⟩ = some (.int .i64 ff) ∧ W'.cell? ⟨go, 2, none⟩ = some (.bool sa) ∧ W'.cell? ⟨go, 3, none⟩ = some (.slice pa na ca) ∧ W'.cell? ⟨go, 4, none⟩ = some (.int .i64 ea) ∧ W'.cell? ⟨go, 5, none⟩ = some (.bool sb) ∧ W'.cell? ⟨go, 6, none⟩ = some (.slice pb nb cb) ∧ W'.cell? ⟨go, 7, none⟩ = some (.int .i64 eb) ∧ W'.cell? ⟨go, 8, none⟩ = some (U wd)) W') := ⟨Xo.out.c0, Xo.out.c1, Xo.out.c2, Xo.out.c3, Xo.out.c4, Xo.out.c5, Xo.out.c6, Xo.out.c7, Xo.out.c8⟩
    obtain ⟨co0, co1, co2, co3, co4, co5, co6, co7, co8, fo0, fo1, fo2, fo3, fo4, fo5, fo6, fo7, fo8⟩ := Xo.out
    have hneo : go < W'.heap.size := World.block_lt_of_cell? W' _ co0
    obtain ⟨ct0, ct1, ct2, ct3, ct4, ct5, ct6, ct7, ct8, ft0, ft1, ft2, ft3, ft4, ft5, ft6, ft7, ft8⟩ := Xt.out
    have hnet : gt < W'.heap.size := World.block_lt_of_cell? W' _ ct0
    refine wpJ_on 5 rfl fun KJ hK => ?_
    go_simp
    have Yo : Hid (B9q (((((((((W'.setCell ⟨gt, 0, none⟩ (.int .i64 4)).setCell ⟨gt, 1, none⟩ (.int .i64 ff)).setCell ⟨gt, 2, none⟩ (.bool sa)).setCell ⟨gt, 3, none⟩ (.slice (some ⟨ga, 0, none⟩) na na)).setCell ⟨gt, 4, none⟩ (.int .i64 ea)).setCell ⟨gt, 5, none⟩ (.bool sb)).setCell ⟨gt, 6, none⟩ (.slice (some ⟨gb, 0, none⟩) nb nb)).setCell ⟨gt, 7, none⟩ (.int .i64 eb)).setCell ⟨gt, 8, none⟩ (U wd)) go (.int .i64 4) (.int .i64 ff) (.bool sa) (.slice pa na ca) (.int .i64 ea) (.bool sb) (.slice pb nb cb) (.int .i64 eb) (U wd)) := ⟨by go_simp, by go_simp, by go_simp, by go_simp, by go_simp, by go_simp, by go_simp, by go_simp, by go_simp, by go_simp, by go_simp, by go_simp, by go_simp, by go_simp, by go_simp, by go_simp, by go_simp, by go_simp⟩
    clear co0 co1 co2 co3 co4 co5 co6 co7 co8 fo0 fo1 fo2 fo3 fo4 fo5 fo6 fo7 fo8 hneo
    clear ct0 ct1 ct2 ct3 ct4 ct5 ct6 ct7 ct8 ft0 ft1 ft2 ft3 ft4 ft5 ft6 ft7 ft8 hnet
    have Yt : Hid (B9q (((((((((W'.setCell ⟨gt, 0, none⟩ (.int .i64 4)).setCell ⟨gt, 1, none⟩ (.int .i64 ff)).setCell ⟨gt, 2, none⟩ (.bool sa)).setCell ⟨gt, 3, none⟩ (.slice (some ⟨ga, 0, none⟩) na na)).setCell ⟨gt, 4, none⟩ (.int .i64 ea)).setCell ⟨gt, 5, none⟩ (.bool sb)).setCell ⟨gt, 6, none⟩ (.slice (some ⟨gb, 0, none⟩) nb nb)).setCell ⟨gt, 7, none⟩ (.int .i64 eb)).setCell ⟨gt, 8, none⟩ (U wd)) gt (.int .i64 4) (.int .i64 ff) (.bool sa) (.slice (some ⟨ga, 0, none⟩) na na) (.int .i64 ea) (.bool sb) (.slice (some ⟨gb, 0, none⟩) nb nb) (.int .i64 eb) (U wd)) := Xt.out.set9
    have TA : Hid (At (((((((((W'.setCell ⟨gt, 0, none⟩ (.int .i64 4)).setCell ⟨gt, 1, none⟩ (.int .i64 ff)).setCell ⟨gt, 2, none⟩ (.bool sa)).setCell ⟨gt, 3, none⟩ (.slice (some ⟨ga, 0, none⟩) na na)).setCell ⟨gt, 4, none⟩ (.int .i64 ea)).setCell ⟨gt, 5, none⟩ (.bool sb)).setCell ⟨gt, 6, none⟩ (.slice (some ⟨gb, 0, none⟩) nb nb)).setCell ⟨gt, 7, none⟩ (.int .i64 eb)).setCell ⟨gt, 8, none⟩ (U wd)) (some ⟨ga, 0, none⟩) na na xa) := (at_set9 (at_set9 (at_set9 (at_set9 (at_set9 (at_set9 (at_set9 (at_set9 (at_set9 Hta.out _ _ _ Hoa.out) _ _ _ Hoa.out) _ _ _ Hoa.out) _ _ _ Hoa.out) _ _ _ Hoa.out) _ _ _ Hoa.out) _ _ _ Hoa.out) _ _ _ Hoa.out) _ _ _ Hoa.out)
    have TC : Hid (At (((((((((W'.setCell ⟨gt, 0, none⟩ (.int .i64 4)).setCell ⟨gt, 1, none⟩ (.int .i64 ff)).setCell ⟨gt, 2, none⟩ (.bool sa)).setCell ⟨gt, 3, none⟩ (.slice (some ⟨ga, 0, none⟩) na na)).setCell ⟨gt, 4, none⟩ (.int .i64 ea)).setCell ⟨gt, 5, none⟩ (.bool sb)).setCell ⟨gt, 6, none⟩ (.slice (some ⟨gb, 0, none⟩) nb nb)).setCell ⟨gt, 7, none⟩ (.int .i64 eb)).setCell ⟨gt, 8, none⟩ (U wd)) (some ⟨gb, 0, none⟩) nb nb xb) := (at_set9 (at_set9 (at_set9 (at_set9 (at_set9 (at_set9 (at_set9 (at_set9 (at_set9 Htb.out _ _ _ Hob.out) _ _ _ Hob.out) _ _ _ Hob.out) _ _ _ Hob.out) _ _ _ Hob.out) _ _ _ Hob.out) _ _ _ Hob.out) _ _ _ Hob.out) _ _ _ Hob.out)
    have HJ2 : Hid ((fun W' : World => W'.cell? ⟨go, 0, none⟩ = some (.int .i64 4) ∧ W'.cell? ⟨go, 1, none⟩ = some (.int .i64 ff) ∧ W'.cell? ⟨go, 2, none⟩ = some (.bool sa) ∧ W'.cell? ⟨go, 3, none⟩ = some (.slice pa na ca) ∧ W'.cell? ⟨go, 4, none⟩ = some (.int .i64 ea) ∧ W'.cell? ⟨go, 5, none⟩ = some (.bool sb) ∧ W'.cell? ⟨go, 6, none⟩ = some (.slice pb nb cb) ∧ W'.cell? ⟨go, 7, none⟩ = some (.int .i64 eb) ∧ W'.cell? ⟨go, 8, none⟩ = some (U wd)) (((((((((W'.setCell ⟨gt, 0, none⟩ (.int .i64 4)).setCell ⟨gt, 1, none⟩ (.int .i64 ff)).setCell ⟨gt, 2, none⟩ (.bool sa)).setCell ⟨gt, 3, none⟩ (.slice (some ⟨ga, 0, none⟩) na na)).setCell ⟨gt, 4, none⟩ (.int .i64 ea)).setCell ⟨gt, 5, none⟩ (.bool sb)).setCell ⟨gt, 6, none⟩ (.slice (some ⟨gb, 0, none⟩) nb nb)).setCell ⟨gt, 7, none⟩ (.int .i64 eb)).setCell ⟨gt, 8, none⟩ (U wd))) := ⟨Yo.out.c0, Yo.out.c1, Yo.out.c2, Yo.out.c3, Yo.out.c4, Yo.out.c5, Yo.out.c6, Yo.out.c7, Yo.out.c8⟩
    have hbw2 : Below w.heap.size w (((((((((W'.setCell ⟨gt, 0, none⟩ (.int .i64 4)).setCell ⟨gt, 1, none⟩ (.int .i64 ff)).setCell ⟨gt, 2, none⟩ (.bool sa)).setCell ⟨gt, 3, none⟩ (.slice (some ⟨ga, 0, none⟩) na na)).setCell ⟨gt, 4, none⟩ (.int .i64 ea)).setCell ⟨gt, 5, none⟩ (.bool sb)).setCell ⟨gt, 6, none⟩ (.slice (some ⟨gb, 0, none⟩) nb nb)).setCell ⟨gt, 7, none⟩ (.int .i64 eb)).setCell ⟨gt, 8, none⟩ (U wd)) := below_set9 hbw Hht.out
    refine hK _ _ HJ2.out ?_
    clear hK HJ
    have HJ := HJ2
    clear HJ2
    clear Hta Htb hbw Xo Xt
    have Xo := Yo
    have Xt := Yt
    have hbw := hbw2
    clear hbw2 Yo Yt
    generalize (((((((((W'.setCell ⟨gt, 0, none⟩ (.int .i64 4)).setCell ⟨gt, 1, none⟩ (.int .i64 ff)).setCell ⟨gt, 2, none⟩ (.bool sa)).setCell ⟨gt, 3, none⟩ (.slice (some ⟨ga, 0, none⟩) na na)).setCell ⟨gt, 4, none⟩ (.int .i64 ea)).setCell ⟨gt, 5, none⟩ (.bool sb)).setCell ⟨gt, 6, none⟩ (.slice (some ⟨gb, 0, none⟩) nb nb)).setCell ⟨gt, 7, none⟩ (.int .i64 eb)).setCell ⟨gt, 8, none⟩ (U wd)) = V9 at *
    refine wpJ_tq 6 rfl HJ.out ?_
    refine wpJ_done (by kernel_rfl) ?_ _
    clear HJ
    obtain ⟨co0, co1, co2, co3, co4, co5, co6, co7, co8, fo0, fo1, fo2, fo3, fo4, fo5, fo6, fo7, fo8⟩ := Xo.out
    have hneo : go < V9.heap.size := World.block_lt_of_cell? V9 _ co0
    obtain ⟨ct0, ct1, ct2, ct3, ct4, ct5, ct6, ct7, ct8, ft0, ft1, ft2, ft3, ft4, ft5, ft6, ft7, ft8⟩ := Xt.out
    have hnet : gt < V9.heap.size := World.block_lt_of_cell? V9 _ ct0
    go_wp2_with fail
    clear co0 co1 co2 co3 co4 co5 co6 co7 co8 fo0 fo1 fo2 fo3 fo4 fo5 fo6 fo7 fo8 hneo
    clear ct0 ct1 ct2 ct3 ct4 ct5 ct6 ct7 ct8 ft0 ft1 ft2 ft3 ft4 ft5 ft6 ft7 ft8 hnet
    refine (H1.out _ _ _ _ _ _ _ TA.out TC.out (TB.out.below hbw)).mono ?_
    rintro e v2 ⟨rfl, hb2⟩
    replace Xo : Hid (B9q v2 go (.int .i64 4) (.int .i64 ff) (.bool sa) (.slice pa na ca) (.int .i64 ea) (.bool sb) (.slice pb nb cb) (.int .i64 eb) (U wd)) := Xo.out.below hb2
    replace Xt : Hid (B9q v2 gt (.int .i64 4) (.int .i64 ff) (.bool sa) (.slice (some ⟨ga, 0, none⟩) na na) (.int .i64 ea) (.bool sb) (.slice (some ⟨gb, 0, none⟩) nb nb) (.int .i64 eb) (U wd)) := Xt.out.below hb2
    replace TA : Hid _ := TA.out.below hb2
    replace TC : Hid _ := TC.out.below hb2
    replace hbw := Below.on hbw hb2
    clear hb2
    obtain ⟨co0, co1, co2, co3, co4, co5, co6, co7, co8, fo0, fo1, fo2, fo3, fo4, fo5, fo6, fo7, fo8⟩ := Xo.out
    have hneo : go < v2.heap.size := World.block_lt_of_cell? v2 _ co0
    go_wp2_with fail
    clear co0 co1 co2 co3 co4 co5 co6 co7 co8 fo0 fo1 fo2 fo3 fo4 fo5 fo6 fo7 fo8 hneo
    refine (H2.out _ _ _ _ _ _ _ (HA.out.below hbw) (HB.out.below hbw)).mono ?_
    rintro e v3 ⟨rfl, hb3⟩
    replace Xo : Hid (B9q v3 go (.int .i64 4) (.int .i64 ff) (.bool sa) (.slice pa na ca) (.int .i64 ea) (.bool sb) (.slice pb nb cb) (.int .i64 eb) (U wd)) := Xo.out.below hb3
    replace Xt : Hid (B9q v3 gt (.int .i64 4) (.int .i64 ff) (.bool sa) (.slice (some ⟨ga, 0, none⟩) na na) (.int .i64 ea) (.bool sb) (.slice (some ⟨gb, 0, none⟩) nb nb) (.int .i64 eb) (U wd)) := Xt.out.below hb3
    replace TA : Hid _ := TA.out.below hb3
    replace TC : Hid _ := TC.out.below hb3
    replace hbw := Below.on hbw hb3
    clear hb3
    obtain ⟨co0, co1, co2, co3, co4, co5, co6, co7, co8, fo0, fo1, fo2, fo3, fo4, fo5, fo6, fo7, fo8⟩ := Xo.out
    have hneo : go < v3.heap.size := World.block_lt_of_cell? v3 _ co0
    go_wp2_with fail
    clear co0 co1 co2 co3 co4 co5 co6 co7 co8 fo0 fo1 fo2 fo3 fo4 fo5 fo6 fo7 fo8 hneo
    go_ret
    exact ⟨rfl, hbw⟩
  have N1 : ∀ (ga : Nat) (gb : Nat) (W' : World), (B9q W' go (.int .i64 4) (.int .i64 ff) (.bool sa) (.slice pa na ca) (.int .i64 ea) (.bool sb) (.slice pb nb cb) (.int .i64 eb) (U wd)) ∧ (Below w.heap.size w W') ∧ (At W' (some ⟨ga, 0, none⟩) na na xa) ∧ (At W' (some ⟨gb, 0, none⟩) nb nb xb) → WP 3 (L0.setIfInBounds 1 true) (a0.put (some 34) (.agg #[.int .i64 4, .int .i64 ff, .bool sa, .slice (some ⟨ga, 0, none⟩) na na, .int .i64 ea, .bool sb, .slice (some ⟨gb, 0, none⟩) nb nb, .int .i64 eb, U wd])) W' := by
    rintro ga gb W' ⟨xo, hbw, ta, tb⟩
    subst hWP hL ha
    have Hxo := Hid.mk5 xo
    have Hta := Hid.mk5 ta
    have Htb := Hid.mk5 tb
    clear xo ta tb
    go_simp
    refine wpJ_on 4 rfl fun KJ hK => ?_
    go_simp
    have hb := below1 W' (.cells #[.int .i64 0, .int .i64 0, .bool false, .slice none 0 0, .int .i64 0, .bool false, .slice none 0 0, .int .i64 0, .int .u64 0] 59)
    refine hK _ _ ⟨(Hxo.out.below hb).c0, (Hxo.out.below hb).c1, (Hxo.out.below hb).c2, (Hxo.out.below hb).c3, (Hxo.out.below hb).c4, (Hxo.out.below hb).c5, (Hxo.out.below hb).c6, (Hxo.out.below hb).c7, (Hxo.out.below hb).c8⟩ ?_
    exact wpJ_same5 (by kernel_rfl) (by kernel_rfl) (N1_4 ga gb W'.heap.size _ ⟨(Hxo.out.below hb), (Below.on hbw hb), (Hta.out.below hb), (Htb.out.below hb), (B9q.new W' _ _ _ _ _ _ _ _ _ _), hbw.size, (Nat.ne_of_lt Hxo.out.lt), ((at_blk9 Hta.out).imp id Nat.ne_of_lt), ((at_blk9 Htb.out).imp id Nat.ne_of_lt)⟩)
  have N4 : ∀ (gt : Nat) (W' : World), (B9q W' go (.int .i64 4) (.int .i64 ff) (.bool sa) (.slice pa na ca) (.int .i64 ea) (.bool sb) (.slice pb nb cb) (.int .i64 eb) (U wd)) ∧ (Below w.heap.size w W') ∧ (B9q W' gt (.int .i64 0) (.int .i64 0) (.bool false) (.slice none 0 0) (.int .i64 0) (.bool false) (.slice none 0 0) (.int .i64 0) (.int .u64 0)) ∧ (w.heap.size ≤ gt) ∧ (go ≠ gt) → WP 3 (L0.setIfInBounds 4 true) (a0.put (some 3) (.pointer (some ⟨gt, 0, none⟩))) W' := by
    rintro gt W' ⟨xo, hbw, xt, ht, nt⟩
    subst hWP hL ha
    have Hxo := Hid.mk5 xo
    have Hxt := Hid.mk5 xt
    have Hht := Hid.mk5 ht
    have Hnt := Hid.mk5 nt
    clear xo xt ht nt
    go_simp
    refine wpJ_on 1 rfl fun KJ hK => ?_
    go_simp
    refine (twin8 sa sb (HA.out.below hbw) (HB.out.below hbw) ⟨HN.out.1, HN.out.2.1⟩).mono ?_
    rintro e9 W2 ⟨ga, gb, rfl, hga, hgb, hta, htb, hb⟩
    refine hK _ _ ⟨(Hxo.out.below hb).c0, (Hxo.out.below hb).c1, (Hxo.out.below hb).c2, (Hxo.out.below hb).c3, (Hxo.out.below hb).c4, (Hxo.out.below hb).c5, (Hxo.out.below hb).c6, (Hxo.out.below hb).c7, (Hxo.out.below hb).c8⟩ ?_
    exact wpJ_same5 (by kernel_rfl) (by kernel_rfl) (N1_4 ga gb gt W2 ⟨(Hxo.out.below hb), (Below.on hbw hb), hta, htb, (Hxt.out.below hb), Hht.out, Hnt.out, (.inr (Nat.ne_of_gt (Nat.lt_of_lt_of_le Hxt.out.lt hga))), (.inr (Nat.ne_of_gt (Nat.lt_of_lt_of_le Hxt.out.lt hgb)))⟩)
  have N_ : ∀ (W' : World), (B9q W' go (.int .i64 4) (.int .i64 ff) (.bool sa) (.slice pa na ca) (.int .i64 ea) (.bool sb) (.slice pb nb cb) (.int .i64 eb) (U wd)) ∧ (Below w.heap.size w W') → WP 4 L0 a0 W' := by
    rintro  W' ⟨xo, hbw⟩
    subst hWP hL ha
    have Hxo := Hid.mk5 xo
    clear xo
    go_simp
    refine wpJ_two (i := 1) (k := 4) (by kernel_rfl) rfl rfl (by kernel_rfl) (by kernel_rfl) (fun KJ hK => ?_) (fun KJ hK => ?_)
    · go_simp
      refine (twin8 sa sb (HA.out.below hbw) (HB.out.below hbw) ⟨HN.out.1, HN.out.2.1⟩).mono ?_
      rintro e9 W2 ⟨ga, gb, rfl, hga, hgb, hta, htb, hb⟩
      refine hK _ _ ⟨(Hxo.out.below hb).c0, (Hxo.out.below hb).c1, (Hxo.out.below hb).c2, (Hxo.out.below hb).c3, (Hxo.out.below hb).c4, (Hxo.out.below hb).c5, (Hxo.out.below hb).c6, (Hxo.out.below hb).c7, (Hxo.out.below hb).c8⟩ ?_
      exact wpJ_same5 (by kernel_rfl) (by kernel_rfl) (N1 ga gb W2 ⟨(Hxo.out.below hb), (Below.on hbw hb), hta, htb⟩)
    · go_simp
      have hb := below1 W' (.cells #[.int .i64 0, .int .i64 0, .bool false, .slice none 0 0, .int .i64 0, .bool false, .slice none 0 0, .int .i64 0, .int .u64 0] 59)
      refine hK _ _ ⟨(Hxo.out.below hb).c0, (Hxo.out.below hb).c1, (Hxo.out.below hb).c2, (Hxo.out.below hb).c3, (Hxo.out.below hb).c4, (Hxo.out.below hb).c5, (Hxo.out.below hb).c6, (Hxo.out.below hb).c7, (Hxo.out.below hb).c8⟩ ?_
      exact wpJ_same5 (by kernel_rfl) (by kernel_rfl) (N4 W'.heap.size _ ⟨(Hxo.out.below hb), (Below.on hbw hb), (B9q.new W' _ _ _ _ _ _ _ _ _ _), hbw.size, (Nat.ne_of_lt Hxo.out.lt)⟩)
  exact N_ W1 ⟨Xo.out, hbw⟩
theorem plays8_5 {pa pb : Option Addr} {na ca nb cb wd : Nat} {xa xb : List Nat} {w : World} {ff ea eb : Int} (sa sb : Bool) (ha : At w pa na ca xa) (hb : At w pb nb cb xb) (hn : na ≤ 17592186044416 ∧ nb ≤ 17592186044416 ∧ wd < B64) (hT : Tab w) :
    Calls Tryz.prog 24 #[(.agg #[.int .i64 5, .int .i64 ff, .bool sa, .slice pa na ca, .int .i64 ea, .bool sb, .slice pb nb cb, .int .i64 eb, U wd])] w fun en w' => en = .returned (.bool true) ∧ Below w.heap.size w w' := by
  have HA : Hid (At w pa na ca xa) := ha
  have HB : Hid (At w pb nb cb xb) := hb
  have HN : Hid (na ≤ 17592186044416 ∧ nb ≤ 17592186044416 ∧ wd < B64) := hn
  have TB : Hid (Tab w) := hT
  clear ha hb hn hT
  obtain ⟨v, er, h1, h2⟩ := rot_all ff sa xa ea
  have H1 : Hid (∀ (w : World) (pa : Option Addr) (na ca : Nat), At w pa na ca xa → Tab w → Calls Tryz.prog 14 #[.int .i64 ff, DV sa pa na ca ea] w fun en w' => en = .returned (.tuple #[.int .u64 v, .int .i64 er]) ∧ Below w.heap.size w w') := h1
  have H2 : Hid (∀ (w : World) (pa : Option Addr) (na ca : Nat), At w pa na ca xa → Calls Tryz.prog 56 #[.int .i64 ff, DV sa pa na ca ea] w fun en w' => en = .returned (.tuple #[.int .u64 v, .int .i64 er]) ∧ Below w.heap.size w w') := h2
  have q0 : (v == v) = true := by simp
  have q1 : (er == er) = true := by simp
  clear h1 h2
  go_enter Tryz.func24, Tryz.ntmps24
  go_wp2_with fail
  obtain ⟨W0, hW0⟩ : ∃ W0, W0 = (w.alloc (.cells #[.int .i64 5, .int .i64 ff, .bool sa, .slice pa na ca, .int .i64 ea, .bool sb, .slice pb nb cb, .int .i64 eb, U wd] 59)) := ⟨_, rfl⟩
  have Xo : Hid (B9q W0 (w.heap.size) (.int .i64 5) (.int .i64 ff) (.bool sa) (.slice pa na ca) (.int .i64 ea) (.bool sb) (.slice pb nb cb) (.int .i64 eb) (U wd)) := by rw [hW0]; exact ⟨by go_simp, by go_simp, by go_simp, by go_simp, by go_simp, by go_simp, by go_simp, by go_simp, by go_simp, by go_simp, by go_simp, by go_simp, by go_simp, by go_simp, by go_simp, by go_simp, by go_simp, by go_simp⟩
  have hb0 : Below w.heap.size w W0 := by rw [hW0]; exact below1 w _
  rw [← hW0]
  clear hW0
  have hbw : Below w.heap.size w w := Below.refl _ _
  obtain ⟨go, hgo⟩ : ∃ g, g = w.heap.size := ⟨_, rfl⟩
  have HGo : Hid (w.heap.size ≤ go) := by rw [hgo]; show _ ≤ _; omega
  rw [← hgo] at Xo
  try rw [← hgo]
  clear hgo
  replace hbw := Below.on hbw hb0
  clear hb0
  obtain ⟨W1, hW1⟩ : ∃ W1, W1 = W0.drew := ⟨_, rfl⟩
  have hbd : Below W0.heap.size W0 W1 := by rw [hW1]; exact bDrew1 (Below.refl _ _)
  replace Xo : Hid (B9q W1 go (.int .i64 5) (.int .i64 ff) (.bool sa) (.slice pa na ca) (.int .i64 ea) (.bool sb) (.slice pb nb cb) (.int .i64 eb) (U wd)) := Xo.out.below hbd
  replace hbw := Below.on hbw hbd
  clear hbd
  have HJ : Hid ((fun W' : World => W'.cell? ⟨go, 0, none⟩ = some (.int .i64 5) ∧ W'.cell? ⟨go, 1, none⟩ = some (.int .i64 ff) ∧ W'.cell? ⟨go, 2, none⟩ = some (.bool sa) ∧ W'.cell? ⟨go, 3, none⟩ = some (.slice pa na ca) ∧ W'.cell? ⟨go, 4, none⟩ = some (.int .i64 ea) ∧ W'.cell? ⟨go, 5, none⟩ = some (.bool sb) ∧ W'.cell? ⟨go, 6, none⟩ = some (.slice pb nb cb) ∧ W'.cell? ⟨go, 7, none⟩ = some (.int .i64 eb) ∧ W'.cell? ⟨go, 8, none⟩ = some (U wd)) W1) := ⟨Xo.out.c0, Xo.out.c1, Xo.out.c2, Xo.out.c3, Xo.out.c4, Xo.out.c5, Xo.out.c6, Xo.out.c7, Xo.out.c8⟩
  refine wp_region_J (fun W' => W'.cell? ⟨go, 0, none⟩ = some (.int .i64 5) ∧ W'.cell? ⟨go, 1, none⟩ = some (.int .i64 ff) ∧ W'.cell? ⟨go, 2, none⟩ = some (.bool sa) ∧ W'.cell? ⟨go, 3, none⟩ = some (.slice pa na ca) ∧ W'.cell? ⟨go, 4, none⟩ = some (.int .i64 ea) ∧ W'.cell? ⟨go, 5, none⟩ = some (.bool sb) ∧ W'.cell? ⟨go, 6, none⟩ = some (.slice pb nb cb) ∧ W'.cell? ⟨go, 7, none⟩ = some (.int .i64 eb) ∧ W'.cell? ⟨go, 8, none⟩ = some (U wd)) (by kernel_rfl) ?_
  rw [← hW1]
  clear hW1
  refine wpJ_tq 0 rfl HJ.out ?_
  refine wpJ_tq 2 rfl HJ.out ?_
  refine wpJ_tq 3 rfl HJ.out ?_
  go_simp
  refine wpJ_nodes5 fun WP hWP L0 a0 hL ha => ?_
  have N1_4 : ∀ (ga : Nat) (gb : Nat) (gt : Nat) (W' : World), (B9q W' go (.int .i64 5) (.int .i64 ff) (.bool sa) (.slice pa na ca) (.int .i64 ea) (.bool sb) (.slice pb nb cb) (.int .i64 eb) (U wd)) ∧ (Below w.heap.size w W') ∧ (At W' (some ⟨ga, 0, none⟩) na na xa) ∧ (At W' (some ⟨gb, 0, none⟩) nb nb xb) ∧ (B9q W' gt (.int .i64 0) (.int .i64 0) (.bool false) (.slice none 0 0) (.int .i64 0) (.bool false) (.slice none 0 0) (.int .i64 0) (.int .u64 0)) ∧ (w.heap.size ≤ gt) ∧ (go ≠ gt) ∧ (na = 0 ∨ ga ≠ gt) ∧ (nb = 0 ∨ gb ≠ gt) → WP 2 ((L0.setIfInBounds 1 true).setIfInBounds 4 true) ((a0.put (some 34) (.agg #[.int .i64 5, .int .i64 ff, .bool sa, .slice (some ⟨ga, 0, none⟩) na na, .int .i64 ea, .bool sb, .slice (some ⟨gb, 0, none⟩) nb nb, .int .i64 eb, U wd])).put (some 3) (.pointer (some ⟨gt, 0, none⟩))) W' := by
    rintro ga gb gt W' ⟨xo, hbw, ta, tb, xt, ht, nt, oa, ob⟩
    subst hWP hL ha
    have Hxo := Hid.mk5 xo
    have Hta := Hid.mk5 ta
    have Htb := Hid.mk5 tb
    have Hxt := Hid.mk5 xt
    have Hht := Hid.mk5 ht
    have Hnt := Hid.mk5 nt
    have Hoa := Hid.mk5 oa
    have Hob := Hid.mk5 ob
    clear xo ta tb xt ht nt oa ob
    go_simp
    have Xo := Hxo
    have Xt := Hxt
    clear Hxo Hxt
    have q1 := Hnt.out
    have q1' := Ne.symm q1
    have HJ : Hid ((fun W' : World => W'.cell? ⟨go, 0, none⟩ = some (.int .i64 5) ∧ W'.cell? ⟨go, 1, none⟩ = some (.int .i64 ff) ∧ W'.cell? ⟨go, 2, none⟩ = some (.bool sa) ∧ W'.cell? ⟨go, 3, none⟩ = some (.slice pa na ca) ∧ W'.cell? ⟨go, 4, none⟩ = some (.int .i64 ea) ∧ W'.cell? ⟨go, 5, none⟩ = some (.bool sb) ∧ W'.cell? ⟨go, 6, none⟩ = some (.slice pb nb cb) ∧ W'.cell? ⟨go, 7, none⟩ = some (.int .i64 eb) ∧ W'.cell? ⟨go, 8, none⟩ = some (U wd)) W') := ⟨Xo.out.c0, Xo.out.c1, Xo.out.c2, Xo.out.c3, Xo.out.c4, Xo.out.c5, Xo.out.c6, Xo.out.c7, Xo.out.c8⟩
    obtain ⟨co0, co1, co2, co3, co4, co5, co6, co7, co8, fo0, fo1, fo2, fo3, fo4, fo5, fo6, fo7, fo8⟩ := Xo.out
    have hneo : go < W'.heap.size := World.block_lt_of_cell? W' _ co0
    obtain ⟨ct0, ct1, ct2, ct3, ct4, ct5, ct6, ct7, ct8, ft0, ft1, ft2, ft3, ft4, ft5, ft6, ft7, ft8⟩ := Xt.out
    have hnet : gt < W'.heap.size := World.block_lt_of_cell? W' _ ct0
    refine wpJ_on 5 rfl fun KJ hK => ?_
    go_simp
    have Yo : Hid (B9q (((((((((W'.setCell ⟨gt, 0, none⟩ (.int .i64 5)).setCell ⟨gt, 1, none⟩ (.int .i64 ff)).setCell ⟨gt, 2, none⟩ (.bool sa)).setCell ⟨gt, 3, none⟩ (.slice (some ⟨ga, 0, none⟩) na na)).setCell ⟨gt, 4, none⟩ (.int .i64 ea)).setCell ⟨gt, 5, none⟩ (.bool sb)).setCell ⟨gt, 6, none⟩ (.slice (some ⟨gb, 0, none⟩) nb nb)).setCell ⟨gt, 7, none⟩ (.int .i64 eb)).setCell ⟨gt, 8, none⟩ (U wd)) go (.int .i64 5) (.int .i64 ff) (.bool sa) (.slice pa na ca) (.int .i64 ea) (.bool sb) (.slice pb nb cb) (.int .i64 eb) (U wd)) := ⟨by go_simp, by go_simp, by go_simp, by go_simp, by go_simp, by go_simp, by go_simp, by go_simp, by go_simp, by go_simp, by go_simp, by go_simp, by go_simp, by go_simp, by go_simp, by go_simp, by go_simp, by go_simp⟩
    clear co0 co1 co2 co3 co4 co5 co6 co7 co8 fo0 fo1 fo2 fo3 fo4 fo5 fo6 fo7 fo8 hneo
    clear ct0 ct1 ct2 ct3 ct4 ct5 ct6 ct7 ct8 ft0 ft1 ft2 ft3 ft4 ft5 ft6 ft7 ft8 hnet
    have Yt : Hid (B9q (((((((((W'.setCell ⟨gt, 0, none⟩ (.int .i64 5)).setCell ⟨gt, 1, none⟩ (.int .i64 ff)).setCell ⟨gt, 2, none⟩ (.bool sa)).setCell ⟨gt, 3, none⟩ (.slice (some ⟨ga, 0, none⟩) na na)).setCell ⟨gt, 4, none⟩ (.int .i64 ea)).setCell ⟨gt, 5, none⟩ (.bool sb)).setCell ⟨gt, 6, none⟩ (.slice (some ⟨gb, 0, none⟩) nb nb)).setCell ⟨gt, 7, none⟩ (.int .i64 eb)).setCell ⟨gt, 8, none⟩ (U wd)) gt (.int .i64 5) (.int .i64 ff) (.bool sa) (.slice (some ⟨ga, 0, none⟩) na na) (.int .i64 ea) (.bool sb) (.slice (some ⟨gb, 0, none⟩) nb nb) (.int .i64 eb) (U wd)) := Xt.out.set9
    have TA : Hid (At (((((((((W'.setCell ⟨gt, 0, none⟩ (.int .i64 5)).setCell ⟨gt, 1, none⟩ (.int .i64 ff)).setCell ⟨gt, 2, none⟩ (.bool sa)).setCell ⟨gt, 3, none⟩ (.slice (some ⟨ga, 0, none⟩) na na)).setCell ⟨gt, 4, none⟩ (.int .i64 ea)).setCell ⟨gt, 5, none⟩ (.bool sb)).setCell ⟨gt, 6, none⟩ (.slice (some ⟨gb, 0, none⟩) nb nb)).setCell ⟨gt, 7, none⟩ (.int .i64 eb)).setCell ⟨gt, 8, none⟩ (U wd)) (some ⟨ga, 0, none⟩) na na xa) := (at_set9 (at_set9 (at_set9 (at_set9 (at_set9 (at_set9 (at_set9 (at_set9 (at_set9 Hta.out _ _ _ Hoa.out) _ _ _ Hoa.out) _ _ _ Hoa.out) _ _ _ Hoa.out) _ _ _ Hoa.out) _ _ _ Hoa.out) _ _ _ Hoa.out) _ _ _ Hoa.out) _ _ _ Hoa.out)
    have TC : Hid (At (((((((((W'.setCell ⟨gt, 0, none⟩ (.int .i64 5)).setCell ⟨gt, 1, none⟩ (.int .i64 ff)).setCell ⟨gt, 2, none⟩ (.bool sa)).setCell ⟨gt, 3, none⟩ (.slice (some ⟨ga, 0, none⟩) na na)).setCell ⟨gt, 4, none⟩ (.int .i64 ea)).setCell ⟨gt, 5, none⟩ (.bool sb)).setCell ⟨gt, 6, none⟩ (.slice (some ⟨gb, 0, none⟩) nb nb)).setCell ⟨gt, 7, none⟩ (.int .i64 eb)).setCell ⟨gt, 8, none⟩ (U wd)) (some ⟨gb, 0, none⟩) nb nb xb) := (at_set9 (at_set9 (at_set9 (at_set9 (at_set9 (at_set9 (at_set9 (at_set9 (at_set9 Htb.out _ _ _ Hob.out) _ _ _ Hob.out) _ _ _ Hob.out) _ _ _ Hob.out) _ _ _ Hob.out) _ _ _ Hob.out) _ _ _ Hob.out) _ _ _ Hob.out) _ _ _ Hob.out)
    have HJ2 : Hid ((fun W' : World => W'.cell? ⟨go, 0, none⟩ = some (.int .i64 5) ∧ W'.cell? ⟨go, 1, none⟩ = some (.int .i64 ff) ∧ W'.cell? ⟨go, 2, none⟩ = some (.bool sa) ∧ W'.cell? ⟨go, 3, none⟩ = some (.slice pa na ca) ∧ W'.cell? ⟨go, 4, none⟩ = some (.int .i64 ea) ∧ W'.cell? ⟨go, 5, none⟩ = some (.bool sb) ∧ W'.cell? ⟨go, 6, none⟩ = some (.slice pb nb cb) ∧ W'.cell? ⟨go, 7, none⟩ = some (.int .i64 eb) ∧ W'.cell? ⟨go, 8, none⟩ = some (U wd)) (((((((((W'.setCell ⟨gt, 0, none⟩ (.int .i64 5)).setCell ⟨gt, 1, none⟩ (.int .i64 ff)).setCell ⟨gt, 2, none⟩ (.bool sa)).setCell ⟨gt, 3, none⟩ (.slice (some ⟨ga, 0, none⟩) na na)).setCell ⟨gt, 4, none⟩ (.int .i64 ea)).setCell ⟨gt, 5, none⟩ (.bool sb)).setCell ⟨gt, 6, none⟩ (.slice (some ⟨gb, 0, none⟩) nb nb)).setCell ⟨gt, 7, none⟩ (.int .i64 eb)).setCell ⟨gt, 8, none⟩ (U wd))) := ⟨Yo.out.c0, Yo.out.c1, Yo.out.c2, Yo.out.c3, Yo.out.c4, Yo.out.c5, Yo.out.c6, Yo.out.c7, Yo.out.c8⟩
    have hbw2 : Below w.heap.size w (((((((((W'.setCell ⟨gt, 0, none⟩ (.int .i64 5)).setCell ⟨gt, 1, none⟩ (.int .i64 ff)).setCell ⟨gt, 2, none⟩ (.bool sa)).setCell ⟨gt, 3, none⟩ (.slice (some ⟨ga, 0, none⟩) na na)).setCell ⟨gt, 4, none⟩ (.int .i64 ea)).setCell ⟨gt, 5, none⟩ (.bool sb)).setCell ⟨gt, 6, none⟩ (.slice (some ⟨gb, 0, none⟩) nb nb)).setCell ⟨gt, 7, none⟩ (.int .i64 eb)).setCell ⟨gt, 8, none⟩ (U wd)) := below_set9 hbw Hht.out
    refine hK _ _ HJ2.out ?_
    clear hK HJ
    have HJ := HJ2
    clear HJ2
    clear Hta Htb hbw Xo Xt
    have Xo := Yo
    have Xt := Yt
    have hbw := hbw2
    clear hbw2 Yo Yt
    generalize (((((((((W'.setCell ⟨gt, 0, none⟩ (.int .i64 5)).setCell ⟨gt, 1, none⟩ (.int .i64 ff)).setCell ⟨gt, 2, none⟩ (.bool sa)).setCell ⟨gt, 3, none⟩ (.slice (some ⟨ga, 0, none⟩) na na)).setCell ⟨gt, 4, none⟩ (.int .i64 ea)).setCell ⟨gt, 5, none⟩ (.bool sb)).setCell ⟨gt, 6, none⟩ (.slice (some ⟨gb, 0, none⟩) nb nb)).setCell ⟨gt, 7, none⟩ (.int .i64 eb)).setCell ⟨gt, 8, none⟩ (U wd)) = V9 at *
    refine wpJ_tq 6 rfl HJ.out ?_
    refine wpJ_done (by kernel_rfl) ?_ _
    clear HJ
    obtain ⟨co0, co1, co2, co3, co4, co5, co6, co7, co8, fo0, fo1, fo2, fo3, fo4, fo5, fo6, fo7, fo8⟩ := Xo.out
    have hneo : go < V9.heap.size := World.block_lt_of_cell? V9 _ co0
    obtain ⟨ct0, ct1, ct2, ct3, ct4, ct5, ct6, ct7, ct8, ft0, ft1, ft2, ft3, ft4, ft5, ft6, ft7, ft8⟩ := Xt.out
    have hnet : gt < V9.heap.size := World.block_lt_of_cell? V9 _ ct0
    go_wp2_with fail
    clear co0 co1 co2 co3 co4 co5 co6 co7 co8 fo0 fo1 fo2 fo3 fo4 fo5 fo6 fo7 fo8 hneo
    clear ct0 ct1 ct2 ct3 ct4 ct5 ct6 ct7 ct8 ft0 ft1 ft2 ft3 ft4 ft5 ft6 ft7 ft8 hnet
    refine (H1.out _ _ _ _ TA.out (TB.out.below hbw)).mono ?_
    rintro e v2 ⟨rfl, hb2⟩
    replace Xo : Hid (B9q v2 go (.int .i64 5) (.int .i64 ff) (.bool sa) (.slice pa na ca) (.int .i64 ea) (.bool sb) (.slice pb nb cb) (.int .i64 eb) (U wd)) := Xo.out.below hb2
    replace Xt : Hid (B9q v2 gt (.int .i64 5) (.int .i64 ff) (.bool sa) (.slice (some ⟨ga, 0, none⟩) na na) (.int .i64 ea) (.bool sb) (.slice (some ⟨gb, 0, none⟩) nb nb) (.int .i64 eb) (U wd)) := Xt.out.below hb2
    replace TA : Hid _ := TA.out.below hb2
    replace TC : Hid _ := TC.out.below hb2
    replace hbw := Below.on hbw hb2
    clear hb2
    obtain ⟨co0, co1, co2, co3, co4, co5, co6, co7, co8, fo0, fo1, fo2, fo3, fo4, fo5, fo6, fo7, fo8⟩ := Xo.out
    have hneo : go < v2.heap.size := World.block_lt_of_cell? v2 _ co0
    go_wp2_with fail
    clear co0 co1 co2 co3 co4 co5 co6 co7 co8 fo0 fo1 fo2 fo3 fo4 fo5 fo6 fo7 fo8 hneo
    refine (H2.out _ _ _ _ (HA.out.below hbw)).mono ?_
    rintro e v3 ⟨rfl, hb3⟩
    replace Xo : Hid (B9q v3 go (.int .i64 5) (.int .i64 ff) (.bool sa) (.slice pa na ca) (.int .i64 ea) (.bool sb) (.slice pb nb cb) (.int .i64 eb) (U wd)) := Xo.out.below hb3
    replace Xt : Hid (B9q v3 gt (.int .i64 5) (.int .i64 ff) (.bool sa) (.slice (some ⟨ga, 0, none⟩) na na) (.int .i64 ea) (.bool sb) (.slice (some ⟨gb, 0, none⟩) nb nb) (.int .i64 eb) (U wd)) := Xt.out.below hb3
    replace TA : Hid _ := TA.out.below hb3
    replace TC : Hid _ := TC.out.below hb3
    replace hbw := Below.on hbw hb3
    clear hb3
    obtain ⟨co0, co1, co2, co3, co4, co5, co6, co7, co8, fo0, fo1, fo2, fo3, fo4, fo5, fo6, fo7, fo8⟩ := Xo.out
    have hneo : go < v3.heap.size := World.block_lt_of_cell? v3 _ co0
    go_wp2_with fail
    clear co0 co1 co2 co3 co4 co5 co6 co7 co8 fo0 fo1 fo2 fo3 fo4 fo5 fo6 fo7 fo8 hneo
    go_ret
    exact ⟨rfl, hbw⟩
  have N1 : ∀ (ga : Nat) (gb : Nat) (W' : World), (B9q W' go (.int .i64 5) (.int .i64 ff) (.bool sa) (.slice pa na ca) (.int .i64 ea) (.bool sb) (.slice pb nb cb) (.int .i64 eb) (U wd)) ∧ (Below w.heap.size w W') ∧ (At W' (some ⟨ga, 0, none⟩) na na xa) ∧ (At W' (some ⟨gb, 0, none⟩) nb nb xb) → WP 3 (L0.setIfInBounds 1 true) (a0.put (some 34) (.agg #[.int .i64 5, .int .i64 ff, .bool sa, .slice (some ⟨ga, 0, none⟩) na na, .int .i64 ea, .bool sb, .slice (some ⟨gb, 0, none⟩) nb nb, .int .i64 eb, U wd])) W' := by
    rintro ga gb W' ⟨xo, hbw, ta, tb⟩
    subst hWP hL ha
    have Hxo := Hid.mk5 xo
    have Hta := Hid.mk5 ta
    have Htb := Hid.mk5 tb
    clear xo ta tb
    go_simp
    refine wpJ_on 4 rfl fun KJ hK => ?_
    go_simp
    have hb := below1 W' (.cells #[.int .i64 0, .int .i64 0, .bool false, .slice none 0 0, .int .i64 0, .bool false, .slice none 0 0, .int .i64 0, .int .u64 0] 59)
    refine hK _ _ ⟨(Hxo.out.below hb).c0, (Hxo.out.below hb).c1, (Hxo.out.below hb).c2, (Hxo.out.below hb).c3, (Hxo.out.below hb).c4, (Hxo.out.below hb).c5, (Hxo.out.below hb).c6, (Hxo.out.below hb).c7, (Hxo.out.below hb).c8⟩ ?_
    exact wpJ_same5 (by kernel_rfl) (by kernel_rfl) (N1_4 ga gb W'.heap.size _ ⟨(Hxo.out.below hb), (Below.on hbw hb), (Hta.out.below hb), (Htb.out.below hb), (B9q.new W' _ _ _ _ _ _ _ _ _ _), hbw.size, (Nat.ne_of_lt Hxo.out.lt), ((at_blk9 Hta.out).imp id Nat.ne_of_lt), ((at_blk9 Htb.out).imp id Nat.ne_of_lt)⟩)
  have N4 : ∀ (gt : Nat) (W' : World), (B9q W' go (.int .i64 5) (.int .i64 ff) (.bool sa) (.slice pa na ca) (.int .i64 ea) (.bool sb) (.slice pb nb cb) (.int .i64 eb) (U wd)) ∧ (Below w.heap.size w W') ∧ (B9q W' gt (.int .i64 0) (.int .i64 0) (.bool false) (.slice none 0 0) (.int .i64 0) (.bool false) (.slice none 0 0) (.int .i64 0) (.int .u64 0)) ∧ (w.heap.size ≤ gt) ∧ (go ≠ gt) → WP 3 (L0.setIfInBounds 4 true) (a0.put (some 3) (.pointer (some ⟨gt, 0, none⟩))) W' := by
    rintro gt W' ⟨xo, hbw, xt, ht, nt⟩
    subst hWP hL ha
    have Hxo := Hid.mk5 xo
    have Hxt := Hid.mk5 xt
    have Hht := Hid.mk5 ht
    have Hnt := Hid.mk5 nt
    clear xo xt ht nt
    go_simp
    refine wpJ_on 1 rfl fun KJ hK => ?_
    go_simp
    refine (twin8 sa sb (HA.out.below hbw) (HB.out.below hbw) ⟨HN.out.1, HN.out.2.1⟩).mono ?_
    rintro e9 W2 ⟨ga, gb, rfl, hga, hgb, hta, htb, hb⟩
    refine hK _ _ ⟨(Hxo.out.below hb).c0, (Hxo.out.below hb).c1, (Hxo.out.below hb).c2, (Hxo.out.below hb).c3, (Hxo.out.below hb).c4, (Hxo.out.below hb).c5, (Hxo.out.below hb).c6, (Hxo.out.below hb).c7, (Hxo.out.below hb).c8⟩ ?_
    exact wpJ_same5 (by kernel_rfl) (by kernel_rfl) (N1_4 ga gb gt W2 ⟨(Hxo.out.below hb), (Below.on hbw hb), hta, htb, (Hxt.out.below hb), Hht.out, Hnt.out, (.inr (Nat.ne_of_gt (Nat.lt_of_lt_of_le Hxt.out.lt hga))), (.inr (Nat.ne_of_gt (Nat.lt_of_lt_of_le Hxt.out.lt hgb)))⟩)
  have N_ : ∀ (W' : World), (B9q W' go (.int .i64 5) (.int .i64 ff) (.bool sa) (.slice pa na ca) (.int .i64 ea) (.bool sb) (.slice pb nb cb) (.int .i64 eb) (U wd)) ∧ (Below w.heap.size w W') → WP 4 L0 a0 W' := by
    rintro  W' ⟨xo, hbw⟩
    subst hWP hL ha
    have Hxo := Hid.mk5 xo
    clear xo
    go_simp
    refine wpJ_two (i := 1) (k := 4) (by kernel_rfl) rfl rfl (by kernel_rfl) (by kernel_rfl) (fun KJ hK => ?_) (fun KJ hK => ?_)
    · go_simp
      refine (twin8 sa sb (HA.out.below hbw) (HB.out.below hbw) ⟨HN.out.1, HN.out.2.1⟩).mono ?_
      rintro e9 W2 ⟨ga, gb, rfl, hga, hgb, hta, htb, hb⟩
      refine hK _ _ ⟨(Hxo.out.below hb).c0, (Hxo.out.below hb).c1, (Hxo.out.below hb).c2, (Hxo.out.below hb).c3, (Hxo.out.below hb).c4, (Hxo.out.below hb).c5, (Hxo.out.below hb).c6, (Hxo.out.below hb).c7, (Hxo.out.below hb).c8⟩ ?_
      exact wpJ_same5 (by kernel_rfl) (by kernel_rfl) (N1 ga gb W2 ⟨(Hxo.out.below hb), (Below.on hbw hb), hta, htb⟩)
    · go_simp
      have hb := below1 W' (.cells #[.int .i64 0, .int .i64 0, .bool false, .slice none 0 0, .int .i64 0, .bool false, .slice none 0 0, .int .i64 0, .int .u64 0] 59)
      refine hK _ _ ⟨(Hxo.out.below hb).c0, (Hxo.out.below hb).c1, (Hxo.out.below hb).c2, (Hxo.out.below hb).c3, (Hxo.out.below hb).c4, (Hxo.out.below hb).c5, (Hxo.out.below hb).c6, (Hxo.out.below hb).c7, (Hxo.out.below hb).c8⟩ ?_
      exact wpJ_same5 (by kernel_rfl) (by kernel_rfl) (N4 W'.heap.size _ ⟨(Hxo.out.below hb), (Below.on hbw hb), (B9q.new W' _ _ _ _ _ _ _ _ _ _), hbw.size, (Nat.ne_of_lt Hxo.out.lt)⟩)
  exact N_ W1 ⟨Xo.out, hbw⟩
def awQ (lo E : Nat) : Bool := decide (2 * vs 4503599627370496 lo * 3 ≤ 2 ^ E) && decide (2 ^ E < 2 * vs 4503599627370496 (lo + 1) * 3) && decide (2 ^ E < hv 4503599627370496 lo * 3)
theorem awQ_t : awQ 4604180019048437077 1076 = true := by decide +kernel
def awR (lo E : Nat) : Bool := decide (2 * vs 8388608 lo * (2 * vs 8388608 lo) ≤ 2 ^ E) && decide (2 ^ E < 2 * vs 8388608 (lo + 1) * (2 * vs 8388608 (lo + 1))) && decide (2 ^ E < hv 8388608 lo * hv 8388608 lo)
theorem awR_t : awR 1068827891 301 = true := by decide +kernel
theorem dn_len1 {w : World} {s : Bool} {p : Option Addr} {m c : Nat} {e z : Int} (h : DN w s p m c e z) (hz : z.natAbs < B64) : m ≤ 4096 := by
  obtain ⟨xs, hX⟩ := h.zn.ex
  have h1 := (hX.nf.len_le B64_one (k := 1)).2 (by rw [Nat.pow_one]; exact hz)
  rw [hX.at_.len] at h1
  omega
theorem tr_congr {s t : Nat → Int} {I Z : Nat} (h : ∀ z, s z = t z) (k : Trc s I Z) : Trc t I Z := by
  obtain rfl : s = t := funext h
  exact k
theorem aw_quo : Trc (fun z => cmpN (dN 1 1) (dN (hv 4503599627370496 z * 3) (-1074 - 1))) 9218868437227405312 4604180019048437077 := by
  obtain ⟨E, hE⟩ : ∃ E : Nat, E = 1076 := ⟨_, rfl⟩
  have h := awQ_t
  rw [← hE] at h
  unfold awQ at h
  simp only [Bool.and_eq_true, decide_eq_true_eq] at h
  obtain ⟨⟨h1, h2⟩, h3⟩ := h
  refine tr_congr (s := fun z => cmpN (2 ^ E) (hv 4503599627370496 z * 3)) (fun z => ?_) (trc_lo (g := fun t => t * 3) (lo := 4604180019048437077) (by decide) (fun a b h => Nat.mul_lt_mul_of_pos_right h (by decide)) (by decide) h1 h2 ?_)
  · rw [dN_cmp (k := -1074 - 1) (E := E) (F := 0) (by rw [hE]; rfl) (by rfl) (by decide), Nat.one_mul, Nat.pow_zero, Nat.mul_one]
  · rw [if_neg]
    show ¬ (cmpN (hv 4503599627370496 4604180019048437077 * 3) (2 ^ E) < 0 ∨ _)
    rw [cmpN_gt h3]
    decide
theorem aw_rot : Trc (fun z => cmpN (dN 1 1) (dN (hv 8388608 z * hv 8388608 z * 1) (2 * (-149 - 1)))) 2139095040 1068827891 := by
  obtain ⟨E, hE⟩ : ∃ E : Nat, E = 301 := ⟨_, rfl⟩
  have h := awR_t
  rw [← hE] at h
  unfold awR at h
  simp only [Bool.and_eq_true, decide_eq_true_eq] at h
  obtain ⟨⟨h1, h2⟩, h3⟩ := h
  refine tr_congr (s := fun z => cmpN (2 ^ E) (hv 8388608 z * hv 8388608 z)) (fun z => ?_) (trc_lo (g := fun t => t * t) (lo := 1068827891) (by decide) (fun a b h => Nat.mul_lt_mul_of_lt_of_le h (Nat.le_of_lt h) (by omega)) (by decide) h1 h2 ?_)
  · rw [dN_cmp (k := 2 * (-149 - 1)) (E := E) (F := 0) (by rw [hE]; rfl) (by rfl) (by decide), Nat.one_mul, Nat.pow_zero, Nat.mul_one, Nat.mul_one]
  · rw [if_neg]
    show ¬ (cmpN (hv 8388608 1068827891 * hv 8388608 1068827891) (2 ^ E) < 0 ∨ _)
    rw [cmpN_gt h3]
    decide
theorem roundQuotients_walk {P : Option Addr} {N C : Nat} {its : List Op9} {w : World} (h : Scr8 w P N C its) (hT : Tab w) :
    Calls Tryz.prog 5 #[.slice P N C] w fun en w' => en = .returned (.bool true) ∧ Below w.heap.size w w' := by
  have H : Hid (Scr8 w P N C its) := h
  have TB : Hid (Tab w) := hT
  have hbw : Below w.heap.size w w := Below.refl _ _
  clear h hT
  go_enter Tryz.func5, Tryz.ntmps5
  go_wp2_with fail
  refine (num8 (1) (1) (by decide) (by decide) (by decide)).mono ?_
  rintro e2 v1 ⟨s1, g1, m1, c1, rfl, _, hd1, hb1⟩
  replace hbw := Below.on hbw hb1
  clear hb1
  have D1 : Hid (DN v1 s1 (some ⟨g1, 0, none⟩) m1 c1 (1) (1)) := hd1
  clear hd1
  go_wp2_with fail
  refine (num8 (-3) (0) (by decide) (by decide) (by decide)).mono ?_
  rintro e2 v2 ⟨s2, g2, m2, c2, rfl, _, hd2, hb2⟩
  replace D1 : Hid _ := D1.out.below hb2
  replace hbw := Below.on hbw hb2
  clear hb2
  have D2 : Hid (DN v2 s2 (some ⟨g2, 0, none⟩) m2 c2 (0) (-3)) := hd2
  clear hd2
  go_wp2_with fail
  refine (quotient_n jn_64 (by decide) D1.out D2.out (dn_len1 D1.out (by decide)) (dn_len1 D2.out (by decide)) (TB.out.below hbw) (by decide) (by decide)).mono ?_
  rintro e9 v3 ⟨b3, Z3, V3, rfl, hs3, hz3, hm3, hb3⟩
  obtain rfl : Z3 = 4604180019048437077 := (quo_trc hm3 hz3).uniq aw_quo
  have hs9 : b3 = 13827552055903212885 := by rw [hs3, D1.out.zn.sg, D2.out.zn.sg]; decide
  subst hs9
  clear hs3 hz3 hm3
  replace D1 : Hid _ := D1.out.below hb3
  replace D2 : Hid _ := D2.out.below hb3
  replace hbw := Below.on hbw hb3
  clear hb3
  go_wp2_with fail
  clear D1
  clear D2
  refine (num8 (1) (1) (by decide) (by decide) (by decide)).mono ?_
  rintro e2 v5 ⟨s5, g5, m5, c5, rfl, _, hd5, hb5⟩
  replace hbw := Below.on hbw hb5
  clear hb5
  have D5 : Hid (DN v5 s5 (some ⟨g5, 0, none⟩) m5 c5 (1) (1)) := hd5
  clear hd5
  go_wp2_with fail
  refine (root_n jn_32 (by decide) D5.out (dn_len1 D5.out (by decide)) (TB.out.below hbw) (by decide)).mono ?_
  rintro e9 v6 ⟨Z6, V6, rfl, hz6, hm6, hb6⟩
  obtain rfl : Z6 = 1068827891 := (rot_trc (by decide) (by decide) hm6 hz6).uniq aw_rot
  clear hz6 hm6
  replace D5 : Hid _ := D5.out.below hb6
  replace hbw := Below.on hbw hb6
  clear hb6
  clear D5
  go_wp2_with fail
  refine (all8 (H.out.below hbw) (TB.out.below hbw) ?_).mono ?_
  · intro k h5 h9 pa pb na ca nb cb wd xa xb w ff ea eb sa sb ha hb hn hT
    rcases (by omega : k = 4 ∨ k = 5) with rfl | rfl
    · exact plays8_4 sa sb ha hb hn hT
    · exact plays8_5 sa sb ha hb hn hT
  rintro e w9 ⟨rfl, hb9⟩
  replace hbw := Below.on hbw hb9
  clear hb9
  go_wp2_with fail
  go_ret
  exact ⟨rfl, hbw⟩
end Go.Proofs.YtfmbifocgljieaaGreatDoor
