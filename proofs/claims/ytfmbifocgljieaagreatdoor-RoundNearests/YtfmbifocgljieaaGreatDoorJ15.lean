import Derived.Test.YtfmbifocgljieaaGreatDoorJ14
namespace Go.Proofs.YtfmbifocgljieaaGreatDoor
open Go.RowKit Go.Shelf
set_option maxRecDepth 20000
set_option maxHeartbeats 0
def NearB (f : Int) (s : Bool) (xs : List Nat) (e : Int) : Prop := ∃ v er : Int, (∀ (w : World) (p : Option Addr) (n c : Nat), At w p n c xs → Tab w → Calls Tryz.prog 39 #[.int .i64 f, DV s p n c e] w fun en w' => en = .returned (.tuple #[.int .u64 v, .int .i64 er]) ∧ Below w.heap.size w w') ∧ (∀ (w : World) (p : Option Addr) (n c : Nat), At w p n c xs → Calls Tryz.prog 52 #[.int .i64 f, DV s p n c e] w fun en w' => en = .returned (.tuple #[.int .u64 v, .int .i64 er]) ∧ Below w.heap.size w w')
theorem val_nil {xs : List Nat} {s : Bool} {e : Int} {w : World} {p : Option Addr} {n c : Nat} (h : At w p n c xs) (hf : formD s xs e = true) (hv : valB B64 xs = 0) : n = 0 := by
  obtain ⟨ys, hY⟩ := (formD_dn h hf).zn.ex
  have h1 : iv s (valB B64 xs) = 0 := by rw [hv]; cases s <;> rfl
  rw [h1] at hY
  have h2 := hY.nf.val
  have h3 : ys = [] := (hY.nf.zero_iff B64_one).2 rfl
  have h4 := hY.at_.len
  rw [h3] at h4
  simpa using h4.symm
theorem near_fmt {f p m l P G : Int} {S I H sd Q : Nat} {Be : Int} (J : Jn f p m l S I H sd Be) (R : Rf f S P l G I Q) (K : Sk S P l G I Q H) (s : Bool) (xs : List Nat) (e : Int) : NearB f s xs e := by
  cases hf : formD s xs e
  · exact ⟨0, 2, fun w p n c h _ => rnearest_f J s h hf, fun w p n c h => docnearest_f R s h hf⟩
  · by_cases hv : valB B64 xs = 0
    · refine ⟨0, 0, fun w p n c h hT => ?_, fun w p n c h => ?_⟩
      · have h1 : iv s (valB B64 xs) = 0 := by rw [hv]; cases s <;> rfl
        have h2 := rnearest J (formD_dn h hf) hT
        rw [h1, show rnp l sd Be S I 0 e = 0 by unfold rnp; rw [if_pos rfl]] at h2
        exact h2
      · obtain rfl := val_nil h hf hv
        exact docnearest_z R s h hf
    · obtain ⟨x, hx⟩ : ∃ x, x = iv s (valB B64 xs) := ⟨_, rfl⟩
      have hx0 : x ≠ 0 := by rw [hx]; cases s <;> simp [iv] <;> omega
      have hsx : s = decide (x < 0) := by rw [hx, iv_lt, decide_eq_true (show 0 < valB B64 xs by omega), Bool.and_true]
      have he : -4194304 ≤ e := by
        unfold formD at hf
        simp only [Bool.and_eq_true, decide_eq_true_eq] at hf
        omega
      obtain ⟨Z, h1, h2, h3, -⟩ := rnp_is J x e he
      refine ⟨(rnp l sd Be S I x e : Int), 0, fun w p n c h hT => ?_, fun w p n c h => ?_⟩
      · have h4 := rnearest J (formD_dn h hf) hT
        rw [← hx] at h4
        exact h4
      · have h4 := formD_dn h hf
        rw [← hx] at h4
        refine (docnearest_n R K h4 hx0).mono fun en w' ⟨⟨Y, h5, h6⟩, h7⟩ => ⟨?_, h7⟩
        rw [h5, h6.uniq h2.trc, h3, hsx]
        by_cases h8 : x < 0 <;> simp [h8]
theorem near_all (f : Int) (s : Bool) (xs : List Nat) (e : Int) : NearB f s xs e := by
  by_cases h1 : f = 32
  · subst h1; exact near_fmt jn_32 rf_32 sk_32 s xs e
  by_cases h2 : f = 64
  · subst h2; exact near_fmt jn_64 rf_64 sk_64 s xs e
  · exact ⟨0, 1, fun w p n c _ _ => rnearest_x f h1 h2 s w, fun w p n c _ => docnearest_x f h1 h2 s w⟩
theorem at_blk9 {w : World} {g n c : Nat} {xs : List Nat} (h : At w (some ⟨g, 0, none⟩) n c xs) : n = 0 ∨ g < w.heap.size := by
  rcases h.cells with h0 | ⟨g9, off, hp, hc⟩
  · exact .inl h0
  · by_cases h0 : n = 0
    · exact .inl h0
    · have h1 := World.block_lt_of_cell? w _ (hc 0 (by omega))
      injection hp with hp
      injection hp with hp1 hp2
      subst hp1
      exact .inr h1
theorem at_set9 {w : World} {g n c : Nat} {xs : List Nat} (h : At w (some ⟨g, 0, none⟩) n c xs) (g2 o2 : Nat) (v : Value) (hne : n = 0 ∨ g ≠ g2) : At (w.setCell ⟨g2, o2, none⟩ v) (some ⟨g, 0, none⟩) n c xs := by
  rcases hne with h0 | h0
  · exact ⟨h.len, h.cap, h.big, h.dig, .inl h0⟩
  · exact h.setOther g2 o2 v h0
theorem plays8_1 {pa pb : Option Addr} {na ca nb cb wd : Nat} {xa xb : List Nat} {w : World} {ff ea eb : Int} (sa sb : Bool) (ha : At w pa na ca xa) (hb : At w pb nb cb xb) (hn : na ≤ 17592186044416 ∧ nb ≤ 17592186044416 ∧ wd < B64) (hT : Tab w) :
    Calls Tryz.prog 24 #[(.agg #[.int .i64 1, .int .i64 ff, .bool sa, .slice pa na ca, .int .i64 ea, .bool sb, .slice pb nb cb, .int .i64 eb, U wd])] w fun en w' => en = .returned (.bool true) ∧ Below w.heap.size w w' := by
  have HA : Hid (At w pa na ca xa) := ha
  have HB : Hid (At w pb nb cb xb) := hb
  have HN : Hid (na ≤ 17592186044416 ∧ nb ≤ 17592186044416 ∧ wd < B64) := hn
  have TB : Hid (Tab w) := hT
  clear ha hb hn hT
  obtain ⟨v, er, h1, h2⟩ := near_all ff sa xa ea
  have H1 : Hid (∀ (w : World) (p : Option Addr) (n c : Nat), At w p n c xa → Tab w → Calls Tryz.prog 39 #[.int .i64 ff, DV sa p n c ea] w fun en w' => en = .returned (.tuple #[.int .u64 v, .int .i64 er]) ∧ Below w.heap.size w w') := h1
  have H2 : Hid (∀ (w : World) (p : Option Addr) (n c : Nat), At w p n c xa → Calls Tryz.prog 52 #[.int .i64 ff, DV sa p n c ea] w fun en w' => en = .returned (.tuple #[.int .u64 v, .int .i64 er]) ∧ Below w.heap.size w w') := h2
  have q0 : (v == v) = true := by simp
  have q1 : (er == er) = true := by simp
  clear h1 h2
  go_enter Tryz.func24, Tryz.ntmps24
  go_wp2_with fail
  obtain ⟨W0, hW0⟩ : ∃ W0, W0 = (w.alloc (.cells #[.int .i64 1, .int .i64 ff, .bool sa, .slice pa na ca, .int .i64 ea, .bool sb, .slice pb nb cb, .int .i64 eb, U wd] 59)) := ⟨_, rfl⟩
  have Xo : Hid (B9q W0 (w.heap.size) (.int .i64 1) (.int .i64 ff) (.bool sa) (.slice pa na ca) (.int .i64 ea) (.bool sb) (.slice pb nb cb) (.int .i64 eb) (U wd)) := by rw [hW0]; exact ⟨by go_simp, by go_simp, by go_simp, by go_simp, by go_simp, by go_simp, by go_simp, by go_simp, by go_simp, by go_simp, by go_simp, by go_simp, by go_simp, by go_simp, by go_simp, by go_simp, by go_simp, by go_simp⟩
  have hb0 : Below w.heap.size w W0 := by rw [hW0]; exact below1 w _
  rw [← hW0]
  clear hW0
  have hbw : Below w.heap.size w w := Below.refl _ _
  obtain ⟨go, hgo⟩ : ∃ g, g = w.heap.size := ⟨_, rfl⟩
  have HGo : Hid (w.heap.size ≤ go) := by rw [hgo]; show _ ≤ _; omega
  rw [← hgo] at Xo
  try rw [← hgo]
  clear hgo
  replace hbw := Below.on hbw hb0
  clear hb0
  obtain ⟨W1, hW1⟩ : ∃ W1, W1 = W0.drew := ⟨_, rfl⟩
  have hbd : Below W0.heap.size W0 W1 := by rw [hW1]; exact bDrew1 (Below.refl _ _)
  replace Xo : Hid (B9q W1 go (.int .i64 1) (.int .i64 ff) (.bool sa) (.slice pa na ca) (.int .i64 ea) (.bool sb) (.slice pb nb cb) (.int .i64 eb) (U wd)) := Xo.out.below hbd
  replace hbw := Below.on hbw hbd
  clear hbd
  have HJ : Hid ((fun W' : World => W'.cell? ⟨go, 0, none⟩ = some (.int .i64 1) ∧ W'.cell? ⟨go, 1, none⟩ = some (.int .i64 ff) ∧ W'.cell? ⟨go, 2, none⟩ = some (.bool sa) ∧ W'.cell? ⟨go, 3, none⟩ = some (.slice pa na ca) ∧ W'.cell? ⟨go, 4, none⟩ = some (.int .i64 ea) ∧ W'.cell? ⟨go, 5, none⟩ = some (.bool sb) ∧ W'.cell? ⟨go, 6, none⟩ = some (.slice pb nb cb) ∧ W'.cell? ⟨go, 7, none⟩ = some (.int .i64 eb) ∧ W'.cell? ⟨go, 8, none⟩ = some (U wd)) W1) := ⟨Xo.out.c0, Xo.out.c1, Xo.out.c2, Xo.out.c3, Xo.out.c4, Xo.out.c5, Xo.out.c6, Xo.out.c7, Xo.out.c8⟩
  refine wp_region_J (fun W' => W'.cell? ⟨go, 0, none⟩ = some (.int .i64 1) ∧ W'.cell? ⟨go, 1, none⟩ = some (.int .i64 ff) ∧ W'.cell? ⟨go, 2, none⟩ = some (.bool sa) ∧ W'.cell? ⟨go, 3, none⟩ = some (.slice pa na ca) ∧ W'.cell? ⟨go, 4, none⟩ = some (.int .i64 ea) ∧ W'.cell? ⟨go, 5, none⟩ = some (.bool sb) ∧ W'.cell? ⟨go, 6, none⟩ = some (.slice pb nb cb) ∧ W'.cell? ⟨go, 7, none⟩ = some (.int .i64 eb) ∧ W'.cell? ⟨go, 8, none⟩ = some (U wd)) (by kernel_rfl) ?_
  rw [← hW1]
  clear hW1
  refine wpJ_tq 0 rfl HJ.out ?_
  refine wpJ_tq 2 rfl HJ.out ?_
  refine wpJ_tq 3 rfl HJ.out ?_
  go_simp
  refine wpJ_nodes5 fun WP hWP L0 a0 hL ha => ?_
  have N1_4 : ∀ (ga : Nat) (gb : Nat) (gt : Nat) (W' : World), (B9q W' go (.int .i64 1) (.int .i64 ff) (.bool sa) (.slice pa na ca) (.int .i64 ea) (.bool sb) (.slice pb nb cb) (.int .i64 eb) (U wd)) ∧ (Below w.heap.size w W') ∧ (At W' (some ⟨ga, 0, none⟩) na na xa) ∧ (At W' (some ⟨gb, 0, none⟩) nb nb xb) ∧ (B9q W' gt (.int .i64 0) (.int .i64 0) (.bool false) (.slice none 0 0) (.int .i64 0) (.bool false) (.slice none 0 0) (.int .i64 0) (.int .u64 0)) ∧ (w.heap.size ≤ gt) ∧ (go ≠ gt) ∧ (na = 0 ∨ ga ≠ gt) ∧ (nb = 0 ∨ gb ≠ gt) → WP 2 ((L0.setIfInBounds 1 true).setIfInBounds 4 true) ((a0.put (some 34) (.agg #[.int .i64 1, .int .i64 ff, .bool sa, .slice (some ⟨ga, 0, none⟩) na na, .int .i64 ea, .bool sb, .slice (some ⟨gb, 0, none⟩) nb nb, .int .i64 eb, U wd])).put (some 3) (.pointer (some ⟨gt, 0, none⟩))) W' := by
    rintro ga gb gt W' ⟨xo, hbw, ta, tb, xt, ht, nt, oa, ob⟩
    subst hWP hL ha
    have Hxo := Hid.mk5 xo
    have Hta := Hid.mk5 ta
    have Htb := Hid.mk5 tb
    have Hxt := Hid.mk5 xt
    have Hht := Hid.mk5 ht
    have Hnt := Hid.mk5 nt
    have Hoa := Hid.mk5 oa
    have Hob := Hid.mk5 ob
    clear xo ta tb xt ht nt oa ob
    go_simp
    have Xo := Hxo
    have Xt := Hxt
    clear Hxo Hxt
    have q1 := Hnt.out
    have q1' := Ne.symm q1
    have HJ : Hid ((fun W' : World => W'.cell? ⟨go, 0, none⟩ = some (.int .i64 1) ∧ W'.cell? ⟨go, 1, none⟩ = some (.int .i64 ff) ∧ W'.cell? ⟨go, 2, none⟩ = some (.bool sa) ∧ W'.cell? ⟨go, 3, none⟩ = some (.slice pa na ca) ∧ W'.cell? ⟨go, 4, none⟩ = some (.int .i64 ea) ∧ W'.cell? ⟨go, 5, none⟩ = some (.bool sb) ∧ W'.cell? ⟨go, 6, none⟩ = some (.slice pb nb cb) ∧ W'.cell? ⟨go, 7, none⟩ = some (.int .i64 eb) ∧ W'.cell? ⟨go, 8, none⟩ = some (U wd)) W') := ⟨Xo.out.c0, Xo.out.c1, Xo.out.c2, Xo.out.c3, Xo.out.c4, Xo.out.c5, Xo.out.c6, Xo.out.c7, Xo.out.c8⟩
    obtain ⟨co0, co1, co2, co3, co4, co5, co6, co7, co8, fo0, fo1, fo2, fo3, fo4, fo5, fo6, fo7, fo8⟩ := Xo.out
    have hneo : go < W'.heap.size := World.block_lt_of_cell? W' _ co0
    obtain ⟨ct0, ct1, ct2, ct3, ct4, ct5, ct6, ct7, ct8, ft0, ft1, ft2, ft3, ft4, ft5, ft6, ft7, ft8⟩ := Xt.out
    have hnet : gt < W'.heap.size := World.block_lt_of_cell? W' _ ct0
    refine wpJ_on 5 rfl fun KJ hK => ?_
    go_simp
    have Yo : Hid (B9q (((((((((W'.setCell ⟨gt, 0, none⟩ (.int .i64 1)).setCell ⟨gt, 1, none⟩ (.int .i64 ff)).setCell ⟨gt, 2, none⟩ (.bool sa)).setCell ⟨gt, 3, none⟩ (.slice (some ⟨ga, 0, none⟩) na na)).setCell ⟨gt, 4, none⟩ (.int .i64 ea)).setCell ⟨gt, 5, none⟩ (.bool sb)).setCell ⟨gt, 6, none⟩ (.slice (some ⟨gb, 0, none⟩) nb nb)).setCell ⟨gt, 7, none⟩ (.int .i64 eb)).setCell ⟨gt, 8, none⟩ (U wd)) go (.int .i64 1) (.int .i64 ff) (.bool sa) (.slice pa na ca) (.int .i64 ea) (.bool sb) (.slice pb nb cb) (.int .i64 eb) (U wd)) := ⟨by go_simp, by go_simp, by go_simp, by go_simp, by go_simp, by go_simp, by go_simp, by go_simp, by go_simp, by go_simp, by go_simp, by go_simp, by go_simp, by go_simp, by go_simp, by go_simp, by go_simp, by go_simp⟩
    clear co0 co1 co2 co3 co4 co5 co6 co7 co8 fo0 fo1 fo2 fo3 fo4 fo5 fo6 fo7 fo8 hneo
    clear ct0 ct1 ct2 ct3 ct4 ct5 ct6 ct7 ct8 ft0 ft1 ft2 ft3 ft4 ft5 ft6 ft7 ft8 hnet
    have Yt : Hid (B9q (((((((((W'.setCell ⟨gt, 0, none⟩ (.int .i64 1)).setCell ⟨gt, 1, none⟩ (.int .i64 ff)).setCell ⟨gt, 2, none⟩ (.bool sa)).setCell ⟨gt, 3, none⟩ (.slice (some ⟨ga, 0, none⟩) na na)).setCell ⟨gt, 4, none⟩ (.int .i64 ea)).setCell ⟨gt, 5, none⟩ (.bool sb)).setCell ⟨gt, 6, none⟩ (.slice (some ⟨gb, 0, none⟩) nb nb)).setCell ⟨gt, 7, none⟩ (.int .i64 eb)).setCell ⟨gt, 8, none⟩ (U wd)) gt (.int .i64 1) (.int .i64 ff) (.bool sa) (.slice (some ⟨ga, 0, none⟩) na na) (.int .i64 ea) (.bool sb) (.slice (some ⟨gb, 0, none⟩) nb nb) (.int .i64 eb) (U wd)) := Xt.out.set9
    have TA : Hid (At (((((((((W'.setCell ⟨gt, 0, none⟩ (.int .i64 1)).setCell ⟨gt, 1, none⟩ (.int .i64 ff)).setCell ⟨gt, 2, none⟩ (.bool sa)).setCell ⟨gt, 3, none⟩ (.slice (some ⟨ga, 0, none⟩) na na)).setCell ⟨gt, 4, none⟩ (.int .i64 ea)).setCell ⟨gt, 5, none⟩ (.bool sb)).setCell ⟨gt, 6, none⟩ (.slice (some ⟨gb, 0, none⟩) nb nb)).setCell ⟨gt, 7, none⟩ (.int .i64 eb)).setCell ⟨gt, 8, none⟩ (U wd)) (some ⟨ga, 0, none⟩) na na xa) := (at_set9 (at_set9 (at_set9 (at_set9 (at_set9 (at_set9 (at_set9 (at_set9 (at_set9 Hta.out _ _ _ Hoa.out) _ _ _ Hoa.out) _ _ _ Hoa.out) _ _ _ Hoa.out) _ _ _ Hoa.out) _ _ _ Hoa.out) _ _ _ Hoa.out) _ _ _ Hoa.out) _ _ _ Hoa.out)
    have TC : Hid (At (((((((((W'.setCell ⟨gt, 0, none⟩ (.int .i64 1)).setCell ⟨gt, 1, none⟩ (.int .i64 ff)).setCell ⟨gt, 2, none⟩ (.bool sa)).setCell ⟨gt, 3, none⟩ (.slice (some ⟨ga, 0, none⟩) na na)).setCell ⟨gt, 4, none⟩ (.int .i64 ea)).setCell ⟨gt, 5, none⟩ (.bool sb)).setCell ⟨gt, 6, none⟩ (.slice (some ⟨gb, 0, none⟩) nb nb)).setCell ⟨gt, 7, none⟩ (.int .i64 eb)).setCell ⟨gt, 8, none⟩ (U wd)) (some ⟨gb, 0, none⟩) nb nb xb) := (at_set9 (at_set9 (at_set9 (at_set9 (at_set9 (at_set9 (at_set9 (at_set9 (at_set9 Htb.out _ _ _ Hob.out) _ _ _ Hob.out) _ _ _ Hob.out) _ _ _ Hob.out) _ _ _ Hob.out) _ _ _ Hob.out) _ _ _ Hob.out) _ _ _ Hob.out) _ _ _ Hob.out)
    have HJ2 : Hid ((fun W' : World => W'.cell? ⟨go, 0, none⟩ = some (.int .i64 1) ∧ W'.cell? ⟨go, 1, none⟩ = some (.int .i64 ff) ∧ W'.cell? ⟨go, 2, none⟩ = some (.bool sa) ∧ W'.cell? ⟨go, 3, none⟩ = some (.slice pa na ca) ∧ W'.cell? ⟨go, 4, none⟩ = some (.int .i64 ea) ∧ W'.cell? ⟨go, 5, none⟩ = some (.bool sb) ∧ W'.cell? ⟨go, 6, none⟩ = some (.slice pb nb cb) ∧ W'.cell? ⟨go, 7, none⟩ = some (.int .i64 eb) ∧ W'.cell? ⟨go, 8, none⟩ = some (U wd)) (((((((((W'.setCell ⟨gt, 0, none⟩ (.int .i64 1)).setCell ⟨gt, 1, none⟩ (.int .i64 ff)).setCell ⟨gt, 2, none⟩ (.bool sa)).setCell ⟨gt, 3, none⟩ (.slice (some ⟨ga, 0, none⟩) na na)).setCell ⟨gt, 4, none⟩ (.int .i64 ea)).setCell ⟨gt, 5, none⟩ (.bool sb)).setCell ⟨gt, 6, none⟩ (.slice (some ⟨gb, 0, none⟩) nb nb)).setCell ⟨gt, 7, none⟩ (.int .i64 eb)).setCell ⟨gt, 8, none⟩ (U wd))) := ⟨Yo.out.c0, Yo.out.c1, Yo.out.c2, Yo.out.c3, Yo.out.c4, Yo.out.c5, Yo.out.c6, Yo.out.c7, Yo.out.c8⟩
    have hbw2 : Below w.heap.size w (((((((((W'.setCell ⟨gt, 0, none⟩ (.int .i64 1)).setCell ⟨gt, 1, none⟩ (.int .i64 ff)).setCell ⟨gt, 2, none⟩ (.bool sa)).setCell ⟨gt, 3, none⟩ (.slice (some ⟨ga, 0, none⟩) na na)).setCell ⟨gt, 4, none⟩ (.int .i64 ea)).setCell ⟨gt, 5, none⟩ (.bool sb)).setCell ⟨gt, 6, none⟩ (.slice (some ⟨gb, 0, none⟩) nb nb)).setCell ⟨gt, 7, none⟩ (.int .i64 eb)).setCell ⟨gt, 8, none⟩ (U wd)) := below_set9 hbw Hht.out
    refine hK _ _ HJ2.out ?_
    clear hK HJ
    have HJ := HJ2
    clear HJ2
    clear Hta Htb hbw Xo Xt
    have Xo := Yo
    have Xt := Yt
    have hbw := hbw2
    clear hbw2 Yo Yt
    generalize (((((((((W'.setCell ⟨gt, 0, none⟩ (.int .i64 1)).setCell ⟨gt, 1, none⟩ (.int .i64 ff)).setCell ⟨gt, 2, none⟩ (.bool sa)).setCell ⟨gt, 3, none⟩ (.slice (some ⟨ga, 0, none⟩) na na)).setCell ⟨gt, 4, none⟩ (.int .i64 ea)).setCell ⟨gt, 5, none⟩ (.bool sb)).setCell ⟨gt, 6, none⟩ (.slice (some ⟨gb, 0, none⟩) nb nb)).setCell ⟨gt, 7, none⟩ (.int .i64 eb)).setCell ⟨gt, 8, none⟩ (U wd)) = V9 at *
    refine wpJ_tq 6 rfl HJ.out ?_
    refine wpJ_done (by kernel_rfl) ?_ _
    clear HJ
    obtain ⟨co0, co1, co2, co3, co4, co5, co6, co7, co8, fo0, fo1, fo2, fo3, fo4, fo5, fo6, fo7, fo8⟩ := Xo.out
    have hneo : go < V9.heap.size := World.block_lt_of_cell? V9 _ co0
    obtain ⟨ct0, ct1, ct2, ct3, ct4, ct5, ct6, ct7, ct8, ft0, ft1, ft2, ft3, ft4, ft5, ft6, ft7, ft8⟩ := Xt.out
    have hnet : gt < V9.heap.size := World.block_lt_of_cell? V9 _ ct0
    go_wp2_with fail
    clear co0 co1 co2 co3 co4 co5 co6 co7 co8 fo0 fo1 fo2 fo3 fo4 fo5 fo6 fo7 fo8 hneo
    clear ct0 ct1 ct2 ct3 ct4 ct5 ct6 ct7 ct8 ft0 ft1 ft2 ft3 ft4 ft5 ft6 ft7 ft8 hnet
    refine (H1.out _ _ _ _ TA.out (TB.out.below hbw)).mono ?_
    rintro e v2 ⟨rfl, hb2⟩
    replace Xo : Hid (B9q v2 go (.int .i64 1) (.int .i64 ff) (.bool sa) (.slice pa na ca) (.int .i64 ea) (.bool sb) (.slice pb nb cb) (.int .i64 eb) (U wd)) := Xo.out.below hb2
    replace Xt : Hid (B9q v2 gt (.int .i64 1) (.int .i64 ff) (.bool sa) (.slice (some ⟨ga, 0, none⟩) na na) (.int .i64 ea) (.bool sb) (.slice (some ⟨gb, 0, none⟩) nb nb) (.int .i64 eb) (U wd)) := Xt.out.below hb2
    replace TA : Hid _ := TA.out.below hb2
    replace TC : Hid _ := TC.out.below hb2
    replace hbw := Below.on hbw hb2
    clear hb2
    obtain ⟨co0, co1, co2, co3, co4, co5, co6, co7, co8, fo0, fo1, fo2, fo3, fo4, fo5, fo6, fo7, fo8⟩ := Xo.out
    have hneo : go < v2.heap.size := World.block_lt_of_cell? v2 _ co0
    go_wp2_with fail
    clear co0 co1 co2 co3 co4 co5 co6 co7 co8 fo0 fo1 fo2 fo3 fo4 fo5 fo6 fo7 fo8 hneo
    refine (H2.out _ _ _ _ (HA.out.below hbw)).mono ?_
    rintro e v3 ⟨rfl, hb3⟩
    replace Xo : Hid (B9q v3 go (.int .i64 1) (.int .i64 ff) (.bool sa) (.slice pa na ca) (.int .i64 ea) (.bool sb) (.slice pb nb cb) (.int .i64 eb) (U wd)) := Xo.out.below hb3
    replace Xt : Hid (B9q v3 gt (.int .i64 1) (.int .i64 ff) (.bool sa) (.slice (some ⟨ga, 0, none⟩) na na) (.int .i64 ea) (.bool sb) (.slice (some ⟨gb, 0, none⟩) nb nb) (.int .i64 eb) (U wd)) := Xt.out.below hb3
    replace TA : Hid _ := TA.out.below hb3
    replace TC : Hid _ := TC.out.below hb3
    replace hbw := Below.on hbw hb3
    clear hb3
    obtain ⟨co0, co1, co2, co3, co4, co5, co6, co7, co8, fo0, fo1, fo2, fo3, fo4, fo5, fo6, fo7, fo8⟩ := Xo.out
    have hneo : go < v3.heap.size := World.block_lt_of_cell? v3 _ co0
    go_wp2_with fail
    clear co0 co1 co2 co3 co4 co5 co6 co7 co8 fo0 fo1 fo2 fo3 fo4 fo5 fo6 fo7 fo8 hneo
    go_ret
    exact ⟨rfl, hbw⟩
  have N1 : ∀ (ga : Nat) (gb : Nat) (W' : World), (B9q W' go (.int .i64 1) (.int .i64 ff) (.bool sa) (.slice pa na ca) (.int .i64 ea) (.bool sb) (.slice pb nb cb) (.int .i64 eb) (U wd)) ∧ (Below w.heap.size w W') ∧ (At W' (some ⟨ga, 0, none⟩) na na xa) ∧ (At W' (some ⟨gb, 0, none⟩) nb nb xb) → WP 3 (L0.setIfInBounds 1 true) (a0.put (some 34) (.agg #[.int .i64 1, .int .i64 ff, .bool sa, .slice (some ⟨ga, 0, none⟩) na na, .int .i64 ea, .bool sb, .slice (some ⟨gb, 0, none⟩) nb nb, .int .i64 eb, U wd])) W' := by
    rintro ga gb W' ⟨xo, hbw, ta, tb⟩
    subst hWP hL ha
    have Hxo := Hid.mk5 xo
    have Hta := Hid.mk5 ta
    have Htb := Hid.mk5 tb
    clear xo ta tb
    go_simp
    refine wpJ_on 4 rfl fun KJ hK => ?_
    go_simp
    have hb := below1 W' (.cells #[.int .i64 0, .int .i64 0, .bool false, .slice none 0 0, .int .i64 0, .bool false, .slice none 0 0, .int .i64 0, .int .u64 0] 59)
    refine hK _ _ ⟨(Hxo.out.below hb).c0, (Hxo.out.below hb).c1, (Hxo.out.below hb).c2, (Hxo.out.below hb).c3, (Hxo.out.below hb).c4, (Hxo.out.below hb).c5, (Hxo.out.below hb).c6, (Hxo.out.below hb).c7, (Hxo.out.below hb).c8⟩ ?_
    exact wpJ_same5 (by kernel_rfl) (by kernel_rfl) (N1_4 ga gb W'.heap.size _ ⟨(Hxo.out.below hb), (Below.on hbw hb), (Hta.out.below hb), (Htb.out.below hb), (B9q.new W' _ _ _ _ _ _ _ _ _ _), hbw.size, (Nat.ne_of_lt Hxo.out.lt), ((at_blk9 Hta.out).imp id Nat.ne_of_lt), ((at_blk9 Htb.out).imp id Nat.ne_of_lt)⟩)
  have N4 : ∀ (gt : Nat) (W' : World), (B9q W' go (.int .i64 1) (.int .i64 ff) (.bool sa) (.slice pa na ca) (.int .i64 ea) (.bool sb) (.slice pb nb cb) (.int .i64 eb) (U wd)) ∧ (Below w.heap.size w W') ∧ (B9q W' gt (.int .i64 0) (.int .i64 0) (.bool false) (.slice none 0 0) (.int .i64 0) (.bool false) (.slice none 0 0) (.int .i64 0) (.int .u64 0)) ∧ (w.heap.size ≤ gt) ∧ (go ≠ gt) → WP 3 (L0.setIfInBounds 4 true) (a0.put (some 3) (.pointer (some ⟨gt, 0, none⟩))) W' := by
    rintro gt W' ⟨xo, hbw, xt, ht, nt⟩
    subst hWP hL ha
    have Hxo := Hid.mk5 xo
    have Hxt := Hid.mk5 xt
    have Hht := Hid.mk5 ht
    have Hnt := Hid.mk5 nt
    clear xo xt ht nt
    go_simp
    refine wpJ_on 1 rfl fun KJ hK => ?_
    go_simp
    refine (twin8 sa sb (HA.out.below hbw) (HB.out.below hbw) ⟨HN.out.1, HN.out.2.1⟩).mono ?_
    rintro e9 W2 ⟨ga, gb, rfl, hga, hgb, hta, htb, hb⟩
    refine hK _ _ ⟨(Hxo.out.below hb).c0, (Hxo.out.below hb).c1, (Hxo.out.below hb).c2, (Hxo.out.below hb).c3, (Hxo.out.below hb).c4, (Hxo.out.below hb).c5, (Hxo.out.below hb).c6, (Hxo.out.below hb).c7, (Hxo.out.below hb).c8⟩ ?_
    exact wpJ_same5 (by kernel_rfl) (by kernel_rfl) (N1_4 ga gb gt W2 ⟨(Hxo.out.below hb), (Below.on hbw hb), hta, htb, (Hxt.out.below hb), Hht.out, Hnt.out, (.inr (Nat.ne_of_gt (Nat.lt_of_lt_of_le Hxt.out.lt hga))), (.inr (Nat.ne_of_gt (Nat.lt_of_lt_of_le Hxt.out.lt hgb)))⟩)
  have N_ : ∀ (W' : World), (B9q W' go (.int .i64 1) (.int .i64 ff) (.bool sa) (.slice pa na ca) (.int .i64 ea) (.bool sb) (.slice pb nb cb) (.int .i64 eb) (U wd)) ∧ (Below w.heap.size w W') → WP 4 L0 a0 W' := by
    rintro  W' ⟨xo, hbw⟩
    subst hWP hL ha
    have Hxo := Hid.mk5 xo
    clear xo
    go_simp
    refine wpJ_two (i := 1) (k := 4) (by kernel_rfl) rfl rfl (by kernel_rfl) (by kernel_rfl) (fun KJ hK => ?_) (fun KJ hK => ?_)
    · go_simp
      refine (twin8 sa sb (HA.out.below hbw) (HB.out.below hbw) ⟨HN.out.1, HN.out.2.1⟩).mono ?_
      rintro e9 W2 ⟨ga, gb, rfl, hga, hgb, hta, htb, hb⟩
      refine hK _ _ ⟨(Hxo.out.below hb).c0, (Hxo.out.below hb).c1, (Hxo.out.below hb).c2, (Hxo.out.below hb).c3, (Hxo.out.below hb).c4, (Hxo.out.below hb).c5, (Hxo.out.below hb).c6, (Hxo.out.below hb).c7, (Hxo.out.below hb).c8⟩ ?_
      exact wpJ_same5 (by kernel_rfl) (by kernel_rfl) (N1 ga gb W2 ⟨(Hxo.out.below hb), (Below.on hbw hb), hta, htb⟩)
    · go_simp
      have hb := below1 W' (.cells #[.int .i64 0, .int .i64 0, .bool false, .slice none 0 0, .int .i64 0, .bool false, .slice none 0 0, .int .i64 0, .int .u64 0] 59)
      refine hK _ _ ⟨(Hxo.out.below hb).c0, (Hxo.out.below hb).c1, (Hxo.out.below hb).c2, (Hxo.out.below hb).c3, (Hxo.out.below hb).c4, (Hxo.out.below hb).c5, (Hxo.out.below hb).c6, (Hxo.out.below hb).c7, (Hxo.out.below hb).c8⟩ ?_
      exact wpJ_same5 (by kernel_rfl) (by kernel_rfl) (N4 W'.heap.size _ ⟨(Hxo.out.below hb), (Below.on hbw hb), (B9q.new W' _ _ _ _ _ _ _ _ _ _), hbw.size, (Nat.ne_of_lt Hxo.out.lt)⟩)
  exact N_ W1 ⟨Xo.out, hbw⟩
theorem roundNearests_walk {P : Option Addr} {N C : Nat} {its : List Op9} {w : World} (h : Scr8 w P N C its) (hT : Tab w) :
    Calls Tryz.prog 6 #[.slice P N C] w fun en w' => en = .returned (.bool true) ∧ Below w.heap.size w w' := by
  have H : Hid (Scr8 w P N C its) := h
  have TB : Hid (Tab w) := hT
  have hbw : Below w.heap.size w w := Below.refl _ _
  clear h hT
  go_enter Tryz.func6, Tryz.ntmps6
  go_wp2_with fail
  refine (awake8 _ TB.out).mono ?_
  rintro e v22 ⟨rfl, hb22⟩
  replace hbw := Below.on hbw hb22
  clear hb22
  go_wp2_with fail
  refine (all8 (H.out.below hbw) (TB.out.below hbw) ?_).mono ?_
  · intro k h5 h9 pa pb na ca nb cb wd xa xb w ff ea eb sa sb ha hb hn hT
    obtain rfl : k = 1 := by omega
    exact plays8_1 sa sb ha hb hn hT
  rintro e w9 ⟨rfl, hb9⟩
  replace hbw := Below.on hbw hb9
  clear hb9
  go_wp2_with fail
  go_ret
  exact ⟨rfl, hbw⟩
end Go.Proofs.YtfmbifocgljieaaGreatDoor
