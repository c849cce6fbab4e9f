import Derived.Test.YtefbfapnclphlaaDoorNf1
namespace Go.Proofs.YtefbfapnclphlaaDoor
open Go.RowKit Go.Shelf

set_option maxRecDepth 20000 in
set_option maxHeartbeats 1000000 in
theorem docwordD (x : Nat) (hx : x < B64) (w : World) :
    Calls Tryd.prog 45 #[U x] w fun e w' => ∃ p' m' N' us, e = .returned (.slice p' m' N') ∧ At w' p' m' N' us ∧ Nf B64 us x ∧ Below w.heap.size w w' := by
  obtain ⟨lo, hlo⟩ : ∃ lo, lo = x % B32 := ⟨_, rfl⟩
  obtain ⟨hi, hhi⟩ : ∃ hi, hi = x / B32 := ⟨_, rfl⟩
  have hlb : lo < B32 := by rw [hlo]; exact Nat.mod_lt _ B32_pos
  have hhb : hi < B32 := by rw [hhi]; refine Nat.div_lt_of_lt_mul ?_; rw [B32_two]; exact hx
  have e1 : bits .and .u64 (x : Int) 4294967295 = (lo : Int) := by rw [hlo, B32_eq]; exact and32 x (by rw [← B64_eq]; exact hx)
  have e2 : (x : Int) / 4294967296 = (hi : Int) := by rw [hhi, B32_eq]; exact div32 x
  have e3 : IntKind.u32.wrap (lo : Int) = (lo : Int) := wrap32 lo hlb
  have e4 : IntKind.u32.wrap (hi : Int) = (hi : Int) := wrap32 hi hhb
  have HV : Hid (valB B32 [lo, hi] = x) := by show _ = _; simp only [valB, hlo, hhi]; have := Nat.mod_add_div x B32; omega
  have HLB : Hid (lo < B32 ∧ hi < B32) := ⟨hlb, hhb⟩
  clear hlo hhi hlb hhb
  go_enter Tryd.func45, Tryd.ntmps45
  go_wp2_with fail
  have hW : Calls Tryd.prog 65 #[U x] w fun e w' => ∃ g zs, e = .returned (.slice (some ⟨g, 0, none⟩) zs.length zs.length) ∧ zs.length ≤ 2 ∧ At32 w' (some ⟨g, 0, none⟩) zs.length zs.length zs ∧ valB B32 zs = x ∧ Below w.heap.size w w' := by
    go_enter Tryd.func65, Tryd.ntmps65
    go_wp2_with fail
    refine (rnorm_any (lit_at32 w lo hi HLB.out.1 HLB.out.2) (by omega)).mono ?_
    rintro e w1 ⟨g, rfl, hg, hb, hbl⟩
    have hl := trimL_length_le [lo, hi]
    have hA : At32 w1 (some ⟨g, 0, none⟩) (trimL [lo, hi]).length (trimL [lo, hi]).length (trimL [lo, hi]) := hb.at_ (Dig.trimL (lit_at32 w lo hi HLB.out.1 HLB.out.2).dig) rfl (by unfold maxLen; simp at hl; omega)
    have hv : valB B32 (trimL [lo, hi]) = x := by rw [valB_trimL]; exact HV.out
    have HH : Hid (At32 w1 (some ⟨g, 0, none⟩) (trimL [lo, hi]).length (trimL [lo, hi]).length (trimL [lo, hi]) ∧ valB B32 (trimL [lo, hi]) = x ∧ (trimL [lo, hi]).length ≤ 2) := ⟨hA, hv, by simpa using hl⟩
    have hbw := Below.on (below1 w _) hbl
    generalize trimL [lo, hi] = zs at *
    clear hA hv hl hb hbl hg
    go_wp2_with fail
    go_ret
    exact ⟨g, zs, rfl, HH.out.2.2, HH.out.1, HH.out.2.1, hbw⟩
  refine hW.mono ?_
  rintro e w1 ⟨g, zs, rfl, hl, hA, hv, hb1⟩
  have A1 : Hid (At32 w1 (some ⟨g, 0, none⟩) zs.length zs.length zs) := hA
  have V1 : Hid (valB B32 zs = x) := hv
  obtain ⟨l1, hl1⟩ : ∃ l1, l1 = zs.length := ⟨_, rfl⟩
  rw [← hl1] at A1 hl ⊢
  clear hA hv hW hl1 e1 e2 e3 e4
  go_wp2_with fail
  refine (rto_any A1.out (by omega)).mono ?_
  rintro e w2 ⟨g2, k2, N2, us, rfl, hg2, hA2, hN2, hb2⟩
  have A2 : Hid (At w2 (some ⟨g2, 0, none⟩) k2 N2 us) := hA2
  have NN : Hid (Nf B64 us x) := by rw [V1.out] at hN2; exact hN2
  have hbw := Below.on hb1 hb2
  clear hA2 hN2 hb1 hb2
  go_wp2_with fail
  go_ret
  exact ⟨_, k2, N2, us, rfl, A2.out, NN.out, hbw⟩
end Go.Proofs.YtefbfapnclphlaaDoor
