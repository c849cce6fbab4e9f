import Derived.Test.YtdkbfffpnpjpiaaRows2
namespace Go.Proofs.Ytdkbfffpnpjpiaa
open Go.RowKit

theorem cellsU_repl (n : Nat) : List.replicate n (U 0) = cellsU (List.replicate n 0) := by simp [cellsU]
theorem Row.copied {w : World} {g off n : Nat} {zs : List Nat} (h : Row w g off n zs) (xs : List Nat) (hd : Dig B64 xs) (hx : xs.length ≤ n) : Row (w.setCells g off (cellsU xs)) g off n (xs ++ zs.drop xs.length) := by
  have hl := h.len
  refine ⟨by simp; omega, hd.append (h.dig.drop _), fun j hj => ?_, fun j hj => by rw [World.frozen?_setCells]; exact h.frozen j hj⟩
  by_cases e : j < xs.length
  · have h1 := World.cell?_setCells_in g (cellsU xs) off w (fun i hi => by rw [h.cell i (by rw [cellsU_length] at hi; omega)]; rfl) j (by rw [cellsU_length]; exact e)
    rw [h1, List.getD_eq_getElem?_getD, List.getElem?_append_left e, ← List.getD_eq_getElem?_getD]
    have := cellsU_get xs j e
    rw [List.getElem?_eq_getElem (by rw [cellsU_length]; exact e)] at this
    exact this
  · rw [World.cell?_setCells_out g (cellsU xs) off w _ (fun _ _ => .inr (by rw [cellsU_length]; simp; omega)), List.getD_eq_getElem?_getD, List.getElem?_append_right (by omega), List.getElem?_drop, show xs.length + (j - xs.length) = j by omega, ← List.getD_eq_getElem?_getD]
    exact h.cell j hj

set_option maxRecDepth 20000 in
set_option maxHeartbeats 1000000 in
/-- natmul.addHalves: low + high into sum. -/
theorem addh_any (g off k c : Nat) (ss : List Nat) (p q : Option Addr) (cl h ch : Nat) (xs ys : List Nat) (w : World) (hz : Row w g off (k + 1) ss) (hkc : k + 1 ≤ c) (hbig : c ≤ 9223372036854775807)
    (ha : At w p k cl xs) (hb : At w q h ch ys) (hk : 0 < k) (hh : h ≤ k) (hap : ∀ g2 off2, p = some ⟨g2, off2, none⟩ → Dj g2 off2 k g off (k + 1)) (hbp : ∀ g2 off2, 0 < h → q = some ⟨g2, off2, none⟩ → Dj g2 off2 h g off (k + 1)) :
    Calls Try.prog 64 #[.slice (some ⟨g, off, none⟩) (k + 1) c, .slice p k cl, .slice q h ch] w fun e w' =>
      ∃ zs', e = .returned (.tuple #[]) ∧ Wr g off (k + 1) w w' ∧ Row w' g off (k + 1) zs' ∧ valB B64 zs' = valB B64 xs + valB B64 ys := by
  have al := ha.len; have bl := hb.len
  obtain ⟨ga, oa, rfl, hca⟩ := ha.cells.resolve_left (by omega)
  have hda := hap ga oa rfl
  have hcl := run_clear (c := c) hz (by omega)
  have h1 := hz.cleared
  have hW1 : Wr g off (k + 1) w (w.setCells g off (List.replicate (k + 1) (U 0))) := by
    have := Wr.setCells (g := g) (List.replicate (k + 1) (U 0)) off w
    rw [List.length_replicate] at this; exact this
  generalize w.setCells g off (List.replicate (k + 1) (U 0)) = w1 at *
  have hsrc : ∀ j v, (cellsU xs)[j]? = some v → w1.cell? ((⟨ga, oa, none⟩ : Addr).add j) = some v := by
    intro j v hv
    have hj : j < xs.length := by
      have := (List.getElem?_eq_some_iff.1 hv).1
      rwa [cellsU_length] at this
    have hadd : (⟨ga, oa, none⟩ : Addr).add j = ⟨ga, oa + j, none⟩ := by unfold Addr.add; split <;> simp_all
    rw [hadd, hW1.cell ga (oa + j) (by unfold Dj at hda; omega), hca j (by omega)]
    rw [cellsU_get xs j hj] at hv; exact hv
  have hcp : ∀ ty, (Builtin.copy_ #[23, 23] ty #[.slice (some ⟨g, off, none⟩) (k + 1) c, .slice (some ⟨ga, oa, none⟩) k cl]).run Try.prog w1 = .ok (goInt k) (w1.setCells g off (cellsU xs)) := by
    intro ty
    have := run_copy_cells (P := Try.prog) w1 23 23 ty 27 g off (k + 1) c ⟨ga, oa, none⟩ k cl (cellsU xs) Try.underlying23 Try.sizeU64 (by rw [cellsU_length, al]; exact (Nat.min_eq_left (by omega)).symm) hsrc (fun j hj => by rw [h1.cell j (by rw [cellsU_length] at hj; omega)]; rfl) (fun j hj => h1.frozen j (by rw [cellsU_length] at hj; omega)) (cellsU_one xs)
    rw [cellsU_length, al] at this
    exact this
  have h2 := h1.copied xs ha.dig (by omega)
  have hW2 : Wr g off (k + 1) w (w1.setCells g off (cellsU xs)) := by
    have := Wr.setCells (g := g) (cellsU xs) off w1
    rw [cellsU_length, al] at this
    exact hW1.trans (this.mono (Nat.le_refl _) (by omega))
  rw [List.drop_replicate, al] at h2
  generalize w1.setCells g off (cellsU xs) = w2 at *
  have hB2 : At w2 q h ch ys := by
    refine ⟨bl, hb.cap, hb.big, hb.dig, ?_⟩
    by_cases h0 : h = 0
    · exact .inl h0
    · obtain ⟨gb, ob, rfl, hcb⟩ := hb.cells.resolve_left h0
      have hdb := hbp gb ob (by omega) rfl
      exact .inr ⟨gb, ob, rfl, fun j hj => by rw [hW2.cell gb (ob + j) (by unfold Dj at hdb; omega)]; exact hcb j hj⟩
  have HBP : Hid (∀ g2 off2, 0 < h → q = some ⟨g2, off2, none⟩ → g2 ≠ g ∨ off2 + h ≤ off ∨ off + (k + 1) ≤ off2) := by
    intro g2 off2 h0 hq
    have := hbp g2 off2 h0 hq; unfold Dj at this; omega
  clear hsrc hap hbp hda hz h1 hW1
  go_enter Try.func64, Try.ntmps64
  go_wp2_with fail
  refine (ladd_any g off (k + 1) c _ q h ch ys _ h2 hkc hbig hB2 (by omega) HBP.out).mono ?_
  rintro e w3 ⟨cy, zs, rfl, hcy, hwr, hrow, hsum⟩
  go_wp2_with fail
  go_end0
  refine ⟨zs, rfl, hW2.trans hwr, hrow, ?_⟩
  rw [valB_append_zeros] at hsum
  have b1 := valB_lt B64_pos ha.dig
  have b2 := valB_lt B64_pos hb.dig
  rw [al] at b1
  rw [bl] at b2
  refine add_abs hsum b1 b2 (Nat.pow_le_pow_right B64_pos hh) ?_
  rw [Nat.pow_succ]; exact Nat.mul_le_mul_left _ B64_two

/-- What karatsuba needs of scratch. -/
def scrF : Nat → Nat → Nat
  | 0, _ => 0
  | f + 1, n => if n < 48 then 0 else 4 * ((n + 1) / 2 + 1) + scrF f ((n + 1) / 2 + 1)
theorem scrF_fuel : ∀ (f g n : Nat), n ≤ f → n ≤ g → scrF f n = scrF g n := by
  intro f
  induction f with
  | zero => intro g n h1 h2
            have : n = 0 := by omega
            subst this
            cases g <;> simp [scrF]
  | succ f ih =>
    intro g n h1 h2
    cases g with
    | zero => have : n = 0 := by omega
              subst this; simp [scrF]
    | succ g =>
      simp only [scrF]
      by_cases h : n < 48
      · simp [h]
      · rw [if_neg h, if_neg h, ih g _ (by omega) (by omega)]
def scr (n : Nat) : Nat := scrF n n
theorem scr_lt {n : Nat} (h : n < 48) : scr n = 0 := by
  unfold scr
  cases n with
  | zero => rfl
  | succ n => simp [scrF, h]
theorem scr_ge {n : Nat} (h : ¬ n < 48) : scr n = 4 * ((n + 1) / 2 + 1) + scr ((n + 1) / 2 + 1) := by
  unfold scr
  obtain ⟨m, rfl⟩ : ∃ m, n = m + 1 := ⟨n - 1, by omega⟩
  rw [scrF, if_neg h, scrF_fuel m ((m + 1 + 1) / 2 + 1) _ (by omega) (Nat.le_refl _)]
theorem scr_le : ∀ (N n : Nat), n < N → scr n ≤ 8 * n := by
  intro N
  induction N with
  | zero => intro n h; omega
  | succ N ih =>
    intro n hn
    by_cases h : n < 48
    · rw [scr_lt h]; omega
    · rw [scr_ge h]
      have := ih ((n + 1) / 2 + 1) (by omega)
      omega
theorem scr_mono : ∀ (N m n : Nat), n < N → m ≤ n → scr m ≤ scr n := by
  intro N
  induction N with
  | zero => intro m n h; omega
  | succ N ih =>
    intro m n hn hm
    by_cases h : m < 48
    · rw [scr_lt h]; omega
    · rw [scr_ge h, scr_ge (show ¬ n < 48 by omega)]
      have := ih ((m + 1) / 2 + 1) ((n + 1) / 2 + 1) (by omega) (by omega)
      omega

set_option maxRecDepth 20000 in
set_option maxHeartbeats 400000 in
theorem scr_any (n : Nat) (w : World) (hn : n ≤ 1000000) : Calls Try.prog 60 #[.int .i64 n] w fun e w' => e = .returned (.int .i64 (scr n)) ∧ w' = w := by
  have hb := scr_le (n + 1) n (by omega)
  go_enter Try.func60, Try.ntmps60
  go_wp2_with fail
  go_loop [0, 3] (fun a t => ∃ m s : Nat, a = .int .i64 m ∧ t = .int .i64 s ∧ m ≤ n ∧ s + scr m = scr n) (fun a _ => (intOf a).toNat)
  case atStart => exact ⟨n, 0, rfl, rfl, Nat.le_refl _, by omega⟩
  case round =>
    obtain ⟨m, s, rfl, rfl, hm, hs⟩ := hrel
    by_cases h : 48 ≤ m
    · have e := scr_ge (show ¬ m < 48 by omega)
      have hsb : s + 4 * ((m + 1) / 2 + 1) ≤ 8000000 := by omega
      have HS : Hid (s + 4 * ((m + 1) / 2 + 1) + scr ((m + 1) / 2 + 1) = scr n) := by show _ = _; omega
      clear hs e
      go_wp2_with fail
      go_round
      case rel => exact ⟨(m + 1) / 2 + 1, s + 4 * ((m + 1) / 2 + 1), by go_num, by go_num, by omega, HS.out⟩
      case measure => simp [intOf]; omega
    · have e := scr_lt (show m < 48 by omega)
      have HS : Hid (s = scr n) := by show _ = _; omega
      clear hs e
      go_wp2_with fail
      go_ret
      exact ⟨ret_int (by rw [HS.out]), rfl⟩
end Go.Proofs.Ytdkbfffpnpjpiaa
