import Derived.Test.YtdkbfffpnpjpiaaBlocks
namespace Go.Proofs.Ytdkbfffpnpjpiaa
open Go.RowKit

theorem dj_fresh {w : World} {p : Option Addr} {n c : Nat} {xs : List Nat} (h : At w p n c xs) (hn : 0 < n) (off m : Nat) : ∀ g2 off2, p = some ⟨g2, off2, none⟩ → Dj g2 off2 n w.heap.size off m :=
  fun g2 off2 hp => .inl (h.fresh (Nat.le_refl _) g2 off2 hn hp)

set_option maxRecDepth 20000 in
set_option maxHeartbeats 2000000 in
theorem mul_of_blk (m : Nat) (hbk : 48 ≤ m → BlkAt m) : MulAt m := by
  intro p q n cn l cl xs ys w hA hB hn hl hn8 hl8 hcase
  have HB : Hid (48 ≤ m → BlkAt m) := hbk
  have al := hA.len; have bl := hB.len
  clear hbk
  obtain ⟨i0, hi, hzz0, hzz1, hzz2⟩ := info_parts Try.infoU64
  by_cases hlt : n < l
  · have hm : n = m := by omega
    subst hm
    go_enter Try.func37, Try.ntmps37
    go_wp2_with (at_make; refine wpList_make_full _ rfl _ _ 23 rfl w.heap.size 27 i0 (.int .u64 0) 1 Try.underlying23 hi hzz0 hzz1 _ _ _ _ (l + n) rfl rfl (by omega) (by omega) (by rw [hzz2]; omega) (by unfold maxLen; omega) (Nat.le_refl _) ?_; intro w1 hown hgrow; have hmk := made_blk hown hgrow; clear hown hgrow)
    all_goals obtain ⟨hblk, hb1⟩ := hmk
    all_goals have hr := hblk.row (Dig.replicate _ _ B64_pos)
    all_goals rw [List.length_replicate] at hr
    all_goals have A1 := hB.below hb1
    all_goals have B1 := hA.below hb1
    · refine (rows_any w.heap.size 0 (l + n) _ q p l cl n cn ys xs _ hr (Nat.le_refl _) (by omega) A1 B1 (by omega) (by omega) (dj_fresh hB (by omega) 0 _) (dj_fresh hA (by omega) 0 _)).mono ?_
      rintro e w2 ⟨zs, rfl, hwr, hrow, hval⟩
      have hb2 : Below w.heap.size w w2 := hb1.trans (hwr.below (Nat.le_refl _))
      clear hwr hb1 hblk hr A1 B1
      have A2 := hrow.at_ (Nat.le_refl _) (by unfold maxLen; omega)
      have hN := Nf.trim hrow.dig
      rw [hval] at hN
      have HV : Hid (Nf B64 (trimL zs) (valB B64 ys * valB B64 xs)) := hN
      clear hval hN
      go_wp2_with fail
      refine (trim_any A2).mono ?_
      rintro e w3 ⟨p', m', rfl, hm', hp', hw⟩
      obtain rfl := hw.symm
      have HM : Hid (m' = (trimL zs).length) := hm'
      clear hw hm'
      go_wp2_with fail
      go_ret
      exact ⟨p', m', trimL zs, rfl, hrow.own (Nat.le_refl _) HM.out hp', by rw [Nat.mul_comm]; exact HV.out, hb2⟩
    · refine (HB.out (by omega) w.heap.size 0 (l + n) l cl cn q p ys xs _ _ hr (valB_replicate _ _) (Nat.le_refl _) (by omega) A1 B1 (by omega) (by omega) (dj_fresh hB (by omega) 0 _) (dj_fresh hA (by omega) 0 _)).mono ?_
      rintro e w2 ⟨zs, rfl, hcg, hrow, hval⟩
      have hb2 : Below w.heap.size w w2 := hb1.trans (hcg.below (fun b o h => by unfold Rg at h; omega) (by have := hblk.lt; omega))
      clear hcg hb1 hblk hr A1 B1
      have A2 := hrow.at_ (Nat.le_refl _) (by unfold maxLen; omega)
      have hN := Nf.trim hrow.dig
      rw [hval] at hN
      have HV : Hid (Nf B64 (trimL zs) (valB B64 ys * valB B64 xs)) := hN
      clear hval hN
      go_wp2_with fail
      refine (trim_any A2).mono ?_
      rintro e w3 ⟨p', m', rfl, hm', hp', hw⟩
      obtain rfl := hw.symm
      have HM : Hid (m' = (trimL zs).length) := hm'
      clear hw hm'
      go_wp2_with fail
      go_ret
      exact ⟨p', m', trimL zs, rfl, hrow.own (Nat.le_refl _) HM.out hp', by rw [Nat.mul_comm]; exact HV.out, hb2⟩
  · have hm : l = m := by omega
    subst hm
    go_enter Try.func37, Try.ntmps37
    go_wp2_with (at_make; refine wpList_make_full _ rfl _ _ 23 rfl w.heap.size 27 i0 (.int .u64 0) 1 Try.underlying23 hi hzz0 hzz1 _ _ _ _ (n + l) rfl rfl (by omega) (by omega) (by rw [hzz2]; omega) (by unfold maxLen; omega) (Nat.le_refl _) ?_; intro w1 hown hgrow; have hmk := made_blk hown hgrow; clear hown hgrow)
    all_goals obtain ⟨hblk, hb1⟩ := hmk
    all_goals have hr := hblk.row (Dig.replicate _ _ B64_pos)
    all_goals rw [List.length_replicate] at hr
    all_goals have A1 := hA.below hb1
    all_goals have B1 := hB.below hb1
    · refine (rows_any w.heap.size 0 (n + l) _ p q n cn l cl xs ys _ hr (Nat.le_refl _) (by omega) A1 B1 (by omega) (by omega) (dj_fresh hA (by omega) 0 _) (dj_fresh hB (by omega) 0 _)).mono ?_
      rintro e w2 ⟨zs, rfl, hwr, hrow, hval⟩
      have hb2 : Below w.heap.size w w2 := hb1.trans (hwr.below (Nat.le_refl _))
      clear hwr hb1 hblk hr A1 B1
      have A2 := hrow.at_ (Nat.le_refl _) (by unfold maxLen; omega)
      have hN := Nf.trim hrow.dig
      rw [hval] at hN
      have HV : Hid (Nf B64 (trimL zs) (valB B64 xs * valB B64 ys)) := hN
      clear hval hN
      go_wp2_with fail
      refine (trim_any A2).mono ?_
      rintro e w3 ⟨p', m', rfl, hm', hp', hw⟩
      obtain rfl := hw.symm
      have HM : Hid (m' = (trimL zs).length) := hm'
      clear hw hm'
      go_wp2_with fail
      go_ret
      exact ⟨p', m', trimL zs, rfl, hrow.own (Nat.le_refl _) HM.out hp', HV.out, hb2⟩
    · refine (HB.out (by omega) w.heap.size 0 (n + l) n cn cl p q xs ys _ _ hr (valB_replicate _ _) (Nat.le_refl _) (by omega) A1 B1 (by omega) (by omega) (dj_fresh hA (by omega) 0 _) (dj_fresh hB (by omega) 0 _)).mono ?_
      rintro e w2 ⟨zs, rfl, hcg, hrow, hval⟩
      have hb2 : Below w.heap.size w w2 := hb1.trans (hcg.below (fun b o h => by unfold Rg at h; omega) (by have := hblk.lt; omega))
      clear hcg hb1 hblk hr A1 B1
      have A2 := hrow.at_ (Nat.le_refl _) (by unfold maxLen; omega)
      have hN := Nf.trim hrow.dig
      rw [hval] at hN
      have HV : Hid (Nf B64 (trimL zs) (valB B64 xs * valB B64 ys)) := hN
      clear hval hN
      go_wp2_with fail
      refine (trim_any A2).mono ?_
      rintro e w3 ⟨p', m', rfl, hm', hp', hw⟩
      obtain rfl := hw.symm
      have HM : Hid (m' = (trimL zs).length) := hm'
      clear hw hm'
      go_wp2_with fail
      go_ret
      exact ⟨p', m', trimL zs, rfl, hrow.own (Nat.le_refl _) HM.out hp', HV.out, hb2⟩

theorem mul_at : ∀ (N m : Nat), m < N → MulAt m := by
  intro N
  induction N with
  | zero => intro m h; omega
  | succ N ih =>
    intro m hm
    exact mul_of_blk m (fun h48 => blk_step m h48 (fun r hr h0 => ih r (by omega)))
/-- natmul.multiply. -/
theorem mult_any {p q : Option Addr} {n cn l cl : Nat} {xs ys : List Nat} {w : World} (hA : At w p n cn xs) (hB : At w q l cl ys) (hn : 0 < n) (hl : 0 < l) (hn8 : n ≤ 8192) (hl8 : l ≤ 8192) :
    Calls Try.prog 37 #[.slice p n cn, .slice q l cl] w fun e w' => ∃ p' m' zs, e = .returned (.slice p' m' m') ∧ Own w.heap.size w' p' m' zs ∧ Nf B64 zs (valB B64 xs * valB B64 ys) ∧ Below w.heap.size w w' :=
  mul_at (min n l + 1) (min n l) (by omega) p q n cn l cl xs ys w hA hB hn hl hn8 hl8 (by omega)
end Go.Proofs.Ytdkbfffpnpjpiaa
