import Derived.Test.YtmmgnkhfaiophaaDoorRefOps
import Derived.Test.YtmmgnkhfaiophaaDoorMm0
import Derived.Deep.LoopGhost
namespace Go.Proofs.YtmmgnkhfaiophaaDoor
open Go.RowKit Go.Shelf

theorem divsmall_abs {L x d B V W q r : Nat} (h : V * d + L = W) (hq : L * B + x = q * d + r) : (q + B * V) * d + r = x + B * W := by
  rw [← h, Nat.add_mul, Nat.mul_add]
  have e : B * V * d = B * (V * d) := by rw [Nat.mul_assoc]
  rw [e]
  have e2 : B * L = L * B := Nat.mul_comm _ _
  omega
theorem drop_set_self (qs : List Nat) (j y : Nat) (h : j < qs.length) : (qs.set j y).drop j = y :: qs.drop (j + 1) := by
  rw [List.drop_eq_getElem_cons (by simpa using h), List.getElem_set_self, List.drop_set_of_lt (by omega)]

theorem bSet0 {B : Nat} {a w : World} (h : Below B a w) (g o : Nat) (v : Value) (hB : B ≤ g) : Below B a (w.setCell ⟨g, o, none⟩ v) :=
  h.trans ((Wr.refl g o 1 w).setCell o ⟨by omega, by omega⟩ v |>.below hB)
/-- The state of ref.DivSmall's loop. -/
structure DSm (w : World) (g n d : Nat) (xs : List Nat) (k L : Nat) (qs : List Nat) (wr : World) : Prop where
  bel : Below w.heap.size w wr
  row : Row32 wr g 0 n qs
  lt : L < d
  val : valB B32 (qs.drop k) * d + L = valB B32 (xs.drop k)

set_option maxRecDepth 20000 in
set_option maxHeartbeats 2000000 in
/-- ref.DivSmall. -/
theorem rdivsmall {p : Option Addr} {n c : Nat} {xs : List Nat} {w : World} (h : At32 w p n c xs) (hn : n ≤ 1099511627776) (d : Nat) (hd : 1 ≤ d) (hdb : d < B32) :
    Calls Tryd.prog 86 #[.slice p n c, .int .u32 d] w fun e w' => ∃ p' m' zs r, e = .returned (.tuple #[.slice p' m' m', .int .u32 r]) ∧ At32 w' p' m' m' zs ∧ Nf B32 zs (valB B32 xs / d) ∧ m' ≤ n ∧ Below w.heap.size w w' := by
  obtain ⟨i0, hi, hz0, hz1, hz2⟩ := info_parts Tryd.infoU32
  have HLX : Hid (xs.length = n) := h.len
  have hcap := h.cap; have hbig := h.big
  unfold maxLen at hbig
  have hd0 : ((d : Int) == 0) = false := by simp; omega
  have HDB : Hid (1 ≤ d ∧ d < B32) := ⟨hd, hdb⟩
  have hdw : IntKind.u64.wrap (d : Int) = (d : Int) := wrap_mod _ _ (by rw [B32_eq] at hdb; omega)
  clear hdb
  go_enter Tryd.func86, Tryd.ntmps86
  go_wp2_with (at_make; refine wpList_make_full _ rfl _ _ 95 rfl w.heap.size 127 i0 (.int .u32 0) 1 Tryd.underlying95 hi hz0 hz1 _ _ _ _ n rfl rfl (by omega) (by omega) (by rw [hz2]; omega) (by unfold maxLen; omega) (Nat.le_refl _) ?_; intro w1 hown hgrow; have hb := made_blk32 hown hgrow; clear hown hgrow)
  have HO : Hid (DSm w w.heap.size n d xs n 0 (List.replicate n 0) w1) := by
    have hr := hb.1.row (Dig.replicate B32 n B32_pos)
    rw [List.length_replicate] at hr
    refine ⟨hb.2, hr, by omega, ?_⟩
    rw [List.drop_of_length_le (by rw [List.length_replicate]; exact Nat.le_refl _), List.drop_of_length_le (by rw [HLX.out]; exact Nat.le_refl _)]
    simp [valB]
  clear hb
  go_loopg [7, 8] n (fun gk lv iv wr => ∃ (L : Nat) (z : Int) (qs : List Nat), lv = U L ∧ iv = .int .i64 z ∧ z = (gk : Int) - 1 ∧ gk ≤ n ∧ Hid (DSm w w.heap.size n d xs gk L qs wr))
  case atStart => exact ⟨0, (n : Int) - 1, _, rfl, rfl, rfl, Nat.le_refl _, HO⟩
  case round =>
    obtain ⟨L, z, qs, rfl, rfl, hz, hgn, HR⟩ := hrel
    cases gk with
    | zero =>
      obtain rfl : z = -1 := by omega
      have hR := HR.out
      have A32 : At32 wr (some ⟨w.heap.size, 0, none⟩) n n qs := hR.row.at_ (Nat.le_refl _) (by unfold maxLen; omega)
      have hv := hR.val
      rw [List.drop_zero, List.drop_zero] at hv
      have HV : Hid (valB B32 qs = valB B32 xs / d) := by
        show _ = _
        have h1 := hR.lt
        rw [← hv, Nat.mul_comm, Nat.mul_add_div (by omega), Nat.div_eq_of_lt h1, Nat.add_zero]
      have HNF : Hid (Nf B32 (trimL qs) (valB B32 xs / d)) := by
        have := Nf.trim hR.row.dig
        rw [HV.out] at this; exact this
      have hle := trimL_length_le qs
      have HLE : Hid ((trimL qs).length ≤ n) := by have := hR.row.len; show _ ≤ _; omega
      have hLw : IntKind.u32.wrap (L : Int) = (L : Int) := wrap32 L (by have := hR.lt; have := HDB.out.2; omega)
      have hbx := hR.bel
      clear hR hv hle hz HR
      go_wp2_with fail
      refine (rnorm_any A32 (by omega)).mono ?_
      rintro e w5 ⟨g5, rfl, hg5, hblk5, hb5⟩
      have hd5 := HNF.out.dig
      generalize trimL qs = us at *
      go_wp2_with fail
      go_ret2
      exact ⟨_, _, us, _, rfl, hblk5.at_ hd5 rfl (by have := HLE.out; unfold maxLen; omega), HNF.out, HLE.out, Below.on hbx hb5⟩
    | succ j =>
      obtain rfl : z = (j : Int) := by omega
      obtain ⟨g, off, rfl, hc⟩ := h.cells.resolve_left (by omega)
      obtain ⟨x, hx⟩ : ∃ x, x = xs.getD j 0 := ⟨_, rfl⟩
      have hcx0 : w.cell? ⟨g, off + j, none⟩ = some (V x) := by rw [hx]; exact hc j (by omega)
      have hcx : wr.cell? ⟨g, off + j, none⟩ = some (V x) := (HR.out.bel.cell (p := ⟨g, off + j, none⟩) (World.block_lt_of_cell? w _ hcx0)).trans hcx0
      have hxb : x < B32 := by rw [hx]; exact h.dig.getD B32_pos j
      have hjn : j < n := by omega
      have hct : wr.cell? ⟨w.heap.size, j, none⟩ = some (V (qs.getD j 0)) := by
        have := HR.out.row.cell j hjn
        rw [Nat.zero_add] at this; exact this
      have hft : wr.frozen? ⟨w.heap.size, j, none⟩ = false := by
        have := HR.out.row.frozen j hjn
        rw [Nat.zero_add] at this; exact this
      have hL := HR.out.lt
      have hdB := HDB.out.2
      rw [B32_eq] at hdB hxb
      obtain ⟨T, hT⟩ : ∃ T, T = L * 4294967296 + x := ⟨_, rfl⟩
      obtain ⟨lh, hlh⟩ : ∃ lh, lh = L * 4294967296 := ⟨_, rfl⟩
      have f1 : IntKind.u64.wrap ((L : Int) * 4294967296) = (lh : Int) := wrap_mod _ _ (by omega)
      have f2 : IntKind.u64.wrap ((lh : Int) + (x : Int)) = (T : Int) := wrap_mod _ _ (by omega)
      have fx : IntKind.u64.wrap (x : Int) = (x : Int) := wrap_mod _ _ (by omega)
      obtain ⟨Q, hQ⟩ : ∃ Q, Q = T / d := ⟨_, rfl⟩
      obtain ⟨R, hRr⟩ : ∃ R, R = T % d := ⟨_, rfl⟩
      have q1 : (T : Int).tdiv (d : Int) = (Q : Int) := by rw [hQ, Int.tdiv_eq_ediv_of_nonneg (Int.natCast_nonneg T)]; norm_cast
      have q2 : (T : Int) / (d : Int) = (Q : Int) := by rw [hQ]; norm_cast
      have r1 : (T : Int).tmod (d : Int) = (R : Int) := by rw [hRr, Int.tmod_eq_emod_of_nonneg (Int.natCast_nonneg T)]; norm_cast
      have r2 : (T : Int) % (d : Int) = (R : Int) := by rw [hRr]; norm_cast
      have hRd : R < d := by rw [hRr]; exact Nat.mod_lt _ hd
      have hQB : Q < B32 := by
        rw [hQ, B32_eq]
        refine Nat.div_lt_of_lt_mul ?_
        have : L * 4294967296 + 4294967296 ≤ d * 4294967296 := by
          have := Nat.mul_le_mul_right 4294967296 (show L + 1 ≤ d by omega)
          rw [Nat.add_mul] at this; omega
        omega
      have fq : IntKind.u32.wrap (Q : Int) = (Q : Int) := wrap32 Q hQB
      have fq2 : IntKind.u64.wrap (Q : Int) = (Q : Int) := wrap_mod _ _ (by rw [B32_eq] at hQB; omega)
      have fq3 : (Q : Int) % 4294967296 = (Q : Int) := by rw [B32_eq] at hQB; omega
      have hQR : L * B32 + x = Q * d + R := by rw [B32_eq, ← hT, hQ, hRr, Nat.mul_comm]; exact (Nat.div_add_mod T d).symm
      have HS : Hid (DSm w w.heap.size n d xs j R (qs.set j Q) (wr.setCell ⟨w.heap.size, j, none⟩ (V Q))) := by
        have hR := HR.out
        have hs := hR.row.set j Q hjn hQB
        rw [Nat.zero_add] at hs
        refine ⟨bSet0 hR.bel _ _ _ (Nat.le_refl _), hs, hRd, ?_⟩
        rw [drop_set_self qs j Q (by rw [hR.row.len]; exact hjn), valB_cons, valB_drop B32 xs j (by rw [HLX.out]; exact hjn), ← hx]
        exact divsmall_abs hR.val hQR
      clear hz HR hc hx hcx0 hQ hRr hT hlh hQR hL hdB hxb hRd hQB
      go_wp2_with fail
      go_roundg j
      case measure => omega
      case rel => exact ⟨R, (j : Int) - 1, qs.set j Q, rfl, rfl, rfl, by omega, HS⟩
end Go.Proofs.YtmmgnkhfaiophaaDoor
