import Derived.Test.YtdkbfffpnpjpiaaRefOps
import Derived.Test.YtdkbfffpnpjpiaaMm0
import Derived.Deep.LoopGhost
import Derived.Deep.RegionWith
import Derived.Test.YtdkbfffpnpjpiaaRAdd
import Derived.Test.YtdkbfffpnpjpiaaParts2
import Derived.Test.YtdkbfffpnpjpiaaMm2
import Derived.Test.YtdkbfffpnpjpiaaMm4
import Derived.Deep.DeepCutAuto
namespace Go.Proofs.Ytdkbfffpnpjpiaa
open Go.RowKit Go.Shelf

-- of Mp1
theorem lit_at32 (w : World) (x y : Nat) (hx : x < B32) (hy : y < B32) : At32 (w.alloc (.cells #[V x, V y] 77)) (some ⟨w.heap.size, 0, none⟩) 2 2 [x, y] := by
  refine ⟨rfl, Nat.le_refl _, by decide, ?_, .inr ⟨w.heap.size, 0, rfl, ?_⟩⟩
  · intro z hz
    simp at hz
    rcases hz with rfl | rfl <;> assumption
  · intro j hj
    match j, hj with
    | 0, _ => exact World.cell?_alloc_new ..
    | 1, _ => exact World.cell?_alloc_new ..
theorem nf32_one : Nf B32 [1] 1 := ⟨by intro x hx; simp at hx; subst hx; decide, by intro x hx; simp at hx; omega, by simp [valB]⟩


-- Mq1
theorem divsmall_abs {L x d B V W q r : Nat} (h : V * d + L = W) (hq : L * B + x = q * d + r) : (q + B * V) * d + r = x + B * W := by
  rw [← h, Nat.add_mul, Nat.mul_add]
  have e : B * V * d = B * (V * d) := by rw [Nat.mul_assoc]
  rw [e]
  have e2 : B * L = L * B := Nat.mul_comm _ _
  omega
theorem drop_set_self (qs : List Nat) (j y : Nat) (h : j < qs.length) : (qs.set j y).drop j = y :: qs.drop (j + 1) := by
  rw [List.drop_eq_getElem_cons (by simpa using h), List.getElem_set_self, List.drop_set_of_lt (by omega)]

theorem bSet0 {B : Nat} {a w : World} (h : Below B a w) (g o : Nat) (v : Value) (hB : B ≤ g) : Below B a (w.setCell ⟨g, o, none⟩ v) :=
  h.trans ((Wr.refl g o 1 w).setCell o ⟨by omega, by omega⟩ v |>.below hB)
/-- The state of ref.DivSmall's loop. -/
structure DSm (w : World) (g n d : Nat) (xs : List Nat) (k L : Nat) (qs : List Nat) (wr : World) : Prop where
  bel : Below w.heap.size w wr
  row : Row32 wr g 0 n qs
  lt : L < d
  val : valB B32 (qs.drop k) * d + L = valB B32 (xs.drop k)

set_option maxRecDepth 20000 in
set_option maxHeartbeats 2000000 in
/-- ref.DivSmall. -/
theorem rdivsmall {p : Option Addr} {n c : Nat} {xs : List Nat} {w : World} (h : At32 w p n c xs) (hn : n ≤ 1099511627776) (d : Nat) (hd : 1 ≤ d) (hdb : d < B32) :
    Calls Try.prog 58 #[.slice p n c, .int .u32 d] w fun e w' => ∃ p' m' zs r, e = .returned (.tuple #[.slice p' m' m', .int .u32 r]) ∧ At32 w' p' m' m' zs ∧ Nf B32 zs (valB B32 xs / d) ∧ m' ≤ n ∧ Below w.heap.size w w' := by
  obtain ⟨i0, hi, hz0, hz1, hz2⟩ := info_parts Try.infoU32
  have HLX : Hid (xs.length = n) := h.len
  have hcap := h.cap; have hbig := h.big
  unfold maxLen at hbig
  have hd0 : ((d : Int) == 0) = false := by simp; omega
  have HDB : Hid (1 ≤ d ∧ d < B32) := ⟨hd, hdb⟩
  have hdw : IntKind.u64.wrap (d : Int) = (d : Int) := wrap_mod _ _ (by rw [B32_eq] at hdb; omega)
  clear hdb
  go_enter Try.func58, Try.ntmps58
  go_wp2_with (at_make; refine wpList_make_full _ rfl _ _ 64 rfl w.heap.size 77 i0 (.int .u32 0) 1 Try.underlying64 hi hz0 hz1 _ _ _ _ n rfl rfl (by omega) (by omega) (by rw [hz2]; omega) (by unfold maxLen; omega) (Nat.le_refl _) ?_; intro w1 hown hgrow; have hb := made_blk32 hown hgrow; clear hown hgrow)
  have HO : Hid (DSm w w.heap.size n d xs n 0 (List.replicate n 0) w1) := by
    have hr := hb.1.row (Dig.replicate B32 n B32_pos)
    rw [List.length_replicate] at hr
    refine ⟨hb.2, hr, by omega, ?_⟩
    rw [List.drop_of_length_le (by rw [List.length_replicate]; exact Nat.le_refl _), List.drop_of_length_le (by rw [HLX.out]; exact Nat.le_refl _)]
    simp [valB]
  clear hb
  go_loopg [7, 8] n (fun gk lv iv wr => ∃ (L : Nat) (z : Int) (qs : List Nat), lv = U L ∧ iv = .int .i64 z ∧ z = (gk : Int) - 1 ∧ gk ≤ n ∧ Hid (DSm w w.heap.size n d xs gk L qs wr))
  case atStart => exact ⟨0, (n : Int) - 1, _, rfl, rfl, rfl, Nat.le_refl _, HO⟩
  case round =>
    obtain ⟨L, z, qs, rfl, rfl, hz, hgn, HR⟩ := hrel
    cases gk with
    | zero =>
      obtain rfl : z = -1 := by omega
      have hR := HR.out
      have A32 : At32 wr (some ⟨w.heap.size, 0, none⟩) n n qs := hR.row.at_ (Nat.le_refl _) (by unfold maxLen; omega)
      have hv := hR.val
      rw [List.drop_zero, List.drop_zero] at hv
      have HV : Hid (valB B32 qs = valB B32 xs / d) := by
        show _ = _
        have h1 := hR.lt
        rw [← hv, Nat.mul_comm, Nat.mul_add_div (by omega), Nat.div_eq_of_lt h1, Nat.add_zero]
      have HNF : Hid (Nf B32 (trimL qs) (valB B32 xs / d)) := by
        have := Nf.trim hR.row.dig
        rw [HV.out] at this; exact this
      have hle := trimL_length_le qs
      have HLE : Hid ((trimL qs).length ≤ n) := by have := hR.row.len; show _ ≤ _; omega
      have hLw : IntKind.u32.wrap (L : Int) = (L : Int) := wrap32 L (by have := hR.lt; have := HDB.out.2; omega)
      have hbx := hR.bel
      clear hR hv hle hz HR
      go_wp2_with fail
      refine (rnorm_any A32 (by omega)).mono ?_
      rintro e w5 ⟨g5, rfl, hg5, hblk5, hb5⟩
      have hd5 := HNF.out.dig
      generalize trimL qs = us at *
      go_wp2_with fail
      go_ret2
      exact ⟨_, _, us, _, rfl, hblk5.at_ hd5 rfl (by have := HLE.out; unfold maxLen; omega), HNF.out, HLE.out, Below.on hbx hb5⟩
    | succ j =>
      obtain rfl : z = (j : Int) := by omega
      obtain ⟨g, off, rfl, hc⟩ := h.cells.resolve_left (by omega)
      obtain ⟨x, hx⟩ : ∃ x, x = xs.getD j 0 := ⟨_, rfl⟩
      have hcx0 : w.cell? ⟨g, off + j, none⟩ = some (V x) := by rw [hx]; exact hc j (by omega)
      have hcx : wr.cell? ⟨g, off + j, none⟩ = some (V x) := (HR.out.bel.cell (p := ⟨g, off + j, none⟩) (World.block_lt_of_cell? w _ hcx0)).trans hcx0
      have hxb : x < B32 := by rw [hx]; exact h.dig.getD B32_pos j
      have hjn : j < n := by omega
      have hct : wr.cell? ⟨w.heap.size, j, none⟩ = some (V (qs.getD j 0)) := by
        have := HR.out.row.cell j hjn
        rw [Nat.zero_add] at this; exact this
      have hft : wr.frozen? ⟨w.heap.size, j, none⟩ = false := by
        have := HR.out.row.frozen j hjn
        rw [Nat.zero_add] at this; exact this
      have hL := HR.out.lt
      have hdB := HDB.out.2
      rw [B32_eq] at hdB hxb
      obtain ⟨T, hT⟩ : ∃ T, T = L * 4294967296 + x := ⟨_, rfl⟩
      obtain ⟨lh, hlh⟩ : ∃ lh, lh = L * 4294967296 := ⟨_, rfl⟩
      have f1 : IntKind.u64.wrap ((L : Int) * 4294967296) = (lh : Int) := wrap_mod _ _ (by omega)
      have f2 : IntKind.u64.wrap ((lh : Int) + (x : Int)) = (T : Int) := wrap_mod _ _ (by omega)
      have fx : IntKind.u64.wrap (x : Int) = (x : Int) := wrap_mod _ _ (by omega)
      obtain ⟨Q, hQ⟩ : ∃ Q, Q = T / d := ⟨_, rfl⟩
      obtain ⟨R, hRr⟩ : ∃ R, R = T % d := ⟨_, rfl⟩
      have q1 : (T : Int).tdiv (d : Int) = (Q : Int) := by rw [hQ, Int.tdiv_eq_ediv_of_nonneg (Int.natCast_nonneg T)]; norm_cast
      have q2 : (T : Int) / (d : Int) = (Q : Int) := by rw [hQ]; norm_cast
      have r1 : (T : Int).tmod (d : Int) = (R : Int) := by rw [hRr, Int.tmod_eq_emod_of_nonneg (Int.natCast_nonneg T)]; norm_cast
      have r2 : (T : Int) % (d : Int) = (R : Int) := by rw [hRr]; norm_cast
      have hRd : R < d := by rw [hRr]; exact Nat.mod_lt _ hd
      have hQB : Q < B32 := by
        rw [hQ, B32_eq]
        refine Nat.div_lt_of_lt_mul ?_
        have : L * 4294967296 + 4294967296 ≤ d * 4294967296 := by
          have := Nat.mul_le_mul_right 4294967296 (show L + 1 ≤ d by omega)
          rw [Nat.add_mul] at this; omega
        omega
      have fq : IntKind.u32.wrap (Q : Int) = (Q : Int) := wrap32 Q hQB
      have fq2 : IntKind.u64.wrap (Q : Int) = (Q : Int) := wrap_mod _ _ (by rw [B32_eq] at hQB; omega)
      have fq3 : (Q : Int) % 4294967296 = (Q : Int) := by rw [B32_eq] at hQB; omega
      have hQR : L * B32 + x = Q * d + R := by rw [B32_eq, ← hT, hQ, hRr, Nat.mul_comm]; exact (Nat.div_add_mod T d).symm
      have HS : Hid (DSm w w.heap.size n d xs j R (qs.set j Q) (wr.setCell ⟨w.heap.size, j, none⟩ (V Q))) := by
        have hR := HR.out
        have hs := hR.row.set j Q hjn hQB
        rw [Nat.zero_add] at hs
        refine ⟨bSet0 hR.bel _ _ _ (Nat.le_refl _), hs, hRd, ?_⟩
        rw [drop_set_self qs j Q (by rw [hR.row.len]; exact hjn), valB_cons, valB_drop B32 xs j (by rw [HLX.out]; exact hjn), ← hx]
        exact divsmall_abs hR.val hQR
      clear hz HR hc hx hcx0 hQ hRr hT hlh hQR hL hdB hxb hRd hQB
      go_wp2_with fail
      go_roundg j
      case measure => omega
      case rel => exact ⟨R, (j : Int) - 1, qs.set j Q, rfl, rfl, rfl, by omega, HS⟩

-- Mq2
theorem At32.drop {w : World} {g off n c : Nat} {xs : List Nat} (h : At32 w (some ⟨g, off, none⟩) n c xs) (k : Nat) (hk : k < n) : At32 w (some ⟨g, off + k, none⟩) (n - k) (c - k) (xs.drop k) := by
  refine ⟨by rw [List.length_drop, h.len], by have := h.cap; omega, by have := h.big; unfold maxLen at *; omega, h.dig.drop k, .inr ⟨g, off + k, rfl, fun j hj => ?_⟩⟩
  rcases h.cells with h0 | ⟨g', off', he, hc⟩
  · omega
  · simp only [Option.some.injEq, Addr.mk.injEq, and_true] at he
    obtain ⟨rfl, rfl⟩ := he
    have := hc (k + j) (by omega)
    rw [Nat.add_assoc, this]
    congr 2
    simp [List.getD_eq_getElem?_getD, List.getElem?_drop]
theorem drop_div32 {xs : List Nat} {v k : Nat} (hx : Nf B32 xs v) (hk : k ≤ xs.length) : valB B32 (xs.drop k) = v / B32 ^ k := by
  have h1 := valB_split B32 xs k hk
  have h2 := valB_lt B32_pos (hx.dig.take k)
  rw [List.length_take, Nat.min_eq_left hk] at h2
  rw [← hx.val, h1, Nat.add_mul_div_left _ _ (Nat.pow_pos B32_pos), Nat.div_eq_of_lt h2, Nat.zero_add]
theorem take_mod32 {xs : List Nat} {v k : Nat} (hx : Nf B32 xs v) (hk : k ≤ xs.length) : valB B32 (xs.take k) = v % B32 ^ k := by
  have h1 := valB_split B32 xs k hk
  have h2 := valB_lt B32_pos (hx.dig.take k)
  rw [List.length_take, Nat.min_eq_left hk] at h2
  rw [← hx.val, h1, Nat.add_mul_mod_self_left, Nat.mod_eq_of_lt h2]

set_option maxRecDepth 20000 in
set_option maxHeartbeats 1000000 in
theorem rword0 (w : World) : Calls Try.prog 43 #[.int .u64 0] w fun e w' => ∃ g, e = .returned (.slice (some ⟨g, 0, none⟩) 0 0) ∧ Below w.heap.size w w' := by
  go_enter Try.func43, Try.ntmps43
  go_wp2_with fail
  refine (rnorm_any (lit_at32 w 0 0 (by decide) (by decide)) (by omega)).mono ?_
  rw [show trimL [0, 0] = [] from by decide]
  rintro e w1 ⟨g, rfl, hg, hb, hbl⟩
  have hbw := Below.on (below1 w _) hbl
  clear hb hbl
  go_wp2_with fail
  go_ret
  exact ⟨g, rfl, hbw⟩
theorem nf32_nil : Nf B32 [] 0 := ⟨Dig.nil _, by intro x hx; simp at hx, rfl⟩

set_option maxRecDepth 20000 in
set_option maxHeartbeats 2000000 in
/-- ref.Shr by whole limbs. -/
theorem rshr64 {p : Option Addr} {n c : Nat} {xs : List Nat} {v : Nat} {w : World} (h : At32 w p n c xs) (hx : Nf B32 xs v) (hn : n ≤ 16384) (k : Nat) (hk : 1 ≤ k) (hk2 : k ≤ 8192) (N : Nat) (hN : N = 64 * k) :
    Calls Try.prog 49 #[.slice p n c, .int .i64 N] w fun e w' => ∃ p' m' zs, e = .returned (.slice p' m' m') ∧ At32 w' p' m' m' zs ∧ Nf B32 zs (v / B64 ^ k) ∧ m' ≤ n ∧ Below w.heap.size w w' := by
  have HX : Hid (Nf B32 xs v) := hx
  have hl := h.len
  have cap := h.cap
  have big := h.big
  unfold maxLen at big
  obtain ⟨D, hD⟩ : ∃ D, D = 2 * k := ⟨_, rfl⟩
  have d1 : (N : Int).tdiv 32 = (D : Int) := by rw [Int.tdiv_eq_ediv_of_nonneg (by omega)]; omega
  have d2 : (N : Int).tmod 32 = 0 := by rw [Int.tmod_eq_emod_of_nonneg (by omega)]; omega
  have hNp : ¬ (N : Int) ≤ 0 := by omega
  have hN0 : ¬ N = 0 := by omega
  have hDb : D ≤ 16384 := by omega
  have hD0 : ¬ D = 0 := by omega
  have hD1 : 0 < D := by omega
  have hwD : IntKind.i64.wrap (D : Int) = (D : Int) := by simp [IntKind.wrap, IntKind.signed, IntKind.bits]; omega
  have hNb : decide (N = 0) = false := decide_eq_false hN0
  have HD : Hid (B64 ^ k = B32 ^ D) := by rw [hD]; exact B64_sq k
  have HLX : Hid (xs.length = n) := hl
  clear hx hD hN hl
  by_cases hc : n ≤ D
  · have hci : (n : Int) ≤ (D : Int) := by omega
    have hcb : decide (n ≤ D) = true := decide_eq_true hc
    have HZ : Hid (v / B64 ^ k = 0) := by
      show _ = _
      rw [HD.out]
      refine Nat.div_eq_of_lt ?_
      exact nf32_lt HX.out (by rw [HLX.out]; exact hc)
    clear h
    go_enter Try.func49, Try.ntmps49
    go_wp2_with fail
    refine (rword0 w).mono ?_
    rintro e w1 ⟨g, rfl, hb⟩
    go_wp2_with fail
    go_ret
    exact ⟨_, 0, [], rfl, At32.empty _ _ 0 (by decide), by rw [HZ.out]; exact nf32_nil, by omega, hb⟩
  · have hci : ¬ (n : Int) ≤ (D : Int) := by omega
    have hcb : decide (n ≤ D) = false := decide_eq_false hc
    have hDn : D < n := by omega
    have hDc : D < c := by omega
    have hDc2 : D ≤ c := by omega
    have hcD : ¬ c = D := by omega
    have hcD2 : ¬ c - D = 0 := by omega
    have hnD2 : ¬ n - D = 0 := by omega
    have hDn2 : D ≤ n := by omega
    obtain ⟨g, off, rfl, hcs⟩ := h.cells.resolve_left (by omega)
    have A1 : Hid (At32 w (some ⟨g, off + D, none⟩) (n - D) (c - D) (xs.drop D)) := h.drop D hDn
    have HV : Hid (valB B32 (xs.drop D) = v / B64 ^ k) := by rw [HD.out]; exact drop_div32 HX.out (by rw [HLX.out]; omega)
    clear h hcs
    go_enter Try.func49, Try.ntmps49
    go_wp2_with fail
    have A1d : Hid (At32 w.drew (some ⟨g, off + D, none⟩) (n - D) (c - D) (xs.drop D)) := A1.out.drewN 1
    have hbd : Below w.heap.size w w.drew := bDrew (Below.refl _ _)
    clear A1
    (go_region_with (go_at_call 58; rw [show Value.int IntKind.u32 (IntKind.u32.wrap 1) = .int .u32 ((1 : Nat) : Int) from rfl]; refine (rdivsmall A1d.out (by omega) 1 (by omega) (by decide)).mono ?_; rintro e w1 ⟨p1, m1, z1, r1, rfl, hA1, hN1, hm1, hb1⟩; have A2 : Hid (At32 w1 p1 m1 m1 z1) := hA1; have N2 : Hid (Nf B32 z1 (v / B64 ^ k)) := (by rw [Nat.div_one, HV.out] at hN1; exact hN1); have hbw : Below w.heap.size w w1 := Below.on hbd hb1; have hm1' : m1 ≤ n := (by omega); clear hA1 hN1 hb1))
    all_goals
      (go_wp2_with fail
       go_ret
       exact ⟨p1, m1, z1, rfl, A2.out, N2.out, hm1', hbw⟩)

-- Mq3
theorem Blk32.own {w : World} {g base : Nat} {xs : List Nat} (h : Blk32 w g xs) (hb : base ≤ g) (hm : xs.length ≤ maxLen) : w.ownsRow base 77 1 (.slice (some ⟨g, 0, none⟩) xs.length xs.length) xs.length (cellsV xs) :=
  ⟨by simp [cellsV], .inr ⟨g, xs.length, (cellsV xs).toArray, rfl, hb, h, Nat.le_refl _, hm, by simp [cellsV], by rw [Nat.mul_one]; exact List.take_of_length_le (by simp [cellsV])⟩⟩
theorem own_at32q {wr : World} {base i N : Nat} {p : Option Addr} {ss : List Nat} (ho : wr.ownsRow base 77 1 (.slice p i N) i (cellsV ss)) (hl : ss.length = i) (hd : Dig B32 ss) : At32 wr p i N ss := by
  rcases ho.2 with ⟨h', h0⟩ | ⟨g', cap', cur, h', hbase, hgc, hcap', hmx, hsz, htake⟩
  · simp only [Value.slice.injEq] at h'
    obtain ⟨rfl, rfl, rfl⟩ := h'
    obtain rfl : ss = [] := List.eq_nil_of_length_eq_zero hl
    exact At32.empty _ _ 0 (by decide)
  · simp only [Value.slice.injEq, true_and] at h'
    obtain ⟨rfl, rfl⟩ := h'
    refine ⟨hl, hcap', hmx, hd, .inr ⟨g', 0, rfl, fun jj hj => ?_⟩⟩
    rw [Nat.zero_add, cell_of_row wr g' jj _ _ _ hgc]
    have e1 := cellsV_get ss jj (by rw [hl]; exact hj)
    rw [← htake, Nat.mul_one, List.getElem?_take, if_pos hj] at e1
    rw [← Array.getElem?_toList]; exact e1
theorem own_form {wr : World} {base i : Nat} {v : Value} {e : TypeId} {xs : List Value} (ho : wr.ownsRow base e 1 v i xs) : ∃ p N, v = .slice p i N := by
  rcases ho.2 with ⟨h', h0⟩ | ⟨g', cap', cur, h', _⟩
  · subst h0; exact ⟨none, 0, h'⟩
  · exact ⟨_, _, h'⟩

theorem own_base {wr : World} {base i : Nat} {v : Value} {e : TypeId} {xs : List Value} (ho : wr.ownsRow base e 1 v i xs) : ∀ q, v.ownBlock = some q → base ≤ q := by
  intro q hq
  rcases ho.2 with ⟨h', h0⟩ | ⟨g', cap', cur, h', hb, _⟩
  · rw [h'] at hq; simp [Value.ownBlock] at hq
  · rw [h'] at hq; simp [Value.ownBlock] at hq; omega
/-- append into a row of one's own that may grow, as one step of a region that draws. -/
theorem step_append_ownq {P : Program} {ops : Array Oper} {o : Oper} {a : Act} {w : World} {K : Act → World → Prop} {Q : Exit → Act → World → Prop} {E : Prop}
    (hg : o.guard = none) (s x : Operand) (t : TypeId) (hop : o.op = Op.call { callee := Callee.builtin Builtin.append, args := #[s, x], argTypes := #[t, t] })
    (base : Nat) (e : TypeId) (i : TypeInfo) (z : Value) (size bytes : Nat) (ht : P.underlying t = some (.slice e)) (hi : P.info? e = some i) (hz : i.zero = some z)
    (hsize : i.size = size) (hby : i.bytes = bytes) (hzs : z.cells.size = size) (hsz : 0 < size)
    (v : Value) (n : Nat) (xs : List Value) (hs : a.eval s = v) (hown : w.ownsRow base e size v n xs)
    (ad : Addr) (m c : Nat) (news : List Value) (hx : a.eval x = .slice (some ad) m c) (hl : news.length = m * size) (hnews : ∀ j u, news[j]? = some u → w.cell? (ad.add j) = some u) (h1 : ∀ u ∈ news, u.oneCell' = true)
    (h63 : n + m ≤ maxLen) (hbytes : (n + m) * bytes ≤ 140737488355328) (hbase : base ≤ w.heap.size)
    (hK : ∀ v' w', w'.ownsRow base e size v' (n + m) (xs ++ news) → w.grownBy w' v.ownBlock → K (a.put o.dst v') w') :
    if Region.wanted o (yielded ops a.tmps) = true then Oper.wp P o a w K Q else E := by
  have hw : Region.wanted o (yielded ops a.tmps) = true := by simp [Region.wanted, hg]
  rw [if_pos hw]
  obtain ⟨v', w', hr, h2, h3, h4⟩ := run_append_own (P := P) w base t o.type e i z size bytes ht hi hz hsize hby hzs hsz v n xs hown ad m c news hl hnews h1 h63 hbytes hbase
  unfold Oper.wp
  simp [execOp, hop, resolve, invoke, builtin, hs, hx, hr, Result.andThen]
  exact hK _ _ h2 h3

set_option maxRecDepth 20000 in
set_option maxHeartbeats 2000000 in
/-- ref.Low by whole limbs. -/
theorem rlow64 {p : Option Addr} {n c : Nat} {xs : List Nat} {v : Nat} {w : World} (h : At32 w p n c xs) (hx : Nf B32 xs v) (hn : n ≤ 16384) (k : Nat) (hk : 1 ≤ k) (hk2 : k ≤ 8192) (N : Nat) (hN : N = 64 * k) :
    Calls Try.prog 48 #[.slice p n c, .int .i64 N] w fun e w' => ∃ p' m' zs, e = .returned (.slice p' m' m') ∧ At32 w' p' m' m' zs ∧ Nf B32 zs (v % B64 ^ k) ∧ m' ≤ n ∧ Below w.heap.size w w' := by
  obtain ⟨i0, hi, hz0, hz1, hz2⟩ := info_parts Try.infoU32
  have HX : Hid (Nf B32 xs v) := hx
  have hl := h.len
  have cap := h.cap
  have big := h.big
  unfold maxLen at big
  obtain ⟨D, hD⟩ : ∃ D, D = 2 * k := ⟨_, rfl⟩
  have d1 : (N : Int).tdiv 32 = (D : Int) := by rw [Int.tdiv_eq_ediv_of_nonneg (by omega)]; omega
  have d2 : (N : Int).tmod 32 = 0 := by rw [Int.tmod_eq_emod_of_nonneg (by omega)]; omega
  have hNp : ¬ (N : Int) ≤ 0 := by omega
  have hN0 : ¬ N = 0 := by omega
  have hDb : D ≤ 16384 := by omega
  have hD0 : ¬ D = 0 := by omega
  have hD1 : 0 < D := by omega
  have hwD : IntKind.i64.wrap (D : Int) = (D : Int) := by simp [IntKind.wrap, IntKind.signed, IntKind.bits]; omega
  have HD : Hid (B64 ^ k = B32 ^ D) := by rw [hD]; exact B64_sq k
  have HLX : Hid (xs.length = n) := hl
  clear hx hD hN hl
  by_cases hc : n ≤ D
  · have hci : (n : Int) ≤ (D : Int) := by omega
    have hcb : decide (n ≤ D) = true := decide_eq_true hc
    have HZ : Hid (v % B64 ^ k = v) := by
      show _ = _
      rw [HD.out]
      exact Nat.mod_eq_of_lt (nf32_lt HX.out (by rw [HLX.out]; exact hc))
    have HA : Hid (At32 w p n c xs) := h
    clear h
    go_enter Try.func48, Try.ntmps48
    go_wp2_with fail
    refine (rnorm_any HA.out (by omega)).mono ?_
    rw [trimL_of_Top HX.out.top]
    rintro e w1 ⟨g, rfl, hg, hb, hbl⟩
    have HB : Hid (Blk32 w1 g xs) := hb
    rw [HLX.out]
    clear hb
    go_wp2_with fail
    go_ret
    exact ⟨_, n, xs, rfl, HB.out.at_ HX.out.dig HLX.out (by unfold maxLen; omega), by rw [HZ.out]; exact HX.out, by omega, hbl⟩
  · have hci : ¬ (n : Int) ≤ (D : Int) := by omega
    have hcb : decide (n ≤ D) = false := decide_eq_false hc
    have hDn : D < n := by omega
    have hDc : D < c := by omega
    have hDc2 : D ≤ c := by omega
    have hDn2 : D ≤ n := by omega
    obtain ⟨g, off, rfl, hcs⟩ := h.cells.resolve_left (by omega)
    have A1 : Hid (At32 w (some ⟨g, off, none⟩) D c (xs.take D)) := h.take D hDn2 c hDc2 (by unfold maxLen; omega)
    obtain ⟨y, hy⟩ : ∃ y, y = xs.getD D 0 := ⟨_, rfl⟩
    have hcy : w.cell? ⟨g, off + D, none⟩ = some (V y) := by rw [hy]; exact hcs D hDn
    have HV : Hid (valB B32 (trimL (xs.take D)) = v % B64 ^ k) := by rw [valB_trimL, HD.out]; exact take_mod32 HX.out (by rw [HLX.out]; omega)
    have hgl : g < w.heap.size := World.block_lt_of_cell? w _ hcy
    clear h hcs hy
    go_enter Try.func48, Try.ntmps48
    go_wp2_with fail
    refine (rnorm_any A1.out (by omega)).mono ?_
    rintro e w1 ⟨g1, rfl, hg1, hb1, hbl⟩
    have hd1 : Dig B32 (trimL (xs.take D)) := Dig.trimL A1.out.dig
    have hle1 := trimL_length_le (xs.take D)
    rw [A1.out.len] at hle1
    generalize trimL (xs.take D) = zs at *
    have hcy1 : w1.cell? ⟨g, off + D, none⟩ = some (V y) := (hbl.cell (p := ⟨g, off + D, none⟩) hgl).trans hcy
    have HO : Hid (w1.ownsRow w.heap.size 77 1 (.slice (some ⟨g1, 0, none⟩) zs.length zs.length) zs.length (cellsV zs)) := hb1.own hg1 (by unfold maxLen; omega)
    have HDZ : Hid (Dig B32 zs) := hd1
    obtain ⟨L, hL⟩ : ∃ L, L = zs.length := ⟨_, rfl⟩
    rw [← hL] at HO hle1 ⊢
    have HL : Hid (zs.length = L) := hL.symm
    clear hb1 hd1 hL A1
    go_wp2_with fail
    go_loopg [5] (D - L) (fun gk dv wr => ∃ (i Nc : Nat) (pp : Option Addr) (ss : List Nat), i + gk = D ∧ dv = .slice pp i Nc ∧ Hid (wr.ownsRow w.heap.size 77 1 (.slice pp i Nc) i (cellsV ss) ∧ ss.length = i ∧ Dig B32 ss ∧ valB B32 ss = v % B64 ^ k ∧ Below w.heap.size w wr))
    case atStart => exact ⟨L, L, _, zs, by omega, rfl, HO.out, HL.out, HDZ.out, HV.out, hbl⟩
    case round =>
      obtain ⟨i, Nc, pp, ss, hig, rfl, HR⟩ := hrel
      have hbr := HR.out.2.2.2.2
      have hcr : wr.cell? ⟨g, off + D, none⟩ = some (V y) := (hbr.cell (p := ⟨g, off + D, none⟩) hgl).trans hcy
      cases gk with
      | zero =>
        obtain rfl : i = D := by omega
        have hni : ¬ (i : Int) < (i : Int) := by omega
        have hy1 : (y : Int).tmod 1 = 0 := by simp
        have hy2 : (y : Int).tmod (IntKind.u32.wrap 1) = 0 := by rw [show IntKind.u32.wrap 1 = 1 from rfl]; simp
        have hw1 : ¬ IntKind.u32.wrap 1 = 0 := by decide
        have hy3 : (y : Int) % 1 = 0 := by omega
        have HOA : Hid ((wr.drew.alloc (.cells #[V 0] 77)).ownsRow w.heap.size 77 1 (.slice pp i Nc) i (cellsV ss)) := by
          have h0 : wr.drew.ownsRow w.heap.size 77 1 (.slice pp i Nc) i (cellsV ss) := HR.out.1
          exact h0.alloc _
        have hsz1 : w.heap.size ≤ (wr.drew.alloc (.cells #[V 0] 77)).heap.size := by have := hbr.size; simp; omega
        go_wp2_with fail
        go_region_law (first
          | (refine step_append_ownq rfl (.tmp 29) (.tmp 39) 64 rfl w.heap.size 77 i0 (.int .u32 0) 1 4 Try.underlying64 hi hz0 hz1 hz2 rfl (by decide) (.slice pp i Nc) i (cellsV ss) (by simp [Act.eval]) HOA.out ⟨wr.heap.size, 0, none⟩ 1 1 [V 0] (by simp [Act.eval]) rfl (one_cell wr.drew 0) (by intro u hu; simp at hu; subst hu; rfl) (by unfold maxLen; omega) (by omega) hsz1 ?_; intro v3 w3 hw3 hgr3; obtain ⟨p3, N3, rfl⟩ := own_form hw3; have hl3 : (ss ++ [0]).length = i + 1 := (by simp [HR.out.2.1]); have hd3 : Dig B32 (ss ++ [0]) := HR.out.2.2.1.append (Dig.cons B32_pos (Dig.nil _)); have A3 : Hid (At32 w3 p3 (i + 1) N3 (ss ++ [0])) := own_at32q (by rw [show cellsV (ss ++ [0]) = cellsV ss ++ [V 0] from by unfold cellsV; rw [List.map_append]; rfl]; exact hw3) hl3 hd3; have HB3 : Hid (Below w.heap.size w w3) := ((bDrew hbr).alloc hbr.size _).grown hgr3 (by have := hbr.size; simp; omega) (own_base HOA.out); have NF3 : Hid (Nf B32 (trimL (ss ++ [0])) (v % B64 ^ k)) := (by have h1 := Nf.trim hd3; rw [valB_snoc, Nat.mul_zero, Nat.add_zero, HR.out.2.2.2.1] at h1; exact h1); have hle3 : (trimL (ss ++ [0])).length ≤ i + 1 := (by have h1 := trimL_length_le (ss ++ [0]); omega); clear hw3 hgr3 hl3 hd3)
          | (go_simp; refine (rnorm_any A3.out (by omega)).mono ?_; rintro e w4 ⟨g4, rfl, hg4, hb4, hbl4⟩; have A4 : Hid (At32 w4 (some ⟨g4, 0, none⟩) (trimL (ss ++ [0])).length (trimL (ss ++ [0])).length (trimL (ss ++ [0]))) := hb4.at_ NF3.out.dig rfl (by unfold maxLen; omega); have hbw4 := Below.on HB3.out hbl4; generalize trimL (ss ++ [0]) = z4 at *; clear hb4 hbl4 hg4))
        all_goals
          (go_wp2_with fail
           go_ret
           exact ⟨_, _, z4, rfl, A4.out, NF3.out, by omega, hbw4⟩)
      | succ gg =>
        have hlt : (i : Int) < (D : Int) := by omega
        have hlt2 : i < D := by omega
        have HOA : Hid ((wr.alloc (.cells #[V 0] 77)).ownsRow w.heap.size 77 1 (.slice pp i Nc) i (cellsV ss)) := HR.out.1.alloc _
        have hsz1 : w.heap.size ≤ (wr.alloc (.cells #[V 0] 77)).heap.size := by have := hbr.size; simp; omega
        go_wp2_with (at_builtin; refine wpList_append_own _ rfl (.tmp 26) (.tmp 27) 64 rfl w.heap.size 77 i0 (.int .u32 0) 1 4 Try.underlying64 hi hz0 hz1 hz2 rfl (by decide) (.slice pp i Nc) i (cellsV ss) rfl HOA.out ⟨wr.heap.size, 0, none⟩ 1 1 [V 0] rfl rfl (one_cell wr 0) (by intro u hu; simp at hu; subst hu; rfl) (by unfold maxLen; omega) (by omega) hsz1 ?_; intro v3 w3 hw3 hgr3 hnil3)
        obtain ⟨p3, N3, rfl⟩ := own_form hw3
        have HR3 : Hid (w3.ownsRow w.heap.size 77 1 (.slice p3 (i + 1) N3) (i + 1) (cellsV (ss ++ [0])) ∧ (ss ++ [0]).length = i + 1 ∧ Dig B32 (ss ++ [0]) ∧ valB B32 (ss ++ [0]) = v % B64 ^ k ∧ Below w.heap.size w w3) := by
          have hR := HR.out
          refine ⟨?_, by simp [hR.2.1], hR.2.2.1.append (Dig.cons B32_pos (Dig.nil _)), by rw [valB_snoc, Nat.mul_zero, Nat.add_zero]; exact hR.2.2.2.1, ?_⟩
          · have e0 : cellsV (ss ++ [0]) = cellsV ss ++ [V 0] := by unfold cellsV; rw [List.map_append]; rfl
            rw [e0]; exact hw3
          · exact (hR.2.2.2.2.alloc hR.2.2.2.2.size _).grown hgr3 (by have := hR.2.2.2.2.size; simp; omega) (own_base HOA.out)
        clear hw3 hgr3 hnil3
        go_roundg gg
        case measure => omega
        case rel => exact ⟨i + 1, N3, p3, ss ++ [0], by omega, rfl, HR3⟩

-- Mq4
/-- What Parts answers. -/
def PartsIs (xs ys : List Nat) (t : Int) (u1 u2 u3 : List Nat) (f : Int) : Prop :=
  ((t < 1 ∨ 8192 < t) ∧ u1 = [] ∧ u2 = [] ∧ u3 = [] ∧ f = 1) ∨
  (¬ (t < 1 ∨ 8192 < t) ∧ (formB xs && formB ys) = false ∧ u1 = [] ∧ u2 = [] ∧ u3 = [] ∧ f = 2) ∨
  (¬ (t < 1 ∨ 8192 < t) ∧ (formB xs && formB ys) = true ∧ ∃ lo mid hi, lo = (valB B64 xs % B64 ^ t.toNat) * (valB B64 ys % B64 ^ t.toNat) ∧ mid = (valB B64 xs % B64 ^ t.toNat) * (valB B64 ys / B64 ^ t.toNat) + (valB B64 xs / B64 ^ t.toNat) * (valB B64 ys % B64 ^ t.toNat) ∧ hi = (valB B64 xs / B64 ^ t.toNat) * (valB B64 ys / B64 ^ t.toNat) ∧
    ((lo < LIM ∧ mid < LIM ∧ hi < LIM ∧ Nf B64 u1 lo ∧ Nf B64 u2 mid ∧ Nf B64 u3 hi ∧ f = 0) ∨ ((LIM ≤ lo ∨ LIM ≤ mid ∨ LIM ≤ hi) ∧ u1 = [] ∧ u2 = [] ∧ u3 = [] ∧ f = 5)))
theorem PartsIs.inj {xs ys : List Nat} {t : Int} {u1 u2 u3 v1 v2 v3 : List Nat} {f f' : Int} (h : PartsIs xs ys t u1 u2 u3 f) (k : PartsIs xs ys t v1 v2 v3 f') : u1 = v1 ∧ u2 = v2 ∧ u3 = v3 ∧ f = f' := by
  rcases h with ⟨h1, rfl, rfl, rfl, rfl⟩ | ⟨h1, h2, rfl, rfl, rfl, rfl⟩ | ⟨h1, h2, lo, mid, hi, e1, e2, e3, h3⟩ <;> rcases k with ⟨k1, rfl, rfl, rfl, rfl⟩ | ⟨k1, k2, rfl, rfl, rfl, rfl⟩ | ⟨k1, k2, lo', mid', hi', d1, d2, d3, k3⟩
  · exact ⟨rfl, rfl, rfl, rfl⟩
  · exact absurd h1 k1
  · exact absurd h1 k1
  · exact absurd k1 h1
  · exact ⟨rfl, rfl, rfl, rfl⟩
  · rw [k2] at h2; simp at h2
  · exact absurd k1 h1
  · rw [k2] at h2; simp at h2
  · obtain rfl : lo = lo' := by rw [e1, d1]
    obtain rfl : mid = mid' := by rw [e2, d2]
    obtain rfl : hi = hi' := by rw [e3, d3]
    clear e1 e2 e3 d1 d2 d3
    rcases h3 with ⟨a1, a2, a3, n1, n2, n3, rfl⟩ | ⟨a, rfl, rfl, rfl, rfl⟩ <;> rcases k3 with ⟨b1, b2, b3, m1, m2, m3, rfl⟩ | ⟨b, rfl, rfl, rfl, rfl⟩
    · exact ⟨n1.inj B64_one m1, n2.inj B64_one m2, n3.inj B64_one m3, rfl⟩
    · omega
    · omega
    · exact ⟨rfl, rfl, rfl, rfl⟩
theorem PartsIs.er {xs ys : List Nat} {t : Int} {u1 u2 u3 : List Nat} {f : Int} (h : PartsIs xs ys t u1 u2 u3 f) : f = 0 ∨ f = 1 ∨ f = 2 ∨ f = 5 := by
  rcases h with ⟨_, _, _, _, rfl⟩ | ⟨_, _, _, _, _, rfl⟩ | ⟨_, _, _, _, _, _, _, _, ⟨_, _, _, _, _, _, rfl⟩ | ⟨_, _, _, _, rfl⟩⟩ <;> simp
theorem Below.cut {a w w' : World} (h : Below a.heap.size a w) (k : Below w.heap.size w w') : Below a.heap.size a w' := Below.on h k

set_option maxRecDepth 20000 in
set_option maxHeartbeats 4000000 in
theorem partsP {p q : Option Addr} {n m c d : Nat} {xs ys : List Nat} {w : World} (h : At w p n c xs) (k : At w q m d ys) (t : Int) (ht : -9223372036854775808 ≤ t ∧ t ≤ 9223372036854775807) :
    Calls Try.prog 10 #[.slice p n c, .slice q m d, .int .i64 t] w fun e w' => ∃ p1 m1 N1 u1 p2 m2 N2 u2 p3 m3 N3 u3 f, e = .returned (.tuple #[.slice p1 m1 N1, .slice p2 m2 N2, .slice p3 m3 N3, .int .i64 f]) ∧ At w' p1 m1 N1 u1 ∧ At w' p2 m2 N2 u2 ∧ At w' p3 m3 N3 u3 ∧ PartsIs xs ys t u1 u2 u3 f ∧ Below w.heap.size w w' := by
  have HA : Hid (At w p n c xs) := h
  have HB : Hid (At w q m d ys) := k
  clear h k
  rcases Int.lt_or_le t 1 with h0 | h0
  · have h1 : decide (t < 1) = true := decide_eq_true h0
    go_enter Try.func10, Try.ntmps10
    go_wp2_with fail
    refine bodyPost_ret (results_tmp4 rfl _ _ _) rfl ?_
    exact ⟨none, 0, 0, [], none, 0, 0, [], none, 0, 0, [], 1, rfl, At.empty _ none 0 (by decide), At.empty _ none 0 (by decide), At.empty _ none 0 (by decide), .inl ⟨.inl h0, rfl, rfl, rfl, rfl⟩, Below.refl _ _⟩
  · have h1 : decide (t < 1) = false := decide_eq_false (by omega)
    rcases Int.lt_or_le 8192 t with h2 | h2
    · have h3 : decide (8192 < t) = true := decide_eq_true h2
      go_enter Try.func10, Try.ntmps10
      go_wp2_with fail
      refine bodyPost_ret (results_tmp4 rfl _ _ _) rfl ?_
      exact ⟨none, 0, 0, [], none, 0, 0, [], none, 0, 0, [], 1, rfl, At.empty _ none 0 (by decide), At.empty _ none 0 (by decide), At.empty _ none 0 (by decide), .inl ⟨.inr h2, rfl, rfl, rfl, rfl⟩, Below.refl _ _⟩
    · have h3 : decide (8192 < t) = false := decide_eq_false (by omega)
      have HT : Hid (¬ (t < 1 ∨ 8192 < t)) := by show ¬ _; omega
      cases hx : formB xs
      · have HF : Hid ((formB xs && formB ys) = false) := by show _ = _; rw [hx]; rfl
        go_enter Try.func10, Try.ntmps10
        go_wp2_with fail
        refine (form_any HA.out).mono ?_
        rintro e w1 ⟨rfl, hw⟩
        rw [hx]
        obtain rfl := hw.symm
        clear hw
        go_wp2_with fail
        refine bodyPost_ret (results_tmp4 rfl _ _ _) rfl ?_
        exact ⟨none, 0, 0, [], none, 0, 0, [], none, 0, 0, [], 2, rfl, At.empty _ none 0 (by decide), At.empty _ none 0 (by decide), At.empty _ none 0 (by decide), .inr (.inl ⟨HT.out, HF.out, rfl, rfl, rfl, rfl⟩), Below.refl _ _⟩
      · cases hy : formB ys
        · have HF : Hid ((formB xs && formB ys) = false) := by show _ = _; rw [hx, hy]; rfl
          go_enter Try.func10, Try.ntmps10
          go_wp2_with fail
          refine (form_any HA.out).mono ?_
          rintro e w1 ⟨rfl, hw⟩
          rw [hx]
          obtain rfl := hw.symm
          clear hw
          go_wp2_with fail
          refine (form_any HB.out).mono ?_
          rintro e w1 ⟨rfl, hw⟩
          rw [hy]
          obtain rfl := hw.symm
          clear hw
          go_wp2_with fail
          refine bodyPost_ret (results_tmp4 rfl _ _ _) rfl ?_
          exact ⟨none, 0, 0, [], none, 0, 0, [], none, 0, 0, [], 2, rfl, At.empty _ none 0 (by decide), At.empty _ none 0 (by decide), At.empty _ none 0 (by decide), .inr (.inl ⟨HT.out, HF.out, rfl, rfl, rfl, rfl⟩), Below.refl _ _⟩
        · have HFF : Hid ((formB xs && formB ys) = true) := by show _ = _; rw [hx, hy]; rfl
          obtain ⟨T, hT⟩ := Int.eq_ofNat_of_zero_le (show 0 ≤ t by omega)
          subst hT
          refine (parts_any HA.out HB.out (nf_of_form HA.out.dig hx) (nf_of_form HB.out.dig hy) (by have := form_len hx; rw [HA.out.len] at this; exact this) (by have := form_len hy; rw [HB.out.len] at this; exact this) T (by omega) (by omega)).mono ?_
          rintro e w' ⟨ha, hb⟩
          rcases ha with ⟨l1, l2, l3, p1, m1, z1, p2, m2, z2, p3, m3, z3, rfl, n1, n2, n3, _⟩ | ⟨hl, rfl⟩
          · exact ⟨p1, m1, m1, z1, p2, m2, m2, z2, p3, m3, m3, z3, 0, rfl, n1.at_, n2.at_, n3.at_, .inr (.inr ⟨HT.out, HFF.out, _, _, _, rfl, rfl, rfl, .inl ⟨l1, l2, l3, n1.nf, n2.nf, n3.nf, rfl⟩⟩), hb⟩
          · exact ⟨none, 0, 0, [], none, 0, 0, [], none, 0, 0, [], 5, rfl, At.empty _ none 0 (by decide), At.empty _ none 0 (by decide), At.empty _ none 0 (by decide), .inr (.inr ⟨HT.out, HFF.out, _, _, _, rfl, rfl, rfl, .inr ⟨hl, rfl, rfl, rfl, rfl⟩⟩), hb⟩

set_option maxRecDepth 20000 in
set_option maxHeartbeats 4000000 in
theorem docpartsD {p q : Option Addr} {n m c d : Nat} {xs ys : List Nat} {w : World} (h : At w p n c xs) (k : At w q m d ys) (t : Int) (ht : -9223372036854775808 ≤ t ∧ t ≤ 9223372036854775807) :
    Calls Try.prog 33 #[.slice p n c, .slice q m d, .int .i64 t] w fun e w' => ∃ p1 m1 N1 u1 p2 m2 N2 u2 p3 m3 N3 u3 f, e = .returned (.tuple #[.slice p1 m1 N1, .slice p2 m2 N2, .slice p3 m3 N3, .int .i64 f]) ∧ At w' p1 m1 N1 u1 ∧ At w' p2 m2 N2 u2 ∧ At w' p3 m3 N3 u3 ∧ PartsIs xs ys t u1 u2 u3 f ∧ Below w.heap.size w w' := by
  have HA : Hid (At w p n c xs) := h
  have HB : Hid (At w q m d ys) := k
  clear h k
  rcases Int.lt_or_le t 1 with h0 | h0
  · have h1 : decide (t < 1) = true := decide_eq_true h0
    go_enter Try.func33, Try.ntmps33
    go_wp2_with fail
    refine bodyPost_ret (results_tmp4 rfl _ _ _) rfl ?_
    exact ⟨none, 0, 0, [], none, 0, 0, [], none, 0, 0, [], 1, rfl, At.empty _ none 0 (by decide), At.empty _ none 0 (by decide), At.empty _ none 0 (by decide), .inl ⟨.inl h0, rfl, rfl, rfl, rfl⟩, Below.refl _ _⟩
  · have h1 : decide (t < 1) = false := decide_eq_false (by omega)
    rcases Int.lt_or_le 8192 t with h2 | h2
    · have h3 : decide (8192 < t) = true := decide_eq_true h2
      go_enter Try.func33, Try.ntmps33
      go_wp2_with fail
      refine bodyPost_ret (results_tmp4 rfl _ _ _) rfl ?_
      exact ⟨none, 0, 0, [], none, 0, 0, [], none, 0, 0, [], 1, rfl, At.empty _ none 0 (by decide), At.empty _ none 0 (by decide), At.empty _ none 0 (by decide), .inl ⟨.inr h2, rfl, rfl, rfl, rfl⟩, Below.refl _ _⟩
    · have h3 : decide (8192 < t) = false := decide_eq_false (by omega)
      have HT : Hid (¬ (t < 1 ∨ 8192 < t)) := by show ¬ _; omega
      cases hx : formB xs
      · have HF : Hid ((formB xs && formB ys) = false) := by show _ = _; rw [hx]; rfl
        go_enter Try.func33, Try.ntmps33
        go_wp2_with fail
        refine (docform_any HA.out).mono ?_
        rintro e w1 ⟨rfl, hw⟩
        rw [hx]
        obtain rfl := hw.symm
        clear hw
        go_wp2_with fail
        refine bodyPost_ret (results_tmp4 rfl _ _ _) rfl ?_
        exact ⟨none, 0, 0, [], none, 0, 0, [], none, 0, 0, [], 2, rfl, At.empty _ none 0 (by decide), At.empty _ none 0 (by decide), At.empty _ none 0 (by decide), .inr (.inl ⟨HT.out, HF.out, rfl, rfl, rfl, rfl⟩), Below.refl _ _⟩
      · cases hy : formB ys
        · have HF : Hid ((formB xs && formB ys) = false) := by show _ = _; rw [hx, hy]; rfl
          go_enter Try.func33, Try.ntmps33
          go_wp2_with fail
          refine (docform_any HA.out).mono ?_
          rintro e w1 ⟨rfl, hw⟩
          rw [hx]
          obtain rfl := hw.symm
          clear hw
          go_wp2_with fail
          refine (docform_any HB.out).mono ?_
          rintro e w1 ⟨rfl, hw⟩
          rw [hy]
          obtain rfl := hw.symm
          clear hw
          go_wp2_with fail
          refine bodyPost_ret (results_tmp4 rfl _ _ _) rfl ?_
          exact ⟨none, 0, 0, [], none, 0, 0, [], none, 0, 0, [], 2, rfl, At.empty _ none 0 (by decide), At.empty _ none 0 (by decide), At.empty _ none 0 (by decide), .inr (.inl ⟨HT.out, HF.out, rfl, rfl, rfl, rfl⟩), Below.refl _ _⟩
        · have HFF : Hid ((formB xs && formB ys) = true) := by show _ = _; rw [hx, hy]; rfl
          obtain ⟨T, hT⟩ := Int.eq_ofNat_of_zero_le (show 0 ≤ t by omega)
          subst hT
          have hn : n ≤ 8192 := by have := form_len hx; rw [HA.out.len] at this; exact this
          have hm : m ≤ 8192 := by have := form_len hy; rw [HB.out.len] at this; exact this
          obtain ⟨S, hS⟩ : ∃ S, S = 64 * T := ⟨_, rfl⟩
          have hSI : 64 * (T : Int) = (S : Int) := by omega
          have HS : Hid (S = 64 * T) := hS
          have hT1 : 1 ≤ T := by omega
          have hT2 : T ≤ 8192 := by omega
          have hSb : S ≤ 524288 := by omega
          clear hS
          go_enter Try.func33, Try.ntmps33
          go_wp2_with fail
          refine (docform_any HA.out).mono ?_
          rintro e w1 ⟨rfl, hw⟩
          rw [hx]
          obtain rfl := hw.symm
          clear hw
          go_wp2_with fail
          refine (docform_any HB.out).mono ?_
          rintro e w1 ⟨rfl, hw⟩
          rw [hy]
          obtain rfl := hw.symm
          clear hw
          go_wp2_with fail
          clear hx hy
          refine (from_any HA.out (by omega)).mono ?_
          rintro e w1 ⟨g1, z1, rfl, hg1, hk1, hn1, hl1, hb1⟩
          have A1 : Hid (At32 w1 (some ⟨g1, 0, none⟩) z1.length z1.length z1) := hk1.at_ hn1.dig rfl (by unfold maxLen; omega)
          have N1 : Hid (Nf B32 z1 (valB B64 xs)) := hn1
          obtain ⟨l1, hle1⟩ : ∃ l1, l1 = z1.length := ⟨_, rfl⟩
          rw [← hle1] at A1 hl1 ⊢
          have hll1 : l1 ≤ 16384 := by omega
          have HB' : Hid (At w1 q m d ys) := HB.out.below hb1
          clear HB
          have HB := HB'
          clear HB'
          have hbw := hb1
          clear hk1 hn1 hg1 hle1 hb1 hl1
          go_wp2_with fail
          refine (from_any HB.out (by omega)).mono ?_
          rintro e w2 ⟨g2, z2, rfl, hg2, hk2, hn2, hl2, hb2⟩
          have A2 : Hid (At32 w2 (some ⟨g2, 0, none⟩) z2.length z2.length z2) := hk2.at_ hn2.dig rfl (by unfold maxLen; omega)
          have N2 : Hid (Nf B32 z2 (valB B64 ys)) := hn2
          obtain ⟨l2, hle2⟩ : ∃ l2, l2 = z2.length := ⟨_, rfl⟩
          rw [← hle2] at A2 hl2 ⊢
          have hll2 : l2 ≤ 16384 := by omega
          have HB' : Hid (At w2 q m d ys) := HB.out.below hb2
          clear HB
          have HB := HB'
          clear HB'
          have A1' : Hid (At32 w2 (some ⟨g1, 0, none⟩) l1 l1 z1) := A1.out.below hb2
          clear A1
          have A1 := A1'
          clear A1'
          have hbw' := Below.on hbw hb2
          clear hbw
          have hbw := hbw'
          clear hbw'
          clear hk2 hn2 hg2 hle2 hb2 hl2
          go_wp2_with fail
          refine (rlow64 A1.out N1.out (by omega) T hT1 hT2 S HS.out).mono ?_
          rintro e w3 ⟨p3, m3, z3, rfl, hA3, hN3, hm3, hb3⟩
          have A3 : Hid (At32 w3 p3 m3 m3 z3) := hA3
          have N3 : Hid (Nf B32 z3 (valB B64 xs % B64 ^ T)) := hN3
          have A1' : Hid (At32 w3 (some ⟨g1, 0, none⟩) l1 l1 z1) := A1.out.below hb3
          clear A1
          have A1 := A1'
          clear A1'
          have A2' : Hid (At32 w3 (some ⟨g2, 0, none⟩) l2 l2 z2) := A2.out.below hb3
          clear A2
          have A2 := A2'
          clear A2'
          have hbw' := Below.on hbw hb3
          clear hbw
          have hbw := hbw'
          clear hbw'
          clear hA3 hN3 hb3
          go_wp2_with fail
          refine (rshr64 A1.out N1.out (by omega) T hT1 hT2 S HS.out).mono ?_
          rintro e w4 ⟨p4, m4, z4, rfl, hA4, hN4, hm4, hb4⟩
          have A4 : Hid (At32 w4 p4 m4 m4 z4) := hA4
          have N4 : Hid (Nf B32 z4 (valB B64 xs / B64 ^ T)) := hN4
          have A1' : Hid (At32 w4 (some ⟨g1, 0, none⟩) l1 l1 z1) := A1.out.below hb4
          clear A1
          have A1 := A1'
          clear A1'
          have A2' : Hid (At32 w4 (some ⟨g2, 0, none⟩) l2 l2 z2) := A2.out.below hb4
          clear A2
          have A2 := A2'
          clear A2'
          have A3' : Hid (At32 w4 p3 m3 m3 z3) := A3.out.below hb4
          clear A3
          have A3 := A3'
          clear A3'
          have hbw' := Below.on hbw hb4
          clear hbw
          have hbw := hbw'
          clear hbw'
          clear hA4 hN4 hb4
          go_wp2_with fail
          refine (rlow64 A2.out N2.out (by omega) T hT1 hT2 S HS.out).mono ?_
          rintro e w5 ⟨p5, m5, z5, rfl, hA5, hN5, hm5, hb5⟩
          have A5 : Hid (At32 w5 p5 m5 m5 z5) := hA5
          have N5 : Hid (Nf B32 z5 (valB B64 ys % B64 ^ T)) := hN5
          have A2' : Hid (At32 w5 (some ⟨g2, 0, none⟩) l2 l2 z2) := A2.out.below hb5
          clear A2
          have A2 := A2'
          clear A2'
          have A3' : Hid (At32 w5 p3 m3 m3 z3) := A3.out.below hb5
          clear A3
          have A3 := A3'
          clear A3'
          have A4' : Hid (At32 w5 p4 m4 m4 z4) := A4.out.below hb5
          clear A4
          have A4 := A4'
          clear A4'
          have hbw' := Below.on hbw hb5
          clear hbw
          have hbw := hbw'
          clear hbw'
          clear hA5 hN5 hb5
          go_wp2_with fail
          refine (rshr64 A2.out N2.out (by omega) T hT1 hT2 S HS.out).mono ?_
          rintro e w6 ⟨p6, m6, z6, rfl, hA6, hN6, hm6, hb6⟩
          have A6 : Hid (At32 w6 p6 m6 m6 z6) := hA6
          have N6 : Hid (Nf B32 z6 (valB B64 ys / B64 ^ T)) := hN6
          have A2' : Hid (At32 w6 (some ⟨g2, 0, none⟩) l2 l2 z2) := A2.out.below hb6
          clear A2
          have A2 := A2'
          clear A2'
          have A3' : Hid (At32 w6 p3 m3 m3 z3) := A3.out.below hb6
          clear A3
          have A3 := A3'
          clear A3'
          have A4' : Hid (At32 w6 p4 m4 m4 z4) := A4.out.below hb6
          clear A4
          have A4 := A4'
          clear A4'
          have A5' : Hid (At32 w6 p5 m5 m5 z5) := A5.out.below hb6
          clear A5
          have A5 := A5'
          clear A5'
          have hbw' := Below.on hbw hb6
          clear hbw
          have hbw := hbw'
          clear hbw'
          clear hA6 hN6 hb6
          go_wp2_with fail
          refine (productD A3.out A5.out N3.out N5.out (by omega) (by omega)).mono ?_
          rintro e w7 ⟨p7, m7, N7, u7, f7, rfl, hA7, hD7, hb7⟩
          have A7 : Hid (At w7 p7 m7 N7 u7) := hA7
          have D7 : Hid (DocIs ((valB B64 xs % B64 ^ T) * (valB B64 ys % B64 ^ T)) u7 f7) := hD7
          have A3' : Hid (At32 w7 p3 m3 m3 z3) := A3.out.below hb7
          clear A3
          have A3 := A3'
          clear A3'
          have A4' : Hid (At32 w7 p4 m4 m4 z4) := A4.out.below hb7
          clear A4
          have A4 := A4'
          clear A4'
          have A5' : Hid (At32 w7 p5 m5 m5 z5) := A5.out.below hb7
          clear A5
          have A5 := A5'
          clear A5'
          have A6' : Hid (At32 w7 p6 m6 m6 z6) := A6.out.below hb7
          clear A6
          have A6 := A6'
          clear A6'
          have hbw' := Below.on hbw hb7
          clear hbw
          have hbw := hbw'
          clear hbw'
          clear hA7 hD7 hb7
          go_wp2_with fail
          refine (productD A4.out A6.out N4.out N6.out (by omega) (by omega)).mono ?_
          rintro e w8 ⟨p8, m8, N8, u8, f8, rfl, hA8, hD8, hb8⟩
          have A8 : Hid (At w8 p8 m8 N8 u8) := hA8
          have D8 : Hid (DocIs ((valB B64 xs / B64 ^ T) * (valB B64 ys / B64 ^ T)) u8 f8) := hD8
          have A3' : Hid (At32 w8 p3 m3 m3 z3) := A3.out.below hb8
          clear A3
          have A3 := A3'
          clear A3'
          have A4' : Hid (At32 w8 p4 m4 m4 z4) := A4.out.below hb8
          clear A4
          have A4 := A4'
          clear A4'
          have A5' : Hid (At32 w8 p5 m5 m5 z5) := A5.out.below hb8
          clear A5
          have A5 := A5'
          clear A5'
          have A6' : Hid (At32 w8 p6 m6 m6 z6) := A6.out.below hb8
          clear A6
          have A6 := A6'
          clear A6'
          have A7' : Hid (At w8 p7 m7 N7 u7) := A7.out.below hb8
          clear A7
          have A7 := A7'
          clear A7'
          have hbw' := Below.on hbw hb8
          clear hbw
          have hbw := hbw'
          clear hbw'
          clear hA8 hD8 hb8
          go_wp2_with fail
          refine (rmul_any A3.out A6.out N3.out N6.out (by omega) (by omega)).mono ?_
          rintro e w9 ⟨p9, m9, z9, rfl, hA9, hN9, hm9, hb9⟩
          have A9 : Hid (At32 w9 p9 m9 m9 z9) := hA9
          have N9 : Hid (Nf B32 z9 ((valB B64 xs % B64 ^ T) * (valB B64 ys / B64 ^ T))) := hN9
          have A3' : Hid (At32 w9 p3 m3 m3 z3) := A3.out.below hb9
          clear A3
          have A3 := A3'
          clear A3'
          have A4' : Hid (At32 w9 p4 m4 m4 z4) := A4.out.below hb9
          clear A4
          have A4 := A4'
          clear A4'
          have A5' : Hid (At32 w9 p5 m5 m5 z5) := A5.out.below hb9
          clear A5
          have A5 := A5'
          clear A5'
          have A6' : Hid (At32 w9 p6 m6 m6 z6) := A6.out.below hb9
          clear A6
          have A6 := A6'
          clear A6'
          have A7' : Hid (At w9 p7 m7 N7 u7) := A7.out.below hb9
          clear A7
          have A7 := A7'
          clear A7'
          have A8' : Hid (At w9 p8 m8 N8 u8) := A8.out.below hb9
          clear A8
          have A8 := A8'
          clear A8'
          have hbw' := Below.on hbw hb9
          clear hbw
          have hbw := hbw'
          clear hbw'
          clear hA9 hN9 hb9
          go_wp2_with fail
          refine (rmul_any A4.out A5.out N4.out N5.out (by omega) (by omega)).mono ?_
          rintro e w10 ⟨p10, m10, z10, rfl, hA10, hN10, hm10, hb10⟩
          have A10 : Hid (At32 w10 p10 m10 m10 z10) := hA10
          have N10 : Hid (Nf B32 z10 ((valB B64 xs / B64 ^ T) * (valB B64 ys % B64 ^ T))) := hN10
          have A3' : Hid (At32 w10 p3 m3 m3 z3) := A3.out.below hb10
          clear A3
          have A3 := A3'
          clear A3'
          have A4' : Hid (At32 w10 p4 m4 m4 z4) := A4.out.below hb10
          clear A4
          have A4 := A4'
          clear A4'
          have A5' : Hid (At32 w10 p5 m5 m5 z5) := A5.out.below hb10
          clear A5
          have A5 := A5'
          clear A5'
          have A6' : Hid (At32 w10 p6 m6 m6 z6) := A6.out.below hb10
          clear A6
          have A6 := A6'
          clear A6'
          have A7' : Hid (At w10 p7 m7 N7 u7) := A7.out.below hb10
          clear A7
          have A7 := A7'
          clear A7'
          have A8' : Hid (At w10 p8 m8 N8 u8) := A8.out.below hb10
          clear A8
          have A8 := A8'
          clear A8'
          have A9' : Hid (At32 w10 p9 m9 m9 z9) := A9.out.below hb10
          clear A9
          have A9 := A9'
          clear A9'
          have hbw' := Below.on hbw hb10
          clear hbw
          have hbw := hbw'
          clear hbw'
          clear hA10 hN10 hb10
          go_wp2_with fail
          clear A3 A4 A5 A6
          refine (radd_any A9.out A10.out N9.out N10.out (by omega) (by omega)).mono ?_
          rintro e w11 ⟨p11, m11, z11, rfl, hA11, hN11, hb11⟩
          have A11 : Hid (At32 w11 p11 m11 m11 z11) := hA11
          have N11 : Hid (Nf B32 z11 ((valB B64 xs % B64 ^ T) * (valB B64 ys / B64 ^ T) + (valB B64 xs / B64 ^ T) * (valB B64 ys % B64 ^ T))) := hN11
          have A7' : Hid (At w11 p7 m7 N7 u7) := A7.out.below hb11
          clear A7
          have A7 := A7'
          clear A7'
          have A8' : Hid (At w11 p8 m8 N8 u8) := A8.out.below hb11
          clear A8
          have A8 := A8'
          clear A8'
          have A9' : Hid (At32 w11 p9 m9 m9 z9) := A9.out.below hb11
          clear A9
          have A9 := A9'
          clear A9'
          have A10' : Hid (At32 w11 p10 m10 m10 z10) := A10.out.below hb11
          clear A10
          have A10 := A10'
          clear A10'
          have hbw' := Below.on hbw hb11
          clear hbw
          have hbw := hbw'
          clear hbw'
          have hm11 : m11 ≤ 35184372088832 := by
            have h4 := nf32_lt N9.out (K := 32768) (by rw [A9.out.len]; omega)
            have h5 := nf32_lt N10.out (K := 32768) (by rw [A10.out.len]; omega)
            rcases Nat.lt_or_ge 32769 m11 with e | e
            · exfalso
              obtain ⟨J, hJ⟩ : ∃ J, J = 32768 := ⟨_, rfl⟩
              have h6 := nf32_ge N11.out (K := J + 1) (by rw [A11.out.len]; omega)
              rw [← hJ] at h4 h5
              rw [Nat.pow_succ] at h6
              have : B32 ^ J * 2 ≤ B32 ^ J * B32 := Nat.mul_le_mul_left _ (by decide)
              omega
            · omega
          clear hA11 hN11 hb11 A9 A10
          go_wp2_with fail
          refine (rtold_any A11.out N11.out hm11).mono ?_
          rintro e w12 ⟨p12, m12, N12, u12, f12, rfl, hA12, hD12, hb12⟩
          have A12 : Hid (At w12 p12 m12 N12 u12) := hA12
          have D12 : Hid (DocIs ((valB B64 xs % B64 ^ T) * (valB B64 ys / B64 ^ T) + (valB B64 xs / B64 ^ T) * (valB B64 ys % B64 ^ T)) u12 f12) := hD12
          have A7' : Hid (At w12 p7 m7 N7 u7) := A7.out.below hb12
          clear A7
          have A7 := A7'
          clear A7'
          have A8' : Hid (At w12 p8 m8 N8 u8) := A8.out.below hb12
          clear A8
          have A8 := A8'
          clear A8'
          have hbw' := Below.on hbw hb12
          clear hbw
          have hbw := hbw'
          clear hbw'
          clear hA12 hD12 hb12 A11
          rcases D7.out with ⟨a7, b7, rfl⟩ | ⟨a7, _, rfl⟩
          · rcases D8.out with ⟨a8, b8, rfl⟩ | ⟨a8, _, rfl⟩
            · rcases D12.out with ⟨a9, b9, rfl⟩ | ⟨a9, _, rfl⟩
              · have HH : Hid (((valB B64 xs % B64 ^ T) * (valB B64 ys % B64 ^ T)) < LIM ∧ ((valB B64 xs % B64 ^ T) * (valB B64 ys / B64 ^ T) + (valB B64 xs / B64 ^ T) * (valB B64 ys % B64 ^ T)) < LIM ∧ ((valB B64 xs / B64 ^ T) * (valB B64 ys / B64 ^ T)) < LIM ∧ Nf B64 u7 ((valB B64 xs % B64 ^ T) * (valB B64 ys % B64 ^ T)) ∧ Nf B64 u12 ((valB B64 xs % B64 ^ T) * (valB B64 ys / B64 ^ T) + (valB B64 xs / B64 ^ T) * (valB B64 ys % B64 ^ T)) ∧ Nf B64 u8 ((valB B64 xs / B64 ^ T) * (valB B64 ys / B64 ^ T))) := ⟨a7, a9, a8, b7, b9, b8⟩
                clear a7 a8 a9 b7 b8 b9
                go_wp2_with fail
                refine bodyPost_ret (results_tmp4 rfl _ _ _) rfl ?_
                exact ⟨p7, m7, N7, u7, p12, m12, N12, u12, p8, m8, N8, u8, 0, rfl, A7.out, A12.out, A8.out, .inr (.inr ⟨HT.out, HFF.out, _, _, _, rfl, rfl, rfl, .inl ⟨HH.out.1, HH.out.2.1, HH.out.2.2.1, HH.out.2.2.2.1, HH.out.2.2.2.2.1, HH.out.2.2.2.2.2, rfl⟩⟩), hbw⟩
              · have HH : Hid (LIM ≤ (valB B64 xs % B64 ^ T) * (valB B64 ys / B64 ^ T) + (valB B64 xs / B64 ^ T) * (valB B64 ys % B64 ^ T)) := a9
                clear a7 a8 a9 b7 b8
                go_wp2_with fail
                refine bodyPost_ret (results_tmp4 rfl _ _ _) rfl ?_
                exact ⟨none, 0, 0, [], none, 0, 0, [], none, 0, 0, [], 5, rfl, At.empty _ none 0 (by decide), At.empty _ none 0 (by decide), At.empty _ none 0 (by decide), .inr (.inr ⟨HT.out, HFF.out, _, _, _, rfl, rfl, rfl, .inr ⟨.inr (.inl HH.out), rfl, rfl, rfl, rfl⟩⟩), hbw⟩
            · have HH : Hid (LIM ≤ (valB B64 xs / B64 ^ T) * (valB B64 ys / B64 ^ T)) := a8
              clear a7 a8 b7
              go_wp2_with fail
              refine bodyPost_ret (results_tmp4 rfl _ _ _) rfl ?_
              exact ⟨none, 0, 0, [], none, 0, 0, [], none, 0, 0, [], 5, rfl, At.empty _ none 0 (by decide), At.empty _ none 0 (by decide), At.empty _ none 0 (by decide), .inr (.inr ⟨HT.out, HFF.out, _, _, _, rfl, rfl, rfl, .inr ⟨.inr (.inr HH.out), rfl, rfl, rfl, rfl⟩⟩), hbw⟩
          · have HH : Hid (LIM ≤ (valB B64 xs % B64 ^ T) * (valB B64 ys % B64 ^ T)) := a7
            clear a7
            go_wp2_with fail
            refine bodyPost_ret (results_tmp4 rfl _ _ _) rfl ?_
            exact ⟨none, 0, 0, [], none, 0, 0, [], none, 0, 0, [], 5, rfl, At.empty _ none 0 (by decide), At.empty _ none 0 (by decide), At.empty _ none 0 (by decide), .inr (.inr ⟨HT.out, HFF.out, _, _, _, rfl, rfl, rfl, .inr ⟨.inl HH.out, rfl, rfl, rfl, rfl⟩⟩), hbw⟩

-- Mq5
set_option maxRecDepth 20000 in
set_option maxHeartbeats 4000000 in
theorem plays4 {pa pb pl : Option Addr} {na nb nl ca cb cl : Nat} {xa xb : List Nat} {w : World} (h : At w pa na ca xa) (k : At w pb nb cb xb) (hna : na ≤ 17592186044416) (hnb : nb ≤ 17592186044416) (nn : Int) (hnn : -9223372036854775808 ≤ nn ∧ nn ≤ 9223372036854775807) :
    Calls Try.prog 19 #[.agg #[.int .i64 4, .slice pa na ca, .slice pb nb cb, .int .i64 nn, .slice pl nl cl]] w fun e w' => e = .returned (.bool true) ∧ Below w.heap.size w w' := by
  have HA : Hid (At w pa na ca xa) := h
  have HB : Hid (At w pb nb cb xb) := k
  clear h k
  go_enter Try.func19, Try.ntmps19
  go_wp2_with fail
  have X0 : B5 (w.alloc (.cells #[.int .i64 4, .slice pa na ca, .slice pb nb cb, .int .i64 nn, .slice pl nl cl] 43)) w.heap.size (.int .i64 4) (.slice pa na ca) (.slice pb nb cb) (.int .i64 nn) (.slice pl nl cl) := B5.new ..
  have hb0 : Below w.heap.size w (w.alloc (.cells #[.int .i64 4, .slice pa na ca, .slice pb nb cb, .int .i64 nn, .slice pl nl cl] 43)) := below1 w _
  generalize w.alloc (.cells #[.int .i64 4, .slice pa na ca, .slice pb nb cb, .int .i64 nn, .slice pl nl cl] 43) = W at *
  obtain ⟨g, hg⟩ : ∃ g, g = w.heap.size := ⟨_, rfl⟩
  rw [← hg] at X0 ⊢
  clear hg
  have XB : Hid (B5 W.drew g (.int .i64 4) (.slice pa na ca) (.slice pb nb cb) (.int .i64 nn) (.slice pl nl cl)) := ⟨X0.c0, X0.c1, X0.c2, X0.c3, X0.c4⟩
  have HA0 : Hid (At W.drew pa na ca xa) := (HA.out.below hb0).drewN 1
  have HB0 : Hid (At W.drew pb nb cb xb) := (HB.out.below hb0).drewN 1
  have HBW : Hid (Below w.heap.size w W.drew) := bDrew2 hb0
  obtain ⟨c0, c1, c2, c3, c4⟩ := X0
  clear hb0 HA HB
  go_cut [3, 4] (fun s3 s4 wx => ∃ p1 p2, s3 = Value.slice p1 na na ∧ s4 = Value.slice p2 nb nb ∧ At wx p1 na na xa ∧ At wx p2 nb nb xb ∧ At wx pa na ca xa ∧ At wx pb nb cb xb ∧ B5 wx g (.int .i64 4) (.slice pa na ca) (.slice pb nb cb) (.int .i64 nn) (.slice pl nl cl) ∧ Below w.heap.size w wx)
  case first =>
    (go_region_with (first
      | (go_at_call 29; (with_reducible refine (twin_at HA0.out hna).mono ?_); rintro e w1 ⟨p1, rfl, hA1, hb1⟩; obtain ⟨d0, d1, d2, d3, d4⟩ := XB.out.below hb1; have A1 : Hid (At w1 p1 na na xa) := hA1; have HA1 : Hid (At w1 pa na ca xa) := HA0.out.below hb1; have HB1 : Hid (At w1 pb nb cb xb) := HB0.out.below hb1; have XB1 : Hid (B5 w1 g (.int .i64 4) (.slice pa na ca) (.slice pb nb cb) (.int .i64 nn) (.slice pl nl cl)) := XB.out.below hb1; have HBW1 : Hid (Below w.heap.size w w1) := Below.on HBW.out hb1; clear hA1 hb1)
      | (go_at_call 29; (with_reducible refine (twin_at HB1.out hnb).mono ?_); rintro e w2 ⟨p2, rfl, hA2, hb2⟩; have RR : Hid (At w2 p1 na na xa ∧ At w2 p2 nb nb xb ∧ At w2 pa na ca xa ∧ At w2 pb nb cb xb ∧ B5 w2 g (.int .i64 4) (.slice pa na ca) (.slice pb nb cb) (.int .i64 nn) (.slice pl nl cl) ∧ Below w.heap.size w w2) := ⟨A1.out.below hb2, hA2, HA1.out.below hb2, HB1.out.below hb2, XB1.out.below hb2, Below.on HBW1.out hb2⟩; clear hA2 hb2)))
    all_goals
      (go_wp2_with fail
       go_meet
       exact ⟨p1, p2, rfl, rfl, RR.out⟩)
  case rest =>
    obtain ⟨p1, p2, rfl, rfl, a1, a2, ha, hb, X, hbw⟩ := hcut
    have A1 : Hid (At wc p1 na na xa) := a1
    have A2 : Hid (At wc p2 nb nb xb) := a2
    have HA : Hid (At wc pa na ca xa) := ha
    have HB : Hid (At wc pb nb cb xb) := hb
    have XC : Hid (B5 wc g (.int .i64 4) (.slice pa na ca) (.slice pb nb cb) (.int .i64 nn) (.slice pl nl cl)) := X
    clear XB HA0 HB0 HBW c0 c1 c2 c3 c4 a1 a2 ha hb
    obtain ⟨c0, c1, c2, c3, c4⟩ := X
    go_wp2_with fail
    refine (partsP A1.out A2.out nn hnn).mono ?_
    rintro e w3 ⟨p3, m3, N3, z3, p4, m4, N4, z4, p5, m5, N5, z5, f3, rfl, hA3, hA4, hA5, hM3, hb3⟩
    clear c0 c1 c2 c3 c4
    have A3 : Hid (At w3 p3 m3 N3 z3) := hA3
    have A4 : Hid (At w3 p4 m4 N4 z4) := hA4
    have A5 : Hid (At w3 p5 m5 N5 z5) := hA5
    have M3 : Hid (PartsIs xa xb nn z3 z4 z5 f3) := hM3
    have HA3 : Hid (At w3 pa na ca xa) := HA.out.below hb3
    have HB3 : Hid (At w3 pb nb cb xb) := HB.out.below hb3
    have hbw3 := Below.on hbw hb3
    obtain ⟨c0, c1, c2, c3, c4⟩ := XC.out.below hb3
    clear A1 A2 HA HB XC hbw hA3 hA4 hA5 hM3 hb3
    go_wp2_with fail
    refine (docpartsD HA3.out HB3.out nn hnn).mono ?_
    rintro e w4 ⟨q3, l3, K3, y3, q4, l4, K4, y4, q5, l5, K5, y5, f4, rfl, hB3, hB4, hB5, hM4, hb4⟩
    clear c0 c1 c2 c3 c4
    obtain ⟨e3, e4, e5, ef⟩ := M3.out.inj hM4
    subst e3 e4 e5 ef
    have B3 : Hid (At w4 q3 l3 K3 z3) := hB3
    have B4 : Hid (At w4 q4 l4 K4 z4) := hB4
    have B5' : Hid (At w4 q5 l5 K5 z5) := hB5
    have A3' : Hid (At w4 p3 m3 N3 z3) := A3.out.below hb4
    have A4' : Hid (At w4 p4 m4 N4 z4) := A4.out.below hb4
    have A5' : Hid (At w4 p5 m5 N5 z5) := A5.out.below hb4
    have hbw4 := Below.on hbw3 hb4
    clear hB3 hB4 hB5 hM4 hb4 A3 A4 A5 HA3 HB3 hbw3
    go_wp2_with fail
    refine (told_e f3 M3.out.er A3'.out B3.out).mono ?_
    rintro e w5 ⟨rfl, hb5⟩
    have hbw5 := Below.on hbw4 hb5
    have B4w : Hid (At w5 q4 l4 K4 z4) := B4.out.below hb5
    have B5w : Hid (At w5 q5 l5 K5 z5) := B5'.out.below hb5
    have A4w : Hid (At w5 p4 m4 N4 z4) := A4'.out.below hb5
    have A5w : Hid (At w5 p5 m5 N5 z5) := A5'.out.below hb5
    clear hb5 hbw4 B3 B4 B5' A3' A4' A5'
    go_wp2_with fail
    refine (same_t A4w.out B4w.out).mono ?_
    rintro e w6 ⟨rfl, hb6⟩
    have hbw6 := Below.on hbw5 hb6
    have B5x : Hid (At w6 q5 l5 K5 z5) := B5w.out.below hb6
    have A5x : Hid (At w6 p5 m5 N5 z5) := A5w.out.below hb6
    clear hb6 hbw5 B4w B5w A4w A5w
    go_wp2_with fail
    refine (same_t A5x.out B5x.out).mono ?_
    rintro e w7 ⟨rfl, hb7⟩
    have hbw7 := Below.on hbw6 hb7
    go_wp2_with fail
    go_ret
    exact ⟨rfl, hbw7⟩

set_option maxRecDepth 20000 in
set_option maxHeartbeats 4000000 in
theorem all44 {P : Option Addr} {N C : Nat} {its : List Op5} {w : World} (h : Scr w P N C its) :
    Calls Try.prog 9 #[.slice P N C, .int .i64 4, .int .i64 4] w fun e w' => e = .returned (.bool true) ∧ Below w.heap.size w w' := by
  have H : Hid (Scr w P N C its) := h
  have HLN : Hid (its.length = N) := h.len
  have cap := h.cap; have big := h.big
  unfold maxLen at big
  clear h
  go_enter Try.func9, Try.ntmps9
  go_wp2_with fail
  go_loopg [11] N (fun gk iv wr => ∃ k : Nat, k + gk = N ∧ iv = .int .i64 k ∧ Below w.heap.size w wr)
  case atStart => exact ⟨0, by omega, rfl, Below.refl _ _⟩
  case round =>
    obtain ⟨k, hkg, rfl, hbw⟩ := hrel
    cases gk with
    | zero =>
      obtain rfl : k = N := by omega
      have hnk : ¬ (k : Int) < (k : Int) := by omega
      go_wp2_with fail
      go_ret
      exact ⟨rfl, hbw⟩
    | succ gg =>
      have hki : k < its.length := by rw [HLN.out]; omega
      have HR := H.out.below hbw
      obtain ⟨g, off, rfl, hc⟩ := HR.cells.resolve_left (by omega)
      obtain ⟨e0, e1, e2, e3, e4⟩ := hc k hki
      obtain ⟨hA, hB, hna, hnb, hn1, hn2⟩ := HR.ats its[k] (List.getElem_mem hki)
      have HA : Hid (At wr its[k].pa its[k].na its[k].ca its[k].xa) := hA
      have HB : Hid (At wr its[k].pb its[k].nb its[k].cb its[k].xb) := hB
      have hkk : (k : Int) < (N : Int) := by omega
      have hlt : g < wr.heap.size := World.block_lt_of_cell? wr _ e0
      clear hc HR hA hB
      generalize its[k].k = kd at *
      generalize its[k].pa = pa at *
      generalize its[k].na = na at *
      generalize its[k].ca = ca at *
      generalize its[k].xa = xa at *
      generalize its[k].pb = pb at *
      generalize its[k].nb = nb at *
      generalize its[k].cb = cb at *
      generalize its[k].xb = xb at *
      generalize its[k].nn = nn at *
      generalize its[k].pl = pl at *
      generalize its[k].nl = nl at *
      generalize its[k].cl = cl at *
      by_cases h1 : kd = 4
      · subst h1
        go_wp2_with fail
        refine (plays4 (HA.out.alloc _) (HB.out.alloc _) hna hnb nn ⟨hn1, hn2⟩).mono ?_
        rintro e wz ⟨rfl, hbz⟩
        have hbw2 := Below.on hbw (Below.on (below1 wr _) hbz)
        clear hbw hbz HA HB e0 e1 e2 e3 e4
        go_wp2_with fail
        go_roundg gg
        case measure => omega
        case rel => exact ⟨k + 1, by omega, by go_num, hbw2⟩
      · have hbw2 := Below.on hbw (below1 wr (.cells #[.int .i64 kd, .slice pa na ca, .slice pb nb cb, .int .i64 nn, .slice pl nl cl] 43))
        clear HA HB
        by_cases h3 : kd < 4
        · have h4 : decide (4 ≤ kd) = false := decide_eq_false (by omega)
          go_wp2_with fail
          go_roundg gg
          case measure => omega
          case rel => exact ⟨k + 1, by omega, by go_num, hbw2⟩
        · have h4 : decide (4 ≤ kd) = true := decide_eq_true (by omega)
          have h5 : decide (kd ≤ 4) = false := decide_eq_false (by omega)
          go_wp2_with fail
          go_roundg gg
          case measure => omega
          case rel => exact ⟨k + 1, by omega, by go_num, hbw2⟩

theorem dig3 {x y z : Nat} (h : x < B64) (k : y < B64) (l : z < B64) : Dig B64 [x, y, z] := Dig.cons h (dig2 k l)
theorem nf_two {x y : Nat} (h : x < B64) (k : y < B64) (h0 : y ≠ 0) : Nf B64 [x, y] (x + B64 * y) := ⟨dig2 h k, by intro z hz; simp at hz; omega, by simp [valB]⟩
theorem parts_known : PartsIs [1, 2, 3] [4, 5] 1 [4] [13, 12] [10, 15] 0 := by
  have n1 : Nf B64 [4] 4 := nf_one (by decide) (by decide)
  have n2 : Nf B64 [13, 12] (13 + B64 * 12) := nf_two (by decide) (by decide) (by decide)
  have n3 : Nf B64 [10, 15] (10 + B64 * 15) := nf_two (by decide) (by decide) (by decide)
  refine .inr (.inr ⟨by omega, by decide, 4, 13 + B64 * 12, 10 + B64 * 15, by decide +kernel, by decide +kernel, by decide +kernel, .inl ⟨n1.lim.1 (by simp), n2.lim.1 (by simp), n3.lim.1 (by simp), n1, n2, n3, rfl⟩⟩)

set_option maxRecDepth 20000 in
set_option maxHeartbeats 2000000 in
theorem natmulParted_walk {P : Option Addr} {N C : Nat} {its : List Op5} {w : World} (h : Scr w P N C its) :
    Calls Try.prog 4 #[.slice P N C] w fun e w' => e = .returned (.bool true) ∧ Below w.heap.size w w' := by
  have H : Hid (Scr w P N C its) := h
  clear h
  go_enter Try.func4, Try.ntmps4
  go_wp2_with fail
  refine (partsP ((lit_at w _ [1, 2, 3] 3 rfl rfl (dig3 (by decide) (by decide) (by decide)) (by omega)).alloc _) (lit_at1 w _ _ [4, 5] 2 rfl rfl (dig2 (by decide) (by decide)) (by omega)) 1 (by omega)).mono ?_
  rintro e w1 ⟨p3, m3, N3, z3, p4, m4, N4, z4, p5, m5, N5, z5, f3, rfl, hA3, hA4, hA5, hM3, hb1⟩
  obtain ⟨e3, e4, e5, ef⟩ := parts_known.inj hM3
  subst e3 e4 e5 ef
  have A3 : Hid (At w1 p3 m3 N3 [4]) := hA3
  have A4 : Hid (At w1 p4 m4 N4 [13, 12]) := hA4
  have A5 : Hid (At w1 p5 m5 N5 [10, 15]) := hA5
  have hbw1 := Below.on (below2 w _ _) hb1
  have H1 : Hid (Scr w1 P N C its) := H.out.below hbw1
  clear hA3 hA4 hA5 hM3 hb1 H
  go_wp2_with fail
  refine (told_t (A3.out.alloc _) (lit_at w1 _ [4] 1 rfl rfl (dig1 (by decide)) (by omega))).mono ?_
  rintro e w2 ⟨rfl, hb2⟩
  have hbx2 := Below.on (below1 w1 _) hb2
  have hbw2 := Below.on hbw1 hbx2
  have H2 : Hid (Scr w2 P N C its) := H1.out.below hbx2
  have A42 : Hid (At w2 p4 m4 N4 [13, 12]) := A4.out.below hbx2
  have A52 : Hid (At w2 p5 m5 N5 [10, 15]) := A5.out.below hbx2
  clear hb2 hbx2 hbw1 H1 A3 A4 A5
  go_wp2_with fail
  refine (same_t (A42.out.alloc _) (lit_at w2 _ [13, 12] 2 rfl rfl (dig2 (by decide) (by decide)) (by omega))).mono ?_
  rintro e w3 ⟨rfl, hb3⟩
  have hbx3 := Below.on (below1 w2 _) hb3
  have hbw3 := Below.on hbw2 hbx3
  have H3 : Hid (Scr w3 P N C its) := H2.out.below hbx3
  have A53 : Hid (At w3 p5 m5 N5 [10, 15]) := A52.out.below hbx3
  clear hb3 hbx3 hbw2 H2 A42 A52
  go_wp2_with fail
  refine (same_t (A53.out.alloc _) (lit_at w3 _ [10, 15] 2 rfl rfl (dig2 (by decide) (by decide)) (by omega))).mono ?_
  rintro e w4 ⟨rfl, hb4⟩
  have hbx4 := Below.on (below1 w3 _) hb4
  have hbw4 := Below.on hbw3 hbx4
  have H4 : Hid (Scr w4 P N C its) := H3.out.below hbx4
  clear hb4 hbx4 hbw3 H3 A53
  go_wp2_with fail
  refine (all44 H4.out).mono ?_
  rintro e w5 ⟨rfl, hb5⟩
  have hbw := Below.on hbw4 hb5
  clear hb5 hbw4
  go_wp2_with fail
  go_ret
  exact ⟨rfl, hbw⟩

end Go.Proofs.Ytdkbfffpnpjpiaa
