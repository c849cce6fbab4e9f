import Derived.Test.YtnijhlbociechaaDoorJ9
import Derived.Test.YtnijhlbociechaaDoorJ10
import Derived.Laws.Cover1
import Derived.Deep.RegionWith
import Derived.Deep.RegionLaw
import Derived.Deep.LoopGhost
import Derived.Test.YtnijhlbociechaaDoorJ8
import Derived.Laws.ResultCell
import Derived.Deep.DeepCutAuto
namespace Go.Proofs.YtnijhlbociechaaDoor
open Go.RowKit Go.Shelf
set_option maxRecDepth 20000
set_option maxHeartbeats 0
structure WinRel32 (w : World) (g off n : Nat) (W D d b : Nat) (ws : List Nat) (wr : World) : Prop where
  wrs : Wr g off (n + 1) w wr
  row : Row32 wr g off (n + 1) ws
  db : d < B32
  bb : b ≤ 1
  ge : W / D ≤ d
  sum : valB B32 ws + D * d = W + B32 ^ (n + 1) * b
theorem WinRel32.done {w : World} {g off n W D d : Nat} {ws : List Nat} {wr : World} (h : WinRel32 w g off n W D d 0 ws wr) (hD : 0 < D) : d = W / D ∧ valB B32 ws = W % D := by
  have h1 := h.sum; have h2 := h.ge
  rw [Nat.mul_zero, Nat.add_zero] at h1
  have h3 : d ≤ W / D := (Nat.le_div_iff_mul_le hD).2 (by rw [Nat.mul_comm]; omega)
  have h4 : d = W / D := by omega
  refine ⟨h4, ?_⟩
  have h5 := Nat.div_add_mod W D
  rw [← h4] at h5
  omega
structure DgS (w : World) (g off n : Nat) (us vs : List Nat) (q k cy ow : Nat) (dk : List Nat) (wr : World) : Prop where
  wrs : Wr g off (n + 1) w wr
  row : Row32 wr g off (n + 1) dk
  hi : dk.drop k = us.drop k
  car : cy < B32
  owb : ow ≤ 1
  fin : k = n + 1 → cy = 0
  sum : valB B32 (dk.take k) + valB B32 (vs.take k) * q = valB B32 (us.take k) + B32 ^ k * (ow + cy)
theorem dgs_abs {P B S V U q d y u o c o' c' : Nat} (h : S + V * q = U + P * (o + c)) (hs : o + c + d + y * q = u + B * (o' + c')) : S + P * d + (V + P * y) * q = U + P * u + P * B * (o' + c') := by
  have e1 : P * (o + c + d + y * q) = P * (u + B * (o' + c')) := by rw [hs]
  rw [Nat.mul_add P (o + c + d) (y * q), Nat.mul_add P (o + c) d, Nat.mul_add P u] at e1
  have e2 : P * (y * q) = P * y * q := (Nat.mul_assoc _ _ _).symm
  have e3 : P * (B * (o' + c')) = P * B * (o' + c') := (Nat.mul_assoc _ _ _).symm
  rw [e2, e3] at e1
  rw [Nat.add_mul]
  generalize P * y * q = X1 at *
  generalize P * B * (o' + c') = X2 at *
  generalize P * (o + c) = X3 at *
  generalize P * d = X4 at *
  generalize P * u = X5 at *
  omega
theorem DgS.step {w : World} {g off n : Nat} {us vs : List Nat} {q k cy ow : Nat} {dk : List Nat} {wr : World} (h : DgS w g off n us vs q k cy ow dk wr) (hk : k < n + 1) (hvl : vs.length = n)
    {y u c1 lo cy' ow' d : Nat} (hy : y = vs.getD k 0) (hu : u = dk.getD k 0) (hc1 : c1 = cy + y * q) (hlo : c1 = lo + B32 * cy') (hcy' : cy' < B32) (how' : ow' ≤ 1) (hd : d + lo + ow = u + B32 * ow') (hdb : d < B32) :
    DgS w g off n us vs q (k + 1) cy' ow' (dk.set k d) (wr.setCell ⟨g, off + k, none⟩ (V d)) := by
  have hlen := h.row.len
  refine ⟨h.wrs.setCell (off + k) ⟨by omega, by omega⟩ _, h.row.set k d hk hdb, ?_, hcy', how', ?_, ?_⟩
  · rw [drop_set_lt]; exact drop_succ_of_drop h.hi
  · intro hkn
    have h0 : y = 0 := by
      rw [hy, List.getD_eq_getElem?_getD, List.getElem?_eq_none (by omega)]; rfl
    rw [h0, Nat.zero_mul] at hc1
    have := h.car
    rcases Nat.eq_zero_or_pos cy' with e | e
    · exact e
    · have : B32 * 1 ≤ B32 * cy' := Nat.mul_le_mul_left _ e
      omega
  · have huu : u = us.getD k 0 := hu.trans (getD_of_drop h.hi)
    rw [take_set_succ dk k d (by omega), valB_snoc, List.length_take, hlen, Nat.min_eq_left (by omega), valB_take_any _ us k, valB_take_any _ vs k, ← huu, ← hy, Nat.pow_succ]
    refine dgs_abs h.sum ?_
    rw [Nat.mul_add]
    omega
structure DgA (w : World) (g off n : Nat) (ws vs : List Nat) (k cy : Nat) (dk : List Nat) (wr : World) : Prop where
  wrs : Wr g off (n + 1) w wr
  row : Row32 wr g off (n + 1) dk
  hi : dk.drop k = ws.drop k
  car : cy ≤ 1
  sum : valB B32 (dk.take k) + B32 ^ k * cy = valB B32 (ws.take k) + valB B32 (vs.take k)
theorem DgA.step {w : World} {g off n : Nat} {ws vs : List Nat} {k cy : Nat} {dk : List Nat} {wr : World} (h : DgA w g off n ws vs k cy dk wr) (hk : k < n + 1)
    {y u lo cy' : Nat} (hy : y = vs.getD k 0) (hu : u = dk.getD k 0) (hs : cy + u + y = lo + B32 * cy') (hlo : lo < B32) (hcy' : cy' ≤ 1) :
    DgA w g off n ws vs (k + 1) cy' (dk.set k lo) (wr.setCell ⟨g, off + k, none⟩ (V lo)) := by
  have hlen := h.row.len
  refine ⟨h.wrs.setCell (off + k) ⟨by omega, by omega⟩ _, h.row.set k lo hk hlo, ?_, hcy', ?_⟩
  · rw [drop_set_lt]; exact drop_succ_of_drop h.hi
  · have huu : u = ws.getD k 0 := hu.trans (getD_of_drop h.hi)
    rw [take_set_succ dk k lo (by omega), valB_snoc, List.length_take, hlen, Nat.min_eq_left (by omega), valB_take_any _ ws k, valB_take_any _ vs k, ← huu, ← hy, Nat.pow_succ]
    have e1 := h.sum
    have e2 : B32 ^ k * (cy + u + y) = B32 ^ k * (lo + B32 * cy') := by rw [hs]
    rw [Nat.mul_add, Nat.mul_add, Nat.mul_add, ← Nat.mul_assoc] at e2
    omega
theorem At32.dropq {w : World} {g off n c : Nat} {xs : List Nat} (h : At32 w (some ⟨g, off, none⟩) n c xs) (k : Nat) (hk : k < n) : At32 w (some ⟨g, off + k, none⟩) (n - k) (c - k) (xs.drop k) := by
  refine ⟨by rw [List.length_drop, h.len], by have := h.cap; omega, by have := h.big; unfold maxLen at *; omega, h.dig.drop k, .inr ⟨g, off + k, rfl, fun j hj => ?_⟩⟩
  rcases h.cells with h0 | ⟨g', off', he, hc⟩
  · omega
  · simp only [Option.some.injEq, Addr.mk.injEq, and_true] at he
    obtain ⟨rfl, rfl⟩ := he
    have := hc (k + j) (by omega)
    rw [Nat.add_assoc, this]
    congr 2
    simp [List.getD_eq_getElem?_getD, List.getElem?_drop]
theorem drop_div32q {xs : List Nat} {v k : Nat} (hx : Nf B32 xs v) (hk : k ≤ xs.length) : valB B32 (xs.drop k) = v / B32 ^ k := by
  have h1 := valB_split B32 xs k hk
  have h2 := valB_lt B32_pos (hx.dig.take k)
  rw [List.length_take, Nat.min_eq_left hk] at h2
  rw [← hx.val, h1, Nat.add_mul_div_left _ _ (Nat.pow_pos B32_pos), Nat.div_eq_of_lt h2, Nat.zero_add]

theorem rfshr_any {p : Option Addr} {n c : Nat} {xs : List Nat} {v : Nat} {w : World} (h : At32 w p n c xs) (hx : Nf B32 xs v) (hn : n ≤ 16384) (N : Nat) (hN : 1 ≤ N) (hN2 : N ≤ 9223372036854775807) :
    Calls Tryd.prog 28 #[.slice p n c, .int .i64 N] w fun e w' => ∃ p' m' zs, e = .returned (.slice p' m' m') ∧ At32 w' p' m' m' zs ∧ Nf B32 zs (v / 2 ^ N) ∧ m' ≤ n ∧ Below w.heap.size w w' := by
  have HX : Hid (Nf B32 xs v) := hx
  have hl := h.len
  have cap := h.cap
  have big := h.big
  unfold maxLen at big
  obtain ⟨D, hD⟩ : ∃ D, D = N / 32 := ⟨_, rfl⟩
  obtain ⟨R, hR⟩ : ∃ R, R = N % 32 := ⟨_, rfl⟩
  have d1 : (N : Int).tdiv 32 = (D : Int) := by rw [Int.tdiv_eq_ediv_of_nonneg (by omega)]; omega
  have d2 : (N : Int).tmod 32 = (R : Int) := by rw [Int.tmod_eq_emod_of_nonneg (by omega)]; omega
  have hNp : ¬ (N : Int) ≤ 0 := by omega
  have hN0 : ¬ N = 0 := by omega
  have hR32 : R < 32 := by omega
  have hDb : D ≤ 288230376151711743 := by omega
  have hwD : IntKind.i64.wrap (D : Int) = (D : Int) := by simp [IntKind.wrap, IntKind.signed, IntKind.bits]; omega
  have HD : Hid (2 ^ N = B32 ^ D * 2 ^ R) := by show _ = _; rw [show B32 = 2 ^ 32 from rfl, ← Nat.pow_mul, ← Nat.pow_add]; congr 1; omega
  have HLX : Hid (xs.length = n) := hl
  clear hx hD hR hl
  by_cases hc : n ≤ D
  · have hci : (n : Int) ≤ (D : Int) := by omega
    have hcb : decide (n ≤ D) = true := decide_eq_true hc
    have HZ : Hid (v / 2 ^ N = 0) := by
      show _ = _
      rw [HD.out]
      refine Nat.div_eq_of_lt ?_
      have h1 := nf32_lt HX.out (K := D) (by rw [HLX.out]; exact hc)
      exact Nat.lt_of_lt_of_le h1 (Nat.le_mul_of_pos_right _ (Nat.pow_pos (by decide)))
    clear h
    go_enter Tryd.func28, Tryd.ntmps28
    go_wp2_with fail
    refine (rword0 w).mono ?_
    rintro e w1 ⟨g, rfl, hb⟩
    go_wp2_with fail
    go_ret
    exact ⟨_, 0, [], rfl, At32.empty _ _ 0 (by decide), by rw [HZ.out]; exact nf32_nilq, by omega, hb⟩
  · have hci : ¬ (n : Int) ≤ (D : Int) := by omega
    have hcb : decide (n ≤ D) = false := decide_eq_false hc
    have hDn : D < n := by omega
    have hDc : D < c := by omega
    have hDc2 : D ≤ c := by omega
    have hcD : ¬ c = D := by omega
    have hDn2 : D ≤ n := by omega
    obtain ⟨g, off, rfl, hcs⟩ := h.cells.resolve_left (by omega)
    have A1 : Hid (At32 w (some ⟨g, off + D, none⟩) (n - D) (c - D) (xs.drop D)) := h.dropq D hDn
    obtain ⟨d, hd⟩ : ∃ d, d = 2 ^ R := ⟨_, rfl⟩
    have hd1 : 1 ≤ d := by rw [hd]; exact Nat.pow_pos (by decide)
    have hdB : d < B32 := by rw [hd, show B32 = 2 ^ 32 from rfl]; exact Nat.pow_lt_pow_right (by decide) hR32
    have hdw : IntKind.u32.wrap (d : Int) = (d : Int) := wrap32 d hdB
    have hdI : (2 : Int) ^ R = (d : Int) := by rw [hd]; norm_cast
    have HV : Hid (valB B32 (xs.drop D) / d = v / 2 ^ N) := by
      show _ = _
      rw [HD.out, hd, drop_div32q HX.out (by rw [HLX.out]; omega), Nat.div_div_eq_div_mul]
    have A1d : Hid (At32 w.drew (some ⟨g, off + D, none⟩) (n - D) (c - D) (xs.drop D)) := A1.out.drewN 1
    have hbd : Below w.heap.size w w.drew := bDrew (Below.refl _ _)
    have HDD : Hid (1 ≤ d ∧ d < B32) := ⟨hd1, hdB⟩
    clear h hcs A1 hd hd1 hdB
    go_enter Tryd.func28, Tryd.ntmps28
    go_wp2_with fail
    (go_region_with (go_at_call 38; refine (rdivsmall A1d.out (by omega) d HDD.out.1 HDD.out.2).mono ?_; rintro e w1 ⟨p1, m1, z1, r1, rfl, hA1, hN1, hm1, hb1⟩; have A2 : Hid (At32 w1 p1 m1 m1 z1) := hA1; have N2 : Hid (Nf B32 z1 (v / 2 ^ N)) := (by rw [HV.out] at hN1; exact hN1); have hbw : Below w.heap.size w w1 := Below.on hbd hb1; have hm1' : m1 ≤ n := (by omega); clear hA1 hN1 hb1))
    all_goals
      (go_wp2_with fail
       go_ret
       exact ⟨p1, m1, z1, rfl, A2.out, N2.out, hm1', hbw⟩)
theorem take_mod32q {xs : List Nat} {v k : Nat} (hx : Nf B32 xs v) (hk : k ≤ xs.length) : valB B32 (xs.take k) = v % B32 ^ k := by
  have h1 := valB_split B32 xs k hk
  have h2 := valB_lt B32_pos (hx.dig.take k)
  rw [List.length_take, Nat.min_eq_left hk] at h2
  rw [← hx.val, h1, Nat.add_mul_mod_self_left, Nat.mod_eq_of_lt h2]
theorem Blk32.own {w : World} {g base : Nat} {xs : List Nat} (h : Blk32 w g xs) (hb : base ≤ g) (hm : xs.length ≤ maxLen) : w.ownsRow base 74 1 (.slice (some ⟨g, 0, none⟩) xs.length xs.length) xs.length (cellsV xs) :=
  ⟨by simp [cellsV], .inr ⟨g, xs.length, (cellsV xs).toArray, rfl, hb, h, Nat.le_refl _, hm, by simp [cellsV], by rw [Nat.mul_one]; exact List.take_of_length_le (by simp [cellsV])⟩⟩
theorem own_at32q {wr : World} {base i N : Nat} {p : Option Addr} {ss : List Nat} (ho : wr.ownsRow base 74 1 (.slice p i N) i (cellsV ss)) (hl : ss.length = i) (hd : Dig B32 ss) : At32 wr p i N ss := by
  rcases ho.2 with ⟨h', h0⟩ | ⟨g', cap', cur, h', hbase, hgc, hcap', hmx, hsz, htake⟩
  · simp only [Value.slice.injEq] at h'
    obtain ⟨rfl, rfl, rfl⟩ := h'
    obtain rfl : ss = [] := List.eq_nil_of_length_eq_zero hl
    exact At32.empty _ _ 0 (by decide)
  · simp only [Value.slice.injEq, true_and] at h'
    obtain ⟨rfl, rfl⟩ := h'
    refine ⟨hl, hcap', hmx, hd, .inr ⟨g', 0, rfl, fun jj hj => ?_⟩⟩
    rw [Nat.zero_add, cell_of_row wr g' jj _ _ _ hgc]
    have e1 := cellsV_get ss jj (by rw [hl]; exact hj)
    rw [← htake, Nat.mul_one, List.getElem?_take, if_pos hj] at e1
    rw [← Array.getElem?_toList]; exact e1
theorem own_form {wr : World} {base i : Nat} {v : Value} {e : TypeId} {xs : List Value} (ho : wr.ownsRow base e 1 v i xs) : ∃ p N, v = .slice p i N := by
  rcases ho.2 with ⟨h', h0⟩ | ⟨g', cap', cur, h', _⟩
  · subst h0; exact ⟨none, 0, h'⟩
  · exact ⟨_, _, h'⟩

theorem own_base {wr : World} {base i : Nat} {v : Value} {e : TypeId} {xs : List Value} (ho : wr.ownsRow base e 1 v i xs) : ∀ q, v.ownBlock = some q → base ≤ q := by
  intro q hq
  rcases ho.2 with ⟨h', h0⟩ | ⟨g', cap', cur, h', hb, _⟩
  · rw [h'] at hq; simp [Value.ownBlock] at hq
  · rw [h'] at hq; simp [Value.ownBlock] at hq; omega
theorem step_append_ownq {P : Program} {ops : Array Oper} {o : Oper} {a : Act} {w : World} {K : Act → World → Prop} {Q : Exit → Act → World → Prop} {E : Prop}
    (hg : o.guard = none) (s x : Operand) (t : TypeId) (hop : o.op = Op.call { callee := Callee.builtin Builtin.append, args := #[s, x], argTypes := #[t, t] })
    (base : Nat) (e : TypeId) (i : TypeInfo) (z : Value) (size bytes : Nat) (ht : P.underlying t = some (.slice e)) (hi : P.info? e = some i) (hz : i.zero = some z)
    (hsize : i.size = size) (hby : i.bytes = bytes) (hzs : z.cells.size = size) (hsz : 0 < size)
    (v : Value) (n : Nat) (xs : List Value) (hs : a.eval s = v) (hown : w.ownsRow base e size v n xs)
    (ad : Addr) (m c : Nat) (news : List Value) (hx : a.eval x = .slice (some ad) m c) (hl : news.length = m * size) (hnews : ∀ j u, news[j]? = some u → w.cell? (ad.add j) = some u) (h1 : ∀ u ∈ news, u.oneCell' = true)
    (h63 : n + m ≤ maxLen) (hbytes : (n + m) * bytes ≤ 140737488355328) (hbase : base ≤ w.heap.size)
    (hK : ∀ v' w', w'.ownsRow base e size v' (n + m) (xs ++ news) → w.grownBy w' v.ownBlock → K (a.put o.dst v') w') :
    if Region.wanted o (yielded ops a.tmps) = true then Oper.wp P o a w K Q else E := by
  have hw : Region.wanted o (yielded ops a.tmps) = true := by simp [Region.wanted, hg]
  rw [if_pos hw]
  obtain ⟨v', w', hr, h2, h3, h4⟩ := run_append_own (P := P) w base t o.type e i z size bytes ht hi hz hsize hby hzs hsz v n xs hown ad m c news hl hnews h1 h63 hbytes hbase
  unfold Oper.wp
  simp [execOp, hop, resolve, invoke, builtin, hs, hx, hr, Result.andThen]
  exact hK _ _ h2 h3

theorem rlow_any {p : Option Addr} {n c : Nat} {xs : List Nat} {v : Nat} {w : World} (h : At32 w p n c xs) (hx : Nf B32 xs v) (hn : n ≤ 16384) (N : Nat) (hN : 1 ≤ N) (hN2 : N ≤ 9223372036854775807) :
    Calls Tryd.prog 29 #[.slice p n c, .int .i64 N] w fun e w' => ∃ p' m' zs, e = .returned (.slice p' m' m') ∧ At32 w' p' m' m' zs ∧ Nf B32 zs (v % 2 ^ N) ∧ m' ≤ n ∧ Below w.heap.size w w' := by
  obtain ⟨i0, hi, hz0, hz1, hz2⟩ := info_parts Tryd.infoU32
  have HX : Hid (Nf B32 xs v) := hx
  have hl := h.len
  have cap := h.cap
  have big := h.big
  unfold maxLen at big
  obtain ⟨D, hD⟩ : ∃ D, D = N / 32 := ⟨_, rfl⟩
  obtain ⟨R, hR⟩ : ∃ R, R = N % 32 := ⟨_, rfl⟩
  have d1 : (N : Int).tdiv 32 = (D : Int) := by rw [Int.tdiv_eq_ediv_of_nonneg (by omega)]; omega
  have d2 : (N : Int).tmod 32 = (R : Int) := by rw [Int.tmod_eq_emod_of_nonneg (by omega)]; omega
  have hNp : ¬ (N : Int) ≤ 0 := by omega
  have hN0 : ¬ N = 0 := by omega
  have hR32 : R < 32 := by omega
  have hDb : D ≤ 288230376151711743 := by omega
  have hwD : IntKind.i64.wrap (D : Int) = (D : Int) := by simp [IntKind.wrap, IntKind.signed, IntKind.bits]; omega
  have HD : Hid (2 ^ N = B32 ^ D * 2 ^ R) := by show _ = _; rw [show B32 = 2 ^ 32 from rfl, ← Nat.pow_mul, ← Nat.pow_add]; congr 1; omega
  have HLX : Hid (xs.length = n) := hl
  clear hx hD hR hl
  by_cases hc : n ≤ D
  · have hci : (n : Int) ≤ (D : Int) := by omega
    have hcb : decide (n ≤ D) = true := decide_eq_true hc
    have HZ : Hid (v % 2 ^ N = v) := by
      show _ = _
      rw [HD.out]
      exact Nat.mod_eq_of_lt (Nat.lt_of_lt_of_le (nf32_lt HX.out (K := D) (by rw [HLX.out]; exact hc)) (Nat.le_mul_of_pos_right _ (Nat.pow_pos (by decide))))
    have HA : Hid (At32 w p n c xs) := h
    clear h
    go_enter Tryd.func29, Tryd.ntmps29
    go_wp2_with fail
    refine (rnorm_any HA.out (by omega)).mono ?_
    rw [trimL_of_Top HX.out.top]
    rintro e w1 ⟨g, rfl, hg, hb, hbl⟩
    have HB : Hid (Blk32 w1 g xs) := hb
    rw [HLX.out]
    clear hb
    go_wp2_with fail
    go_ret
    exact ⟨_, n, xs, rfl, HB.out.at_ HX.out.dig HLX.out (by unfold maxLen; omega), by rw [HZ.out]; exact HX.out, by omega, hbl⟩
  · have hci : ¬ (n : Int) ≤ (D : Int) := by omega
    have hcb : decide (n ≤ D) = false := decide_eq_false hc
    have hDn : D < n := by omega
    have hDc : D < c := by omega
    have hDc2 : D ≤ c := by omega
    have hDn2 : D ≤ n := by omega
    obtain ⟨g, off, rfl, hcs⟩ := h.cells.resolve_left (by omega)
    have A1 : Hid (At32 w (some ⟨g, off, none⟩) D c (xs.take D)) := h.take D hDn2 c hDc2 (by unfold maxLen; omega)
    obtain ⟨y, hy⟩ : ∃ y, y = xs.getD D 0 := ⟨_, rfl⟩
    have hcy : w.cell? ⟨g, off + D, none⟩ = some (V y) := by rw [hy]; exact hcs D hDn
    have HV : Hid (valB B32 (trimL (xs.take D)) = v % B32 ^ D) := by rw [valB_trimL]; exact take_mod32q HX.out (by rw [HLX.out]; omega)
    obtain ⟨d, hd⟩ : ∃ d, d = 2 ^ R := ⟨_, rfl⟩
    have hd1 : 1 ≤ d := by rw [hd]; exact Nat.pow_pos (by decide)
    have hdB : d < B32 := by rw [hd, show B32 = 2 ^ 32 from rfl]; exact Nat.pow_lt_pow_right (by decide) hR32
    have hdw : IntKind.u32.wrap (d : Int) = (d : Int) := wrap32 d hdB
    have hdI : (2 : Int) ^ R = (d : Int) := by rw [hd]; norm_cast
    obtain ⟨q, hq⟩ : ∃ q, q = y % d := ⟨_, rfl⟩
    have hqB : q < B32 := by rw [hq]; exact Nat.lt_trans (Nat.mod_lt _ hd1) hdB
    have HQ : Hid (v % 2 ^ N = v % B32 ^ D + B32 ^ D * q) := by
      show _ = _
      rw [HD.out, ← hd, Nat.mod_mul, hq, hy, ← drop_div32q HX.out (by rw [HLX.out]; omega), valB_drop B32 xs D (by rw [HLX.out]; exact hDn)]
      congr 2
      have hdv : d ∣ B32 := by rw [hd, show B32 = 2 ^ 32 from rfl]; exact Nat.pow_dvd_pow 2 (by omega)
      obtain ⟨e, he⟩ := hdv
      rw [he, Nat.mul_assoc, Nat.add_mul_mod_self_left]
    have hdI0 : ¬ (d : Int) = 0 := by omega
    have hdN0 : ¬ d = 0 := by omega
    have hdbe : ((d : Int) == 0) = false := by simp; omega
    have hym : (y : Int).tmod (d : Int) = (q : Int) := by rw [hq, Int.tmod_eq_emod_of_nonneg (Int.natCast_nonneg y)]; norm_cast
    have hym2 : (y : Int) % (d : Int) = (q : Int) := by rw [hq]; norm_cast
    have HQB : Hid (q < B32) := hqB
    have hqw : IntKind.u32.wrap (q : Int) = (q : Int) := wrap32 q hqB
    clear hd hd1 hdB hq hqB
    have hgl : g < w.heap.size := World.block_lt_of_cell? w _ hcy
    clear h hcs hy
    go_enter Tryd.func29, Tryd.ntmps29
    go_wp2_with fail
    refine (rnorm_any A1.out (by omega)).mono ?_
    rintro e w1 ⟨g1, rfl, hg1, hb1, hbl⟩
    have hd1 : Dig B32 (trimL (xs.take D)) := Dig.trimL A1.out.dig
    have hle1 := trimL_length_le (xs.take D)
    rw [A1.out.len] at hle1
    generalize trimL (xs.take D) = zs at *
    have hcy1 : w1.cell? ⟨g, off + D, none⟩ = some (V y) := (hbl.cell (p := ⟨g, off + D, none⟩) hgl).trans hcy
    have HO : Hid (w1.ownsRow w.heap.size 74 1 (.slice (some ⟨g1, 0, none⟩) zs.length zs.length) zs.length (cellsV zs)) := hb1.own hg1 (by unfold maxLen; omega)
    have HDZ : Hid (Dig B32 zs) := hd1
    obtain ⟨L, hL⟩ : ∃ L, L = zs.length := ⟨_, rfl⟩
    rw [← hL] at HO hle1 ⊢
    have HL : Hid (zs.length = L) := hL.symm
    clear hb1 hd1 hL A1
    go_wp2_with fail
    go_loopg [5] (D - L) (fun gk dv wr => ∃ (i Nc : Nat) (pp : Option Addr) (ss : List Nat), i + gk = D ∧ dv = .slice pp i Nc ∧ Hid (wr.ownsRow w.heap.size 74 1 (.slice pp i Nc) i (cellsV ss) ∧ ss.length = i ∧ Dig B32 ss ∧ valB B32 ss = v % B32 ^ D ∧ Below w.heap.size w wr))
    case atStart => exact ⟨L, L, _, zs, by omega, rfl, HO.out, HL.out, HDZ.out, HV.out, hbl⟩
    case round =>
      obtain ⟨i, Nc, pp, ss, hig, rfl, HR⟩ := hrel
      have hbr := HR.out.2.2.2.2
      have hcr : wr.cell? ⟨g, off + D, none⟩ = some (V y) := (hbr.cell (p := ⟨g, off + D, none⟩) hgl).trans hcy
      cases gk with
      | zero =>
        obtain rfl : i = D := by omega
        have hni : ¬ (i : Int) < (i : Int) := by omega
        have HOA : Hid ((wr.drew.alloc (.cells #[V q] 74)).ownsRow w.heap.size 74 1 (.slice pp i Nc) i (cellsV ss)) := by
          have h0 : wr.drew.ownsRow w.heap.size 74 1 (.slice pp i Nc) i (cellsV ss) := HR.out.1
          exact h0.alloc _
        have hsz1 : w.heap.size ≤ (wr.drew.alloc (.cells #[V q] 74)).heap.size := by have := hbr.size; simp; omega
        go_wp2_with fail
        go_region_law (first
          | (refine step_append_ownq rfl (.tmp 29) (.tmp 39) 43 rfl w.heap.size 74 i0 (.int .u32 0) 1 4 Tryd.underlying43 hi hz0 hz1 hz2 rfl (by decide) (.slice pp i Nc) i (cellsV ss) (by simp [Act.eval]) HOA.out ⟨wr.heap.size, 0, none⟩ 1 1 [V q] (by simp [Act.eval]) rfl (one_cell wr.drew q) (by intro u hu; simp at hu; subst hu; rfl) (by unfold maxLen; omega) (by omega) hsz1 ?_; intro v3 w3 hw3 hgr3; obtain ⟨p3, N3, rfl⟩ := own_form hw3; have hl3 : (ss ++ [q]).length = i + 1 := (by simp [HR.out.2.1]); have hd3 : Dig B32 (ss ++ [q]) := HR.out.2.2.1.append (Dig.cons HQB.out (Dig.nil _)); have A3 : Hid (At32 w3 p3 (i + 1) N3 (ss ++ [q])) := own_at32q (by rw [show cellsV (ss ++ [q]) = cellsV ss ++ [V q] from by unfold cellsV; rw [List.map_append]; rfl]; exact hw3) hl3 hd3; have HB3 : Hid (Below w.heap.size w w3) := ((bDrew hbr).alloc hbr.size _).grown hgr3 (by have := hbr.size; simp; omega) (own_base HOA.out); have NF3 : Hid (Nf B32 (trimL (ss ++ [q])) (v % 2 ^ N)) := (by have h1 := Nf.trim hd3; rw [valB_snoc, HR.out.2.1, HR.out.2.2.2.1, ← HQ.out] at h1; exact h1); have hle3 : (trimL (ss ++ [q])).length ≤ i + 1 := (by have h1 := trimL_length_le (ss ++ [q]); omega); clear hw3 hgr3 hl3 hd3)
          | (go_simp; refine (rnorm_any A3.out (by omega)).mono ?_; rintro e w4 ⟨g4, rfl, hg4, hb4, hbl4⟩; have A4 : Hid (At32 w4 (some ⟨g4, 0, none⟩) (trimL (ss ++ [q])).length (trimL (ss ++ [q])).length (trimL (ss ++ [q]))) := hb4.at_ NF3.out.dig rfl (by unfold maxLen; omega); have hbw4 := Below.on HB3.out hbl4; generalize trimL (ss ++ [q]) = z4 at *; clear hb4 hbl4 hg4))
        all_goals
          (go_wp2_with fail
           go_ret
           exact ⟨_, _, z4, rfl, A4.out, NF3.out, by omega, hbw4⟩)
      | succ gg =>
        have hlt : (i : Int) < (D : Int) := by omega
        have hlt2 : i < D := by omega
        have HOA : Hid ((wr.alloc (.cells #[V 0] 74)).ownsRow w.heap.size 74 1 (.slice pp i Nc) i (cellsV ss)) := HR.out.1.alloc _
        have hsz1 : w.heap.size ≤ (wr.alloc (.cells #[V 0] 74)).heap.size := by have := hbr.size; simp; omega
        go_wp2_with (at_builtin; refine wpList_append_own _ rfl (.tmp 26) (.tmp 27) 43 rfl w.heap.size 74 i0 (.int .u32 0) 1 4 Tryd.underlying43 hi hz0 hz1 hz2 rfl (by decide) (.slice pp i Nc) i (cellsV ss) rfl HOA.out ⟨wr.heap.size, 0, none⟩ 1 1 [V 0] rfl rfl (one_cell wr 0) (by intro u hu; simp at hu; subst hu; rfl) (by unfold maxLen; omega) (by omega) hsz1 ?_; intro v3 w3 hw3 hgr3 hnil3)
        obtain ⟨p3, N3, rfl⟩ := own_form hw3
        have HR3 : Hid (w3.ownsRow w.heap.size 74 1 (.slice p3 (i + 1) N3) (i + 1) (cellsV (ss ++ [0])) ∧ (ss ++ [0]).length = i + 1 ∧ Dig B32 (ss ++ [0]) ∧ valB B32 (ss ++ [0]) = v % B32 ^ D ∧ Below w.heap.size w w3) := by
          have hR := HR.out
          refine ⟨?_, by simp [hR.2.1], hR.2.2.1.append (Dig.cons B32_pos (Dig.nil _)), by rw [valB_snoc, Nat.mul_zero, Nat.add_zero]; exact hR.2.2.2.1, ?_⟩
          · have e0 : cellsV (ss ++ [0]) = cellsV ss ++ [V 0] := by unfold cellsV; rw [List.map_append]; rfl
            rw [e0]; exact hw3
          · exact (hR.2.2.2.2.alloc hR.2.2.2.2.size _).grown hgr3 (by have := hR.2.2.2.2.size; simp; omega) (own_base HOA.out)
        clear hw3 hgr3 hnil3
        go_roundg gg
        case measure => omega
        case rel => exact ⟨i + 1, N3, p3, ss ++ [0], by omega, rfl, HR3⟩
structure RSmR (w : World) (g N : Nat) (xs : List Nat) (v c i cy : Nat) (ss : List Nat) (wr : World) : Prop where
  bel : Below g w wr
  own : wr.ownsRow g 74 1 (.slice (some ⟨g, 0, none⟩) i N) i (cellsV ss)
  len : ss.length = i
  dig : Dig B32 ss
  car : cy < B32
  sum : valB B32 ss + B32 ^ i * cy = valB B32 (xs.take i) * v + c
theorem rsm_step {xs ss : List Nat} {i cy x v c lo hh : Nat} (h : valB B32 ss + B32 ^ i * cy = valB B32 (xs.take i) * v + c) (hl : ss.length = i) (ex : x = xs.getD i 0) (hs : cy + x * v = lo + B32 * hh) :
    valB B32 (ss ++ [lo]) + B32 ^ (i + 1) * hh = valB B32 (xs.take (i + 1)) * v + c := by
  rw [valB_snoc, hl, valB_take_any _ xs i, ← ex, Nat.pow_succ, Nat.add_mul]
  have e1 : B32 ^ i * (cy + x * v) = B32 ^ i * (lo + B32 * hh) := by rw [hs]
  rw [Nat.mul_add, Nat.mul_add, ← Nat.mul_assoc, ← Nat.mul_assoc] at e1
  omega
theorem own_at32 {wr : World} {g i N : Nat} {ss : List Nat} (ho : wr.ownsRow g 74 1 (.slice (some ⟨g, 0, none⟩) i N) i (cellsV ss)) (hl : ss.length = i) (hd : Dig B32 ss) : At32 wr (some ⟨g, 0, none⟩) i N ss := by
  rcases ho.2 with ⟨h', _⟩ | ⟨g', cap', cur, h', hbase, hgc, hcap', hmx, hsz, htake⟩
  · simp at h'
  · simp only [Value.slice.injEq, Option.some.injEq, Addr.mk.injEq, and_true, true_and] at h'
    obtain ⟨rfl, rfl⟩ := h'
    refine ⟨hl, hcap', hmx, hd, .inr ⟨g, 0, rfl, fun jj hj => ?_⟩⟩
    rw [Nat.zero_add, cell_of_row wr g jj _ _ _ hgc]
    have e1 := cellsV_get ss jj (by rw [hl]; exact hj)
    rw [← htake, Nat.mul_one, List.getElem?_take, if_pos hj] at e1
    rw [← Array.getElem?_toList]; exact e1

theorem rsmall_any {p : Option Addr} {n c : Nat} {xs : List Nat} {a v u : Nat} {w : World} (h : At32 w p n c xs) (hx : Nf B32 xs a) (hn : n ≤ 4398046511104) (hv : v < B32) (hu : u < B32) :
    Calls Tryd.prog 40 #[.slice p n c, V v, V u] w fun e w' => ∃ g zs, e = .returned (.slice (some ⟨g, 0, none⟩) zs.length zs.length) ∧ Blk32 w' g zs ∧ Nf B32 zs (a * v + u) ∧ zs.length ≤ n + 1 ∧ Below w.heap.size w w' := by
  obtain ⟨i0, hi, hz0, hz1, hz2⟩ := info_parts Tryd.infoU32
  have HX : Hid (Nf B32 xs a) := hx
  have HLX : Hid (xs.length = n) := h.len
  have hcap := h.cap; have hbig := h.big
  unfold maxLen at hbig
  have huw : IntKind.u64.wrap (u : Int) = (u : Int) := wrap_mod _ _ (by rw [B32_eq] at hu; omega)
  clear hx
  go_enter Tryd.func40, Tryd.ntmps40
  go_wp2_with (at_make; refine wpList_make_own _ rfl _ _ 43 rfl w.heap.size 74 i0 (.int .u32 0) 1 Tryd.underlying43 hi hz0 hz1 _ _ _ (n + 1) rfl rfl (by omega) (by rw [hz2]; omega) (by unfold maxLen; omega) (Nat.le_refl _) ?_; intro w1 hown hgrow)
  have hb1 : Below w.heap.size w w1 := (Below.refl _ _).grown hgrow (Nat.le_refl _) (fun k hk => by simp at hk)
  have HO : Hid (RSmR w w.heap.size (n + 1) xs v u 0 u [] w1) := ⟨hb1, hown, rfl, Dig.nil _, hu, by simp [valB]⟩
  clear hown hgrow hb1
  obtain ⟨N, hN⟩ : ∃ N, N = n + 1 := ⟨_, rfl⟩
  rw [← hN] at HO ⊢
  have HN : Hid (N = n + 1) := hN
  clear hN
  go_loopg [7, 8, 9] n (fun gk sv cv iv wr => ∃ (i cy : Nat) (ss : List Nat), i + gk = n ∧ iv = .int .i64 i ∧ cv = U cy ∧ sv = .slice (some ⟨w.heap.size, 0, none⟩) i N ∧ Hid (RSmR w w.heap.size N xs v u i cy ss wr))
  case atStart => exact ⟨0, u, [], by omega, rfl, rfl, rfl, HO⟩
  case round =>
    obtain ⟨i, cy, ss, hig, rfl, rfl, rfl, HR⟩ := hrel
    have hcyb := HR.out.car
    cases gk with
    | zero =>
      obtain rfl : i = n := by omega
      have hni : ¬ i < i := by omega
      have hw32 : IntKind.u32.wrap (cy : Int) = (cy : Int) := wrap32 cy hcyb
      have HOA : Hid ((wr.alloc (.cells #[V cy] 74)).ownsRow w.heap.size 74 1 (.slice (some ⟨w.heap.size, 0, none⟩) i N) i (cellsV ss)) := HR.out.own.alloc _
      have hsp : i + 1 ≤ N := by have := HN.out; omega
      go_wp2_with (at_builtin; refine wpList_append_fits _ rfl (.tmp 40) (.tmp 43) 43 rfl w.heap.size 74 i0 1 Tryd.underlying43 hi hz1 w.heap.size i N (cellsV ss) rfl HOA.out ⟨wr.heap.size, 0, none⟩ 1 1 [V cy] rfl rfl (one_cell wr cy) (by intro u hu; simp at hu; subst hu; rfl) hsp ?_; intro w3 hw3 hgr3)
      have hR := HR.out
      have hbx : Below w.heap.size w w3 := (hR.bel.alloc hR.bel.size _).grown hgr3 (by have := hR.bel.size; simp; omega) (fun q hq => by simp at hq; omega)
      have e0 : cellsV (ss ++ [cy]) = cellsV ss ++ [V cy] := by unfold cellsV; rw [List.map_append]; rfl
      rw [← e0] at hw3
      have hl3 : (ss ++ [cy]).length = i + 1 := by simp [hR.len]
      have hd3 : Dig B32 (ss ++ [cy]) := hR.dig.append (Dig.cons hcyb (Dig.nil _))
      have A32 := own_at32 hw3 hl3 hd3
      have HNF : Hid (Nf B32 (trimL (ss ++ [cy])) (a * v + u)) := by
        have h1 := Nf.trim hd3
        have h2 := hR.sum
        rw [List.take_of_length_le (by rw [HLX.out]; omega), HX.out.val] at h2
        rw [valB_snoc, hR.len, h2] at h1; exact h1
      have hle := trimL_length_le (ss ++ [cy])
      have HLE : Hid ((trimL (ss ++ [cy])).length ≤ i + 1) := by show _ ≤ _; omega
      clear hw3 hgr3 e0 hl3 hd3 hle hR
      refine (rnorm_any A32 (by omega)).mono ?_
      rintro e w5 ⟨g5, rfl, hg5, hblk5, hb5⟩
      generalize trimL (ss ++ [cy]) = zs at *
      go_wp2_with fail
      go_ret
      exact ⟨g5, zs, rfl, hblk5, HNF.out, HLE.out, Below.on hbx hb5⟩
    | succ gg =>
      obtain ⟨g, off, rfl, hc⟩ := h.cells.resolve_left (by omega)
      obtain ⟨x, hxx⟩ : ∃ x, x = xs.getD i 0 := ⟨_, rfl⟩
      have hin : i < n := by omega
      have hcx0 : w.cell? ⟨g, off + i, none⟩ = some (V x) := by rw [hxx]; exact hc i hin
      have hcx : wr.cell? ⟨g, off + i, none⟩ = some (V x) := (HR.out.bel.cell (p := ⟨g, off + i, none⟩) (World.block_lt_of_cell? w _ hcx0)).trans hcx0
      have hxb : x < B32 := by rw [hxx]; exact HX.out.dig.getD B32_pos i
      have hxw : IntKind.u64.wrap (x : Int) = (x : Int) := wrap_mod _ _ (by rw [B32_eq] at hxb; omega)
      have hvw : IntKind.u64.wrap (v : Int) = (v : Int) := wrap_mod _ _ (by rw [B32_eq] at hv; omega)
      have HXE : Hid (x = xs.getD i 0) := hxx
      have hall := rmul_digit hxb hv B32_pos hcyb
      obtain ⟨xy, exy⟩ : ∃ xy, xy = x * v := ⟨_, rfl⟩
      rw [← exy] at hall
      rw [B64_eq] at hall
      have f1 : IntKind.u64.wrap ((x : Int) * (v : Int)) = (xy : Int) := by
        have e : ((x : Int) * (v : Int)) = ((x * v : Nat) : Int) := by simp
        rw [e, ← exy]; exact wrap_mod _ _ (by omega)
      obtain ⟨s2, es2⟩ : ∃ s2, s2 = cy + xy := ⟨_, rfl⟩
      have f3 : IntKind.u64.wrap ((cy : Int) + (xy : Int)) = (s2 : Int) := wrap_mod _ _ (by omega)
      have hs2 : s2 < 18446744073709551616 := by omega
      obtain ⟨lo, elo⟩ : ∃ lo, lo = s2 % B32 := ⟨_, rfl⟩
      obtain ⟨hh, ehh⟩ : ∃ hh, hh = s2 / B32 := ⟨_, rfl⟩
      have hlob : lo < B32 := by rw [elo]; exact Nat.mod_lt _ B32_pos
      have hhhb : hh < B32 := by rw [ehh]; exact Nat.div_lt_of_lt_mul (by rw [B32_two, B64_eq]; exact hs2)
      have f4 : bits .and .u64 (s2 : Int) 4294967295 = (lo : Int) := by rw [elo, B32_eq]; exact and32 s2 hs2
      have f5 : (s2 : Int) / 4294967296 = (hh : Int) := by rw [ehh, B32_eq]; exact div32 s2
      have f6 : IntKind.u32.wrap (lo : Int) = (lo : Int) := wrap32 lo hlob
      have HSUM : Hid (cy + x * v = lo + B32 * hh) := by
        have := Nat.mod_add_div s2 B32
        rw [← elo, ← ehh] at this
        show _ = _; omega
      have HOA : Hid ((wr.alloc (.cells #[V lo] 74)).ownsRow w.heap.size 74 1 (.slice (some ⟨w.heap.size, 0, none⟩) i N) i (cellsV ss)) := HR.out.own.alloc _
      have hsp : i + 1 ≤ N := by have := HN.out; omega
      clear hall exy es2 elo ehh hxx hcx0 hc
      go_wp2_with (at_builtin; refine wpList_append_fits _ rfl (.tmp 32) (.tmp 36) 43 rfl w.heap.size 74 i0 1 Tryd.underlying43 hi hz1 w.heap.size i N (cellsV ss) rfl HOA.out ⟨wr.heap.size, 0, none⟩ 1 1 [V lo] rfl rfl (one_cell wr lo) (by intro u hu; simp at hu; subst hu; rfl) hsp ?_; intro w3 hw3 hgr3)
      have HR3 : Hid (RSmR w w.heap.size N xs v u (i + 1) hh (ss ++ [lo]) w3) := by
        have hR := HR.out
        refine ⟨(hR.bel.alloc hR.bel.size _).grown hgr3 (by have := hR.bel.size; simp; omega) (fun q hq => by simp at hq; omega), ?_, by simp [hR.len], hR.dig.append (Dig.cons hlob (Dig.nil _)), hhhb, rsm_step hR.sum hR.len HXE.out HSUM.out⟩
        have e0 : cellsV (ss ++ [lo]) = cellsV ss ++ [V lo] := by unfold cellsV; rw [List.map_append]; rfl
        rw [e0]; exact hw3
      clear hw3 hgr3
      go_roundg gg
      case measure => omega
      case rel => exact ⟨i + 1, hh, ss ++ [lo], by omega, by go_num, rfl, rfl, HR3⟩
theorem wpList_make_room {P : Program} (w : World) {ops : Array Oper} {rest : List Oper} {o : Oper} {a : Act} {Q : Exit → Act → World → Prop}
    (hg : o.guard = none) (l c : Operand) (t : TypeId) (hop : o.op = Op.makeSlice t l c)
    (base : Nat) (e : TypeId) (i : TypeInfo) (z : Value) (size : Nat) (h1 : P.underlying t = some (.slice e)) (h2 : P.info? e = some i) (h3 : i.zero = some z) (h4 : i.size = size)
    (kl kc : IntKind) (L C : Int) (n m : Nat) (hl : a.eval l = .int kl L) (hc : a.eval c = .int kc C) (hL : L = (n : Int)) (hC : C = (m : Int)) (hnm : n ≤ m) (b2 : i.bytes * m ≤ 281474976710656) (b3 : m ≤ maxLen) (b4 : base ≤ w.heap.size)
    (hK : ∀ w', w'.ownsRow base e size (.slice (some ⟨w.heap.size, 0, none⟩) n m) n ((madeCells z.cells (m * size)).toList.take (n * size)) → w.grownBy w' none → wpList P ops Q rest (a.put o.dst (.slice (some ⟨w.heap.size, 0, none⟩) n m)) w') :
    wpList P ops Q (o :: rest) a w := by
  refine wpList_plain hg fun K hK' => ?_
  subst h4
  have h63' : (m : Int) ≤ 9223372036854775807 := by
    have h := b3
    simp [maxLen] at h
    omega
  have hb' : (i.bytes : Int) * (m : Int) ≤ 281474976710656 := by
    have h : ((i.bytes * m : Nat) : Int) ≤ 281474976710656 := by omega
    rwa [Int.natCast_mul] at h
  have hr := run_make (P := P) w t e i z h1 h2 h3 kl kc n m (by omega) (by omega) hb' h63'
  simp only [Int.toNat_natCast] at hr
  subst hL
  subst hC
  unfold Oper.wp
  simp [execOp, hop, hl, hc, hr, Result.andThen]
  refine hK' _ _ (hK _ ⟨?_, .inr ⟨_, m, _, rfl, b4, heap_alloc_new w _, hnm, b3, size_madeCells _ _, rfl⟩⟩ (World.grownBy_alloc w _ none))
  rw [List.length_take, Nat.min_eq_left]
  rw [Array.length_toList, size_madeCells]
  exact Nat.mul_le_mul_right _ hnm
theorem made_take (D M : Nat) (h : D ≤ M) : (madeCells (Value.cells (.int .u32 0)) (M * 1)).toList.take (D * 1) = cellsV (List.replicate D 0) := by
  rw [madeV, Nat.mul_one]
  unfold cellsV
  rw [List.map_replicate, List.map_replicate, List.take_replicate, Nat.min_eq_left h]
theorem valB_zeros (D : Nat) (zs : List Nat) : valB B32 (List.replicate D 0 ++ zs) = B32 ^ D * valB B32 zs := by
  rw [valB_append, valB_replicate, List.length_replicate, Nat.zero_add]

theorem own_below {w w' : World} {base g n m size : Nat} {e : TypeId} {xs : List Value} (h : w.ownsRow base e size (.slice (some ⟨g, 0, none⟩) n m) n xs) (hb : Below w.heap.size w w') (hg : g < w.heap.size) : w'.ownsRow base e size (.slice (some ⟨g, 0, none⟩) n m) n xs := by
  refine ⟨h.1, ?_⟩
  rcases h.2 with ⟨h', _⟩ | ⟨g', cap', cur, h', hbase, hgc, hr⟩
  · simp at h'
  · have h2 := h'
    simp only [Value.slice.injEq, Option.some.injEq, Addr.mk.injEq, and_true] at h2
    obtain ⟨rfl, _⟩ := h2
    exact .inr ⟨_, cap', cur, h', hbase, (hb.block _ hg).trans hgc, hr⟩
theorem blk_src {w : World} {g : Nat} {xs : List Nat} (h : Blk32 w g xs) : ∀ j u, (cellsV xs)[j]? = some u → w.cell? ((⟨g, 0, none⟩ : Addr).add j) = some u := by
  intro j u hu
  have hj : j < xs.length := by
    have := (List.getElem?_eq_some_iff.1 hu).1
    rwa [cellsV_length] at this
  have hadd : (⟨g, 0, none⟩ : Addr).add j = ⟨g, j, none⟩ := by unfold Addr.add; split <;> simp_all
  rw [hadd, h.cell j hj]
  rw [cellsV_get xs j hj] at hu
  exact hu

theorem rshl_any {p : Option Addr} {n c : Nat} {xs : List Nat} {a : Nat} {w : World} (h : At32 w p n c xs) (hx : Nf B32 xs a) (hn0 : 0 < n) (hn : n ≤ 16384) (N : Nat) (hN2 : N ≤ 524288) :
    Calls Tryd.prog 35 #[.slice p n c, .int .i64 N] w fun e w' => ∃ p' m' zs, e = .returned (.slice p' m' m') ∧ At32 w' p' m' m' zs ∧ Nf B32 zs (a * 2 ^ N) ∧ m' ≤ 40000 ∧ Below w.heap.size w w' := by
  obtain ⟨i0, hi, hz0, hz1, hz2⟩ := info_parts Tryd.infoU32
  have HX : Hid (Nf B32 xs a) := hx
  have HA : Hid (At32 w p n c xs) := h
  have HLX : Hid (xs.length = n) := h.len
  have cap := h.cap
  have big := h.big
  unfold maxLen at big
  have hne : ((n : Int) == 0) = false := by simp; omega
  clear hx h
  by_cases hN0 : N = 0
  · subst hN0
    go_enter Tryd.func35, Tryd.ntmps35
    go_wp2_with fail
    refine (rnorm_any HA.out (by omega)).mono ?_
    rw [trimL_of_Top HX.out.top]
    rintro e w1 ⟨g, rfl, hg, hb, hbl⟩
    have HB : Hid (Blk32 w1 g xs) := hb
    rw [HLX.out]
    clear hb
    go_wp2_with fail
    go_ret
    exact ⟨_, n, xs, rfl, HB.out.at_ HX.out.dig HLX.out (by unfold maxLen; omega), by rw [Nat.pow_zero, Nat.mul_one]; exact HX.out, by omega, hbl⟩
  · obtain ⟨D, hD⟩ : ∃ D, D = N / 32 := ⟨_, rfl⟩
    obtain ⟨R, hR⟩ : ∃ R, R = N % 32 := ⟨_, rfl⟩
    have d1 : (N : Int).tdiv 32 = (D : Int) := by rw [Int.tdiv_eq_ediv_of_nonneg (by omega)]; omega
    have d2 : (N : Int).tmod 32 = (R : Int) := by rw [Int.tmod_eq_emod_of_nonneg (by omega)]; omega
    have hNp : ¬ (N : Int) ≤ 0 := by omega
    have hR32 : R < 32 := by omega
    have hDb : D ≤ 16384 := by omega
    have HD : Hid (2 ^ N = B32 ^ D * 2 ^ R) := by show _ = _; rw [show B32 = 2 ^ 32 from rfl, ← Nat.pow_mul, ← Nat.pow_add]; congr 1; omega
    obtain ⟨M, hM⟩ : ∃ M, M = D + n + 1 := ⟨_, rfl⟩
    have hMI : (D : Int) + (n : Int) + 1 = (M : Int) := by omega
    have HM : Hid (M = D + n + 1) := hM
    have hMb : M ≤ 33000 := by omega
    have hDM : D ≤ M := by omega
    obtain ⟨d, hd⟩ : ∃ d, d = 2 ^ R := ⟨_, rfl⟩
    have hd1 : 1 ≤ d := by rw [hd]; exact Nat.pow_pos (by decide)
    have hdB : d < B32 := by rw [hd, show B32 = 2 ^ 32 from rfl]; exact Nat.pow_lt_pow_right (by decide) hR32
    have hdw : IntKind.u32.wrap (d : Int) = (d : Int) := wrap32 d hdB
    have hdI : (2 : Int) ^ R = (d : Int) := by rw [hd]; norm_cast
    have HDD : Hid (d = 2 ^ R ∧ 1 ≤ d ∧ d < B32) := ⟨hd, hd1, hdB⟩
    clear hD hR hM hd hd1 hdB
    go_enter Tryd.func35, Tryd.ntmps35
    go_wp2_with (at_make; refine wpList_make_room _ rfl _ _ 43 rfl w.heap.size 74 i0 (.int .u32 0) 1 Tryd.underlying43 hi hz0 hz1 _ _ _ _ D M rfl rfl (by omega) (by omega) hDM (by rw [hz2]; omega) (by unfold maxLen; omega) (Nat.le_refl _) ?_; intro w1 hown hgrow)
    have hb1 : Below w.heap.size w w1 := (Below.refl _ _).grown hgrow (Nat.le_refl _) (fun k hk => by simp at hk)
    rw [made_take D M hDM] at hown
    have HO : Hid (w1.ownsRow w.heap.size 74 1 (.slice (some ⟨w.heap.size, 0, none⟩) D M) D (cellsV (List.replicate D 0))) := hown
    have HA1 : Hid (At32 w1 p n c xs) := HA.out.below hb1
    have HB1 : Hid (Below w.heap.size w w1) := hb1
    have HSZ : Hid (w.heap.size < w1.heap.size) := by
      rcases HO.out.2 with ⟨h', _⟩ | ⟨g', _, _, h', _, hgc, _⟩
      · simp at h'
      · simp only [Value.slice.injEq, Option.some.injEq, Addr.mk.injEq, and_true] at h'
        obtain ⟨rfl, _⟩ := h'
        exact (Array.getElem?_eq_some_iff.1 hgc).1
    clear hown hgrow hb1 HA
    rw [show Value.int IntKind.u32 (d : Int) = V d from rfl, show Value.int IntKind.u32 0 = V 0 from rfl]
    refine (rsmall_any HA1.out HX.out (by omega) HDD.out.2.2 (show 0 < B32 by decide)).mono ?_
    rintro e w2 ⟨g2, z2, rfl, hk2, hn2, hl2, hb2⟩
    rw [Nat.add_zero] at hn2
    have HO2 : Hid (w2.ownsRow w.heap.size 74 1 (.slice (some ⟨w.heap.size, 0, none⟩) D M) D (cellsV (List.replicate D 0))) := own_below HO.out hb2 HSZ.out
    have HK2 : Hid (Blk32 w2 g2 z2) := hk2
    have HN2 : Hid (Nf B32 z2 (a * d)) := hn2
    have HB2 : Hid (Below w.heap.size w w2) := Below.on HB1.out hb2
    obtain ⟨l2, hle2⟩ : ∃ l2, l2 = z2.length := ⟨_, rfl⟩
    have HL2 : Hid (z2.length = l2) := hle2.symm
    rw [← hle2] at hl2 ⊢
    have hsp : D + l2 ≤ M := by have := HM.out; omega
    clear hk2 hn2 hb2 hle2 HO HA1 HB1
    go_wp2_with (at_builtin; refine wpList_append_fits _ rfl (.tmp 24) (.tmp 29) 43 rfl w.heap.size 74 i0 1 Tryd.underlying43 hi hz1 w.heap.size D M (cellsV (List.replicate D 0)) rfl HO2.out ⟨g2, 0, none⟩ l2 l2 (cellsV z2) rfl (by rw [cellsV_length, HL2.out, Nat.mul_one]) (blk_src HK2.out) (cellsV_one _) hsp ?_; intro w3 hw3 hgr3)
    have hd3 : Dig B32 (List.replicate D 0 ++ z2) := (Dig.replicate B32 D B32_pos).append HN2.out.dig
    have hl3 : (List.replicate D 0 ++ z2).length = D + l2 := by rw [List.length_append, List.length_replicate, HL2.out]
    have A3 : Hid (At32 w3 (some ⟨w.heap.size, 0, none⟩) (D + l2) M (List.replicate D 0 ++ z2)) := own_at32 (by rw [show cellsV (List.replicate D 0 ++ z2) = cellsV (List.replicate D 0) ++ cellsV z2 from by unfold cellsV; rw [List.map_append]]; exact hw3) hl3 hd3
    have HB3 : Hid (Below w.heap.size w w3) := HB2.out.grown hgr3 HB2.out.size (fun q hq => by simp at hq; omega)
    have NF3 : Hid (Nf B32 (trimL (List.replicate D 0 ++ z2)) (a * 2 ^ N)) := by
      have h1 := Nf.trim hd3
      rw [valB_zeros, HN2.out.val] at h1
      have e1 : B32 ^ D * (a * d) = a * 2 ^ N := by rw [HD.out, ← HDD.out.1, Nat.mul_left_comm]
      rw [e1] at h1; exact h1
    have hle3 : (trimL (List.replicate D 0 ++ z2)).length ≤ D + l2 := by have h1 := trimL_length_le (List.replicate D 0 ++ z2); omega
    clear hw3 hgr3 hl3 hd3
    refine (rnorm_any A3.out (by omega)).mono ?_
    rintro e w4 ⟨g4, rfl, hg4, hb4, hbl4⟩
    have A4 : Hid (At32 w4 (some ⟨g4, 0, none⟩) (trimL (List.replicate D 0 ++ z2)).length (trimL (List.replicate D 0 ++ z2)).length (trimL (List.replicate D 0 ++ z2))) := hb4.at_ NF3.out.dig rfl (by unfold maxLen; omega)
    have hbw4 := Below.on HB3.out hbl4
    generalize trimL (List.replicate D 0 ++ z2) = z4 at *
    clear hb4 hbl4 hg4
    go_wp2_with fail
    go_ret
    exact ⟨_, _, z4, rfl, A4.out, NF3.out, by omega, hbw4⟩
structure B5 (W : World) (g : Nat) (v0 v1 v2 v3 v4 : Value) : Prop where
  c0 : W.cell? ⟨g, 0, none⟩ = some v0
  c1 : W.cell? ⟨g, 1, none⟩ = some v1
  c2 : W.cell? ⟨g, 2, none⟩ = some v2
  c3 : W.cell? ⟨g, 3, none⟩ = some v3
  c4 : W.cell? ⟨g, 4, none⟩ = some v4
  f0 : W.frozen? ⟨g, 0, none⟩ = false
  f1 : W.frozen? ⟨g, 1, none⟩ = false
  f2 : W.frozen? ⟨g, 2, none⟩ = false
  f3 : W.frozen? ⟨g, 3, none⟩ = false
  f4 : W.frozen? ⟨g, 4, none⟩ = false
theorem B5.below {W W' : World} {g : Nat} {v0 v1 v2 v3 v4 : Value} (h : B5 W g v0 v1 v2 v3 v4) (hb : Below W.heap.size W W') : B5 W' g v0 v1 v2 v3 v4 := by
  have hl : g < W.heap.size := World.block_lt_of_cell? W _ h.c0
  exact ⟨(hb.cell (p := ⟨g, 0, none⟩) hl).trans h.c0, (hb.cell (p := ⟨g, 1, none⟩) hl).trans h.c1, (hb.cell (p := ⟨g, 2, none⟩) hl).trans h.c2, (hb.cell (p := ⟨g, 3, none⟩) hl).trans h.c3, (hb.cell (p := ⟨g, 4, none⟩) hl).trans h.c4,
    (hb.frozen (p := ⟨g, 0, none⟩) hl).trans h.f0, (hb.frozen (p := ⟨g, 1, none⟩) hl).trans h.f1, (hb.frozen (p := ⟨g, 2, none⟩) hl).trans h.f2, (hb.frozen (p := ⟨g, 3, none⟩) hl).trans h.f3, (hb.frozen (p := ⟨g, 4, none⟩) hl).trans h.f4⟩
theorem B5.new (w : World) (ty : TypeId) (v0 v1 v2 v3 v4 : Value) : B5 (w.alloc (.cells #[v0, v1, v2, v3, v4] ty)) w.heap.size v0 v1 v2 v3 v4 :=
  ⟨by go_simp, by go_simp, by go_simp, by go_simp, by go_simp, by go_simp, by go_simp, by go_simp, by go_simp, by go_simp⟩
theorem DocIs.inj {v : Nat} {us us' : List Nat} {f f' : Int} (h : DocIs v us f) (k : DocIs v us' f') : us = us' ∧ f = f' := by
  rcases h with ⟨h1, h2, rfl⟩ | ⟨h1, rfl, rfl⟩ <;> rcases k with ⟨k1, k2, rfl⟩ | ⟨k1, rfl, rfl⟩
  · exact ⟨h2.inj B64_one k2, rfl⟩
  · omega
  · omega
  · exact ⟨rfl, rfl⟩
theorem DocIs.er {v : Nat} {us : List Nat} {f : Int} (h : DocIs v us f) : f = 0 ∨ f = 5 := by
  rcases h with ⟨_, _, rfl⟩ | ⟨_, _, rfl⟩ <;> simp
structure Op5 where
  k : Int
  pa : Option Addr
  na : Nat
  ca : Nat
  xa : List Nat
  pb : Option Addr
  nb : Nat
  cb : Nat
  xb : List Nat
  nn : Int
  wd : Nat
structure Scr (w : World) (P : Option Addr) (N C : Nat) (its : List Op5) : Prop where
  len : its.length = N
  cap : N ≤ C
  big : C ≤ maxLen
  ats : ∀ t ∈ its, At w t.pa t.na t.ca t.xa ∧ At w t.pb t.nb t.cb t.xb ∧ t.na ≤ 17592186044416 ∧ t.nb ≤ 17592186044416 ∧ t.wd < B64 ∧ -9223372036854775808 ≤ t.nn ∧ t.nn ≤ 9223372036854775807
  cells : N = 0 ∨ ∃ g off, P = some ⟨g, off, none⟩ ∧ ∀ i (h : i < its.length), w.cell? ⟨g, off + i * 5, none⟩ = some (.int .i64 its[i].k) ∧ w.cell? ⟨g, off + i * 5 + 1, none⟩ = some (.slice its[i].pa its[i].na its[i].ca) ∧
    w.cell? ⟨g, off + i * 5 + 2, none⟩ = some (.slice its[i].pb its[i].nb its[i].cb) ∧ w.cell? ⟨g, off + i * 5 + 3, none⟩ = some (.int .i64 its[i].nn) ∧ w.cell? ⟨g, off + i * 5 + 4, none⟩ = some (U its[i].wd)
theorem Scr.below {w w' : World} {P : Option Addr} {N C : Nat} {its : List Op5} (h : Scr w P N C its) (hb : Below w.heap.size w w') : Scr w' P N C its := by
  refine ⟨h.len, h.cap, h.big, fun t ht => ?_, ?_⟩
  · obtain ⟨h1, h2, h3⟩ := h.ats t ht
    exact ⟨h1.below hb, h2.below hb, h3⟩
  · rcases h.cells with h0 | ⟨g, off, hP, hc⟩
    · exact .inl h0
    · refine .inr ⟨g, off, hP, fun i hi => ?_⟩
      obtain ⟨h0, h1, h2, h3, h4⟩ := hc i hi
      have hl : g < w.heap.size := World.block_lt_of_cell? w _ h0
      exact ⟨(hb.cell (p := ⟨g, off + i * 5, none⟩) hl).trans h0, (hb.cell (p := ⟨g, off + i * 5 + 1, none⟩) hl).trans h1, (hb.cell (p := ⟨g, off + i * 5 + 2, none⟩) hl).trans h2,
        (hb.cell (p := ⟨g, off + i * 5 + 3, none⟩) hl).trans h3, (hb.cell (p := ⟨g, off + i * 5 + 4, none⟩) hl).trans h4⟩
def ShIs (r : Nat → Nat → Nat) (xs : List Nat) (t : Int) (us : List Nat) (f : Int) : Prop :=
  (t < 0 ∧ us = [] ∧ f = 1) ∨ (0 ≤ t ∧ formB xs = false ∧ us = [] ∧ f = 2) ∨ (0 ≤ t ∧ formB xs = true ∧ DocIs (r (valB B64 xs) t.toNat) us f)
theorem ShIs.inj {r : Nat → Nat → Nat} {xs : List Nat} {t : Int} {us us' : List Nat} {f f' : Int} (h : ShIs r xs t us f) (k : ShIs r xs t us' f') : us = us' ∧ f = f' := by
  rcases h with ⟨h1, rfl, rfl⟩ | ⟨h1, h2, rfl, rfl⟩ | ⟨h1, h2, h3⟩ <;> rcases k with ⟨k1, rfl, rfl⟩ | ⟨k1, k2, rfl, rfl⟩ | ⟨k1, k2, k3⟩
  · exact ⟨rfl, rfl⟩
  · omega
  · omega
  · omega
  · exact ⟨rfl, rfl⟩
  · rw [k2] at h2; simp at h2
  · omega
  · rw [k2] at h2; simp at h2
  · exact h3.inj k3
theorem ShIs.er {r : Nat → Nat → Nat} {xs us : List Nat} {t f : Int} (h : ShIs r xs t us f) : f = 0 ∨ f = 1 ∨ f = 2 ∨ f = 3 ∨ f = 4 ∨ f = 5 := by
  rcases h with ⟨_, _, rfl⟩ | ⟨_, _, _, rfl⟩ | ⟨_, _, ⟨_, _, rfl⟩ | ⟨_, _, rfl⟩⟩ <;> simp
theorem rof04 (z : Int) (w : World) (h0 : -9223372036854775808 ≤ z) (h1 : z ≤ 9223372036854775807) :
    Calls Tryd.prog 31 #[.int .i64 z] w fun e w' => ∃ s g m, e = .returned (.agg #[.bool s, .slice (some ⟨g, 0, none⟩) m m]) ∧ ZR w' s (some ⟨g, 0, none⟩) m z ∧ m ≤ 3 ∧ Below w.heap.size w w' :=
  (rof_any z w h0 h1).mono fun _ _ ⟨g, m, zs, he, hA, hN, hl, hb⟩ => ⟨_, g, m, he, ⟨⟨zs, hA, hN⟩, rfl⟩, hl, hb⟩
theorem rshl_nil {p : Option Addr} {c : Nat} {w : World} (hc : c ≤ maxLen) (k : Int) :
    Calls Tryd.prog 35 #[.slice p 0 c, .int .i64 k] w fun e w' => ∃ g, e = .returned (.slice (some ⟨g, 0, none⟩) 0 0) ∧ At32 w' (some ⟨g, 0, none⟩) 0 0 [] ∧ Below w.heap.size w w' := by
  have HC : Hid (c ≤ maxLen) := hc
  clear hc
  by_cases h0 : k ≤ 0
  · have h1 : ¬ 0 < k := by omega
    go_enter Tryd.func35, Tryd.ntmps35
    go_wp2_with fail
    refine (rnorm_any (At32.empty w p c HC.out) (by omega)).mono ?_
    rintro e w1 ⟨g, rfl, hg, hblk, hb⟩
    go_wp2_with fail
    go_ret
    exact ⟨g, rfl, At32.empty _ _ _ (by decide), hb⟩
  · have h1 : 0 < k := by omega
    go_enter Tryd.func35, Tryd.ntmps35
    go_wp2_with fail
    refine (rnorm_any (At32.empty w p c HC.out) (by omega)).mono ?_
    rintro e w1 ⟨g, rfl, hg, hblk, hb⟩
    go_wp2_with fail
    go_ret
    exact ⟨g, rfl, At32.empty _ _ _ (by decide), hb⟩
theorem rshl_all {p : Option Addr} {n : Nat} {xs : List Nat} {a : Nat} {w : World} (h : At32 w p n n xs) (hx : Nf B32 xs a) (hn : n ≤ 16384) (k : Nat) (hk : k ≤ 524288 ∨ a = 0) :
    Calls Tryd.prog 35 #[.slice p n n, .int .i64 k] w fun e w' => ∃ p' m' zs, e = .returned (.slice p' m' m') ∧ At32 w' p' m' m' zs ∧ Nf B32 zs (a * 2 ^ k) ∧ m' ≤ 40000 ∧ Below w.heap.size w w' := by
  rcases Nat.eq_zero_or_pos n with h0 | h0
  · subst h0
    have ha : a = 0 := (hx.zero_iff B32_one).1 (List.eq_nil_of_length_eq_zero h.len)
    refine (rshl_nil (by unfold maxLen; omega) (k : Int)).mono ?_
    rintro e w' ⟨g, he, hA, hb⟩
    exact ⟨_, 0, [], he, hA, by rw [ha, Nat.zero_mul]; exact Nf.nil _, by omega, hb⟩
  · refine rshl_any h hx h0 hn k (hk.resolve_right fun e => ?_)
    have := (hx.zero_iff B32_one).2 e
    rw [this] at h
    have := h.len
    simp at this
    omega
theorem iv_mul_nat (s : Bool) (a k : Nat) : iv s (a * k) = iv s a * (k : Int) := by cases s <;> simp [iv, Int.neg_mul]
theorem rshl04 {p : Option Addr} {m : Nat} {w : World} {x : Int} (s : Bool) (h : ZR w s p m x) (hm : m ≤ 16384) (k : Nat) (hk : k ≤ 524288 ∨ x = 0) :
    Calls Tryd.prog 18 #[.agg #[.bool s, .slice p m m], .int .i64 k] w fun e w' => ∃ v, e = .returned v ∧ GotR w.heap.size w' v (x * 2 ^ k) (40000) ∧ Below w.heap.size w w' := by
  have HA : Hid (ZR w s p m x) := h
  have HM : Hid (m ≤ 16384 ∧ (k ≤ 524288 ∨ x = 0)) := ⟨hm, hk⟩
  have HZV : Hid (iv s (x.natAbs * 2 ^ k) = x * 2 ^ k) := by show _ = _; rw [iv_mul_nat, h.iv]; rfl
  obtain ⟨xs, hAx, hNx⟩ := h.ex
  have HNX : Hid (Nf B32 xs x.natAbs) := hNx
  have AX : Hid (At32 w p m m xs) := hAx
  clear h hm hk hAx hNx
  go_enter Tryd.func18, Tryd.ntmps18
  go_wp2_with fail
  obtain ⟨W0, hW0⟩ : ∃ W0, W0 = ((w.alloc (.cells #[.bool s, .slice p m m] 45)).alloc (.cells #[.bool false, .slice none 0 0] 45)) := ⟨_, rfl⟩
  have Xa : Hid (Box W0 (w.heap.size) (.bool s) (.slice p m m)) := by rw [hW0]; exact ⟨by go_simp, by go_simp, by go_simp, by go_simp⟩
  have Xr : Hid (Box W0 (w.heap.size + 1) (.bool false) (.slice none 0 0)) := by rw [hW0]; exact ⟨by go_simp, by go_simp, by go_simp, by go_simp⟩
  have hb0 : Below w.heap.size w W0 := by rw [hW0]; exact below2 w _ _
  rw [← hW0]
  clear hW0
  have hbw : Below w.heap.size w w := Below.refl _ _
  obtain ⟨gr, hgr⟩ : ∃ g, g = w.heap.size + 1 := ⟨_, rfl⟩
  have HGr : Hid (w.heap.size ≤ gr) := by rw [hgr]; show _ ≤ _; omega
  rw [← hgr] at Xr
  try rw [← hgr]
  obtain ⟨ga, hga⟩ : ∃ g, g = w.heap.size := ⟨_, rfl⟩
  have HGa : Hid (w.heap.size ≤ ga) := by rw [hga]; show _ ≤ _; omega
  rw [← hga] at Xa
  try rw [← hga]
  have HGD : Hid (ga ≠ gr ∧ gr ≠ ga) := by rw [hga, hgr]; exact ⟨by omega, by omega⟩
  clear hga hgr
  replace AX : Hid _ := AX.out.below hb0
  replace hbw := Below.on hbw hb0
  clear hb0
  obtain ⟨W1, hW1⟩ : ∃ W1, W1 = W0.drew := ⟨_, rfl⟩
  have hbd : Below W0.heap.size W0 W1 := by rw [hW1]; exact bDrew1 (Below.refl _ _)
  replace Xa : Hid _ := Xa.out.below hbd
  replace Xr : Hid _ := Xr.out.below hbd
  replace AX : Hid _ := AX.out.below hbd
  replace hbw := Below.on hbw hbd
  clear hbd
  have HJ : Hid ((fun W' : World => W'.cell? ⟨ga, 0, none⟩ = some (.bool s) ∧ W'.cell? ⟨ga, 1, none⟩ = some (.slice p m m)) W1) := ⟨Xa.out.c0, Xa.out.c1⟩
  refine wp_region_J (fun W' => W'.cell? ⟨ga, 0, none⟩ = some (.bool s) ∧ W'.cell? ⟨ga, 1, none⟩ = some (.slice p m m)) (by kernel_rfl) ?_
  rw [← hW1]
  clear hW1
  refine wpJ_tq 0 rfl HJ.out ?_
  refine wpJ_tq 1 rfl HJ.out ?_
  refine wpJ_tq 2 rfl HJ.out ?_
  refine wpJ_tq 3 rfl HJ.out ?_
  refine wpJ_tq 4 rfl HJ.out ?_
  refine wpJ_on 5 rfl fun KJ hK => ?_
  go_simp
  refine (rshl_all AX.out HNX.out HM.out.1 k (by have := HM.out.2; omega)).mono ?_
  rintro e v2 ⟨p2, m2, z2, rfl, hA2, hN2, hl2, hb2⟩
  replace Xa : Hid _ := Xa.out.below hb2
  replace Xr : Hid _ := Xr.out.below hb2
  replace AX : Hid _ := AX.out.below hb2
  replace hbw := Below.on hbw hb2
  clear hb2
  have A2 : Hid (At32 v2 p2 m2 m2 z2) := hA2
  have N2 : Hid (Nf B32 z2 (x.natAbs * 2 ^ k) ∧ m2 ≤ 40000) := ⟨hN2, hl2⟩
  clear hA2 hN2 hl2
  refine hK _ _ ⟨Xa.out.c0, Xa.out.c1⟩ ?_
  clear hK
  have HRB : Hid (gr < v2.heap.size ∧ w.heap.size ≤ v2.heap.size) := ⟨Xr.out.lt, hbw.size⟩
  refine wpJ_on 6 rfl fun KJ hK => ?_
  go_simp
  refine (rmk_any s A2.out N2.out.1 (by have := N2.out.2; omega)).mono ?_
  rintro e v3 ⟨v, rfl, hv, hb3⟩
  rw [HZV.out] at hv
  obtain ⟨s9, g9, m9, rfl, hg9, hz9, hl9⟩ := hv
  have HN9 : Hid (v2.heap.size ≤ g9) := hg9
  replace Xa : Hid _ := Xa.out.below hb3
  replace Xr : Hid _ := Xr.out.below hb3
  replace AX : Hid _ := AX.out.below hb3
  replace A2 : Hid _ := A2.out.below hb3
  replace hbw := Below.on hbw hb3
  clear hb3
  have Z9 : Hid (ZR v3 s9 (some ⟨g9, 0, none⟩) m9 (x * 2 ^ k)) := hz9
  have HL9 : Hid (m9 ≤ 40000) := Nat.le_trans hl9 N2.out.2
  clear hg9 hz9 hl9
  refine hK _ _ ⟨Xa.out.c0, Xa.out.c1⟩ ?_
  clear hK
  obtain ⟨cr0, cr1, fr0, fr1⟩ := Xr.out
  have hner := Xr.out.lt
  obtain ⟨ca0, ca1, fa0, fa1⟩ := Xa.out
  have hnea := Xa.out.lt
  obtain ⟨hgd0, hgd1⟩ := HGD.out
  refine wpJ_on 7 rfl fun KJ hK => ?_
  go_simp
  have HJ2 : Hid ((fun W' : World => W'.cell? ⟨ga, 0, none⟩ = some (.bool s) ∧ W'.cell? ⟨ga, 1, none⟩ = some (.slice p m m)) ((v3.setCell ⟨gr, 0, none⟩ (.bool s9)).setCell ⟨gr, 1, none⟩ (.slice (some ⟨g9, 0, none⟩) m9 m9))) := ⟨by go_simp, by go_simp⟩
  refine hK _ _ HJ2.out ?_
  clear hK HJ
  have HJ := HJ2
  clear HJ2
  refine wpJ_done (by kernel_rfl) ?_ _
  clear HJ
  go_wp2_with fail
  refine bodyPost_ret (v := .agg #[.bool s9, .slice (some ⟨g9, 0, none⟩) m9 m9]) (by rw [results_cell1 rfl]; go_simp) rfl ⟨_, rfl, ⟨s9, g9, m9, rfl, Nat.le_trans HRB.out.2 HN9.out, ?_, HL9.out⟩, ?_⟩
  · have := HN9.out; have := HRB.out.1
    exact (Z9.out.set _ _ _ (by omega)).set _ _ _ (by omega)
  · exact bSet (bSet hbw _ _ _ HGr.out) _ _ _ HGr.out
abbrev F64t : Value := FV 9223372036854775808 53 (-1074) 971 9218868437227405312 9221120237041090561
theorem rparts_64nt (s : Nat) (hs : 4503599627370496 ≤ s) (hs9 : s < 9223372036854775808) (w : World) : Calls Tryd.prog 25 #[F64t, U s] w fun e w' => e = .returned (.tuple #[U (s - (s / 4503599627370496 - 1) * 4503599627370496), .int .i64 ((-1074) + ((s / 4503599627370496 - 1 : Nat) : Int))]) ∧ Below w.heap.size w w' := by
  obtain ⟨z, hz⟩ : ∃ z, z = s / 4503599627370496 := ⟨_, rfl⟩
  obtain ⟨r, hr⟩ : ∃ r, r = s % 4503599627370496 := ⟨_, rfl⟩
  have d1 : (s : Int).tdiv 4503599627370496 = (z : Int) := by rw [Int.tdiv_eq_ediv_of_nonneg (by omega)]; omega
  have d2 : (s : Int).tmod 4503599627370496 = (r : Int) := by rw [Int.tmod_eq_emod_of_nonneg (by omega)]; omega
  have d3 : IntKind.u64.wrap (z : Int) = (z : Int) := by rw [IntKind.wrap_u64]; omega
  have d4 : IntKind.u64.wrap (r : Int) = (r : Int) := by rw [IntKind.wrap_u64]; omega
  have hzb : ((z : Int) == 0) = false := by simp; omega
  obtain ⟨y, hy⟩ : ∃ y, y = s - (z - 1) * 4503599627370496 := ⟨_, rfl⟩
  obtain ⟨x, hx⟩ : ∃ x : Int, x = (-1074) + ((z - 1 : Nat) : Int) := ⟨_, rfl⟩
  obtain ⟨x1, hx1⟩ : ∃ x1 : Int, x1 = (-1074) + (z : Int) := ⟨_, rfl⟩
  rw [← hz, ← hy, ← hx]
  have d5 : IntKind.u64.wrap (4503599627370496 + (r : Int)) = (y : Int) := by rw [IntKind.wrap_u64]; omega
  have d6 : IntKind.i64.wrap (z : Int) = (z : Int) := by simp [IntKind.wrap, IntKind.signed, IntKind.bits]; omega
  have d7 : IntKind.i64.wrap ((-1074) + (z : Int)) = x1 := by rw [hx1]; simp [IntKind.wrap, IntKind.signed, IntKind.bits]; omega
  have d8 : IntKind.i64.wrap (x1 - 1) = x := by simp [IntKind.wrap, IntKind.signed, IntKind.bits]; omega
  clear hz hr hs hs9 hy hx hx1
  go_enter Tryd.func25, Tryd.ntmps25
  go_wp2_with fail
  go_quiet (fail)
  go_wp2_with fail
  go_quiet (fail)
  go_wp2_with fail
  go_ret2
  exact ⟨rfl, bwDrewN (bwDrewN (bwAlloc w _) _) _⟩
theorem rparts_640t (s : Nat) (hs : s < 4503599627370496) (w : World) : Calls Tryd.prog 25 #[F64t, U s] w fun e w' => e = .returned (.tuple #[U s, .int .i64 (-1074)]) ∧ Below w.heap.size w w' := by
  obtain ⟨z, hz⟩ : ∃ z, z = s / 4503599627370496 := ⟨_, rfl⟩
  obtain ⟨r, hr⟩ : ∃ r, r = s % 4503599627370496 := ⟨_, rfl⟩
  have d1 : (s : Int).tdiv 4503599627370496 = (z : Int) := by rw [Int.tdiv_eq_ediv_of_nonneg (by omega)]; omega
  have d2 : (s : Int).tmod 4503599627370496 = (r : Int) := by rw [Int.tmod_eq_emod_of_nonneg (by omega)]; omega
  have d3 : IntKind.u64.wrap (z : Int) = (z : Int) := by rw [IntKind.wrap_u64]; omega
  have d4 : IntKind.u64.wrap (r : Int) = (r : Int) := by rw [IntKind.wrap_u64]; omega
  have hz0 : z = 0 := by omega
  have hrs : r = s := by omega
  subst hz0
  subst hrs
  clear hz hr hs
  go_enter Tryd.func25, Tryd.ntmps25
  go_wp2_with fail
  go_quiet (fail)
  go_wp2_with fail
  go_quiet (fail)
  go_wp2_with fail
  go_ret2
  exact ⟨rfl, bwDrewN (bwDrewN (bwAlloc w _) _) _⟩
theorem rparts_all64 (s : Nat) (hs9 : s < 9223372036854775808) (w : World) : Calls Tryd.prog 25 #[F64t, U s] w fun e w' => e = .returned (.tuple #[U (s - (s / 4503599627370496 - 1) * 4503599627370496), .int .i64 ((-1074) + ((s / 4503599627370496 - 1 : Nat) : Int))]) ∧ Below w.heap.size w w' := by
  by_cases h : s < 4503599627370496
  · have h1 : s / 4503599627370496 = 0 := Nat.div_eq_of_lt h
    rw [h1, show 0 - 1 = 0 from rfl, Nat.zero_mul, Nat.sub_zero, show ((-1074 : Int) + ((0 : Nat) : Int)) = -1074 from rfl]
    exact rparts_640t s h w
  · exact rparts_64nt s (by omega) (by omega) w
theorem zr_len9 {w : World} {s : Bool} {p : Option Addr} {m : Nat} {z : Int} (h : ZR w s p m z) {L : Nat} (hL : z.natAbs < 2 ^ L) : m ≤ L := by
  obtain ⟨zs, hA, hN⟩ := h.ex
  have h1 := (hN.len_le B32_one (k := L)).2 (Nat.lt_of_lt_of_le hL (Nat.pow_le_pow_left (by decide) L))
  rw [hA.len] at h1
  exact h1
theorem GotR.len9 {B : Nat} {w : World} {v : Value} {z : Int} {L L' : Nat} (h : GotR B w v z L) (hL : z.natAbs < 2 ^ L') : GotR B w v z L' := by
  obtain ⟨s, g, m, h1, h2, h3, _⟩ := h
  exact ⟨s, g, m, h1, h2, h3, zr_len9 h3 hL⟩
theorem svS_lt {S H : Nat} (b : Nat) {L a c : Nat} (hH : H ≤ 2 ^ a) (h0 : 0 < H) (hS : S ≤ c * H) (hS0 : 0 < S) (hL : a + c ≤ L) : (svS S H b).natAbs < 2 ^ L := by
  rw [svS_eq]
  have h1 : (if S ≤ b then -(vs H (b % S) : Int) else (vs H (b % S) : Int)).natAbs = vs H (b % S) := by split <;> omega
  rw [h1]
  have h2 : b % S < c * H := Nat.lt_of_lt_of_le (Nat.mod_lt _ hS0) hS
  have h3 : b % S / H < c := (Nat.div_lt_iff_lt_mul h0).2 h2
  have e1 := Nat.div_add_mod (b % S) H
  have e2 := Nat.mod_lt (b % S) h0
  rw [Nat.mul_comm] at e1
  have h4 : b % S - (b % S / H - 1) * H < 2 * H := by
    by_cases e3 : b % S / H = 0
    · rw [e3] at e1 ⊢; omega
    · rw [Nat.sub_mul]; omega
  unfold vs
  have h5 : 2 ^ (b % S / H - 1) ≤ 2 ^ (c - 1) := Nat.pow_le_pow_right (by decide) (by generalize b % S / H = t at h3 ⊢; omega)
  have h6 : 0 < 2 ^ (b % S / H - 1) := Nat.two_pow_pos _
  refine Nat.lt_of_lt_of_le (Nat.mul_lt_mul_of_pos_right h4 h6) (Nat.le_trans (Nat.mul_le_mul (Nat.mul_le_mul_left 2 hH) h5) ?_)
  rw [← Nat.pow_succ', ← Nat.pow_add]
  have h7 : 1 ≤ c := Nat.lt_of_le_of_lt (Nat.zero_le _) h3
  exact Nat.pow_le_pow_right (by decide) (by omega)
def rFs (x : Int) (k : Nat) : Int := fl (decide (x < 0)) x.natAbs (2 ^ k)
end Go.Proofs.YtnijhlbociechaaDoor
