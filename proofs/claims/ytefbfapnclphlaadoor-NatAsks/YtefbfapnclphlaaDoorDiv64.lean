import Derived.Test.YtefbfapnclphlaaDoorBits
import Derived.Test.YtefbfapnclphlaaDoorDivMath
namespace Go.Proofs.YtefbfapnclphlaaDoor
open Go.RowKit

set_option maxRecDepth 20000 in
set_option maxHeartbeats 400000 in
theorem lz_any (x s : Nat) (w : World) (hx : x < B64) (hs : s + bitsN x = 64) : Calls Tryd.prog 30 #[U x] w fun e w' => e = .returned (.int .i64 s) ∧ w' = w := by
  go_enter Tryd.func30, Tryd.ntmps30
  go_wp2_with fail
  refine (len_any x _ hx).mono ?_
  rintro e w' ⟨rfl, hw⟩
  obtain rfl := hw.symm
  clear hw
  go_wp2_with fail
  go_ret
  exact ⟨ret_int (by omega), rfl⟩

theorem wrap_mod (n : Int) (m : Nat) (h : n % 18446744073709551616 = (m : Int)) : IntKind.u64.wrap n = (m : Int) := by rw [IntKind.wrap_u64]; exact h
theorem u_quo (lo y : Nat) (hlo : lo < B64) : IntKind.u64.wrap ((lo : Int) / (y : Int)) = ((lo / y : Nat) : Int) := by
  have := Nat.div_le_self lo y
  rw [B64_eq] at hlo
  refine wrap_mod _ _ ?_
  rw [← Int.natCast_ediv]
  generalize lo / y = Q at *
  omega

set_option maxRecDepth 20000 in
set_option maxHeartbeats 400000 in
theorem div64_zero (lo y : Nat) (w : World) (hy0 : ((y : Int) == 0) = false) (hlo : lo < B64) :
    Calls Tryd.prog 22 #[U 0, U lo, U y] w fun e w' => e = .returned (.tuple #[U (lo / y), U (lo % y)]) ∧ ∃ r, w' = w.drewN r := by
  have hy : 0 < y := by simp at hy0; omega
  have hq := u_quo lo y hlo
  generalize lo / y = Q at *
  go_enter Tryd.func22, Tryd.ntmps22
  go_wp2_with fail
  go_quiet (fail)
  go_wp2_with fail
  go_ret2
  exact ⟨rfl, _, rfl⟩

/-- The state of the loops that mend a guessed digit. -/
structure Kn (y1 y0 u d q r : Nat) : Prop where
  eq : q * y1 + r = u
  ge : (u * 4294967296 + d) / (y1 * 4294967296 + y0) ≤ q
  le : q ≤ 4294967297
def jq (a b : Nat) : Nat := a * 4294967296 + b
structure KnB (r : Nat) : Prop where
  lt : r < 4294967296
structure KnC (y1 y0 u d : Nat) : Prop where
  hy0 : y0 < 4294967296
  hd : d < 4294967296
  hu : u < y1 * 4294967296 + y0
  hy1 : 4294967296 ≤ 2 * y1
theorem Kn.init {y1 y0 u d : Nat} (h : KnC y1 y0 u d) : Kn y1 y0 u d (u / y1) (u - u / y1 * y1) := by
  have := kn_init h.hd h.hu h.hy0 h.hy1
  have h2 := Nat.div_mul_le_self u y1
  exact ⟨by omega, this.1, this.2⟩
theorem Kn.down {y1 y0 u d q r : Nat} (k : Kn y1 y0 u d q r) (h : KnC y1 y0 u d) (hc : 4294967296 ≤ q ∨ 4294967296 * r + d < q * y0) : 1 ≤ q ∧ Kn y1 y0 u d (q - 1) (r + y1) := by
  have h1 := kn_more h.hd h.hu k.eq hc
  have h2 := k.le
  have h3 := k.eq
  refine ⟨by generalize (u * 4294967296 + d) / (y1 * 4294967296 + y0) = T at *; omega, ?_, by generalize (u * 4294967296 + d) / (y1 * 4294967296 + y0) = T at *; omega, by omega⟩
  have h4 : 1 ≤ q := by generalize (u * 4294967296 + d) / (y1 * 4294967296 + y0) = T at *; omega
  obtain ⟨t, rfl⟩ : ∃ t, q = t + 1 := ⟨q - 1, by omega⟩
  rw [Nat.add_sub_cancel]
  rw [Nat.add_mul, Nat.one_mul] at h3
  omega
theorem dm (N M : Nat) : N = N / M * M + N % M := by rw [Nat.mul_comm]; exact (Nat.div_add_mod N M).symm
/-- The digit is found: its quotient and rest. -/
structure KnD (y1 y0 u d q : Nat) (rest : Nat) : Prop where
  lt : q < 4294967296
  eq : u * 4294967296 + d = q * (y1 * 4294967296 + y0) + rest
  rlt : rest < y1 * 4294967296 + y0
theorem Kn.done {y1 y0 u d q r : Nat} (k : Kn y1 y0 u d q r) (h : KnC y1 y0 u d) (hc : q * y0 ≤ 4294967296 * r + d) : KnD y1 y0 u d q ((u * 4294967296 + d) % (y1 * 4294967296 + y0)) := by
  have h1 := kn_exit h.hu k.eq k.ge hc
  have h2 := kn_lt h.hd h.hu
  refine ⟨by omega, ?_, Nat.mod_lt _ (by have := h.hu; omega)⟩
  rw [h1]; exact dm _ _
theorem Kn.far {y1 y0 u d q r : Nat} (k : Kn y1 y0 u d q r) (h : KnC y1 y0 u d) (hq : q ≤ 4294967296) (hr : 4294967296 ≤ r) : KnD y1 y0 u d q ((u * 4294967296 + d) % (y1 * 4294967296 + y0)) :=
  k.done h (kn_far h.hy0 hq hr)
/-- 'u*2^32 + d - q*Y' on words. -/
theorem kn_words {y1 y0 u d q rest Y : Nat} (k : KnD y1 y0 u d q rest) (hY : Y = y1 * 4294967296 + y0) (hYb : Y < 18446744073709551616) :
    ∃ a1 a2 a3, IntKind.u64.wrap ((u : Int) * 4294967296) = (a1 : Nat) ∧ IntKind.u64.wrap ((a1 : Nat) + (d : Int)) = (a2 : Nat) ∧ IntKind.u64.wrap ((q : Int) * (Y : Int)) = (a3 : Nat) ∧ IntKind.u64.wrap (((a2 : Nat) : Int) - ((a3 : Nat) : Int)) = (rest : Nat) := by
  have h1 := k.eq
  have h2 := k.rlt
  rw [← hY] at h1 h2
  refine ⟨u * 4294967296 % 18446744073709551616, (u * 4294967296 % 18446744073709551616 + d) % 18446744073709551616, q * Y % 18446744073709551616, ?_, ?_, ?_, ?_⟩
  · exact wrap_mod _ _ (by omega)
  · exact wrap_mod _ _ (by omega)
  · refine wrap_mod _ _ ?_
    rw [← Int.natCast_mul]; omega
  · refine wrap_mod _ _ ?_
    generalize q * Y = Z at *
    omega

theorem ret_two {a b c d : Int} (h : a = c) (k : b = d) : Ending.returned (.tuple #[.int .u64 a, .int .u64 b]) = .returned (.tuple #[.int .u64 c, .int .u64 d]) := by rw [h, k]
theorem norm_y {y s : Nat} (hy : y ≠ 0) (hs : s + bitsN y = 64) : y * 2 ^ s < 18446744073709551616 ∧ 9223372036854775808 ≤ y * 2 ^ s := by
  have h1 := bitsN_lt y
  have h2 := bitsN_le y hy
  have hp := Nat.two_pow_pos s
  constructor
  · have := Nat.mul_lt_mul_of_pos_right h1 hp
    rw [← Nat.pow_add, show bitsN y + s = 64 by omega] at this; exact this
  · have h3 := Nat.mul_le_mul_right (2 ^ s) h2
    have h4 : bitsN y ≠ 0 := by unfold bitsN; rw [if_neg hy]; omega
    rw [← Nat.pow_add, show bitsN y - 1 + s = 63 by omega] at h3; exact h3
theorem and32 (v : Nat) (h : v < 18446744073709551616) : bits .and .u64 (v : Int) 4294967295 = ((v % 4294967296 : Nat) : Int) := by
  have h1 := bits_and_u64_nat v 4294967295 h (by omega)
  rw [show v &&& 4294967295 = v % 4294967296 from Nat.and_two_pow_sub_one_eq_mod v 32] at h1
  exact h1
theorem div32 (v : Nat) : (v : Int) / 4294967296 = ((v / 4294967296 : Nat) : Int) := by omega

set_option maxRecDepth 20000 in
set_option maxHeartbeats 4000000 in
set_option maxRecDepth 100000 in
theorem div64_walk (hi lo y s Y y1 y0 hs ls u v un1 un0 qi qy ri : Nat) (w : World) (hh0 : ((hi : Int) == 0) = false) (hy0 : ((y : Int) == 0) = false) (hhy : hi < y) (hyb : y < B64) (HSB : Hid (s + bitsN y = 64)) (hs64 : s < 64)
    (eY : IntKind.u64.wrap ((y : Int) * 2 ^ s) = (Y : Int)) (ey1 : (Y : Int) / 4294967296 = (y1 : Int)) (ey0 : bits .and .u64 (Y : Int) 4294967295 = (y0 : Int))
    (ehs : IntKind.u64.wrap ((hi : Int) * 2 ^ s) = (hs : Int)) (els : (lo : Int) / 2 ^ (64 - s) = (ls : Int)) (eu : bits .or .u64 (hs : Int) (ls : Int) = (u : Int))
    (ev : IntKind.u64.wrap ((lo : Int) * 2 ^ s) = (v : Int)) (eun1 : (v : Int) / 4294967296 = (un1 : Int)) (eun0 : bits .and .u64 (v : Int) 4294967295 = (un0 : Int))
    (eqi : (u : Int) / (y1 : Int) = (qi : Int)) (eqy : (qi : Int) * (y1 : Int) = (qy : Int)) (eri : (u : Int) - (qy : Int) = (ri : Int)) (hqi : qi ≤ 4294967297) (hqy : qy ≤ 18446744073709551615) (hri : ri < 4294967296)
    (hy1 : 1 ≤ y1) (hy1b : y1 < 4294967296) (hy0b : y0 < 4294967296) (hun1 : un1 < 4294967296) (hun0 : un0 < 4294967296)
    (HC : Hid (KnC y1 y0 u un1)) (HK : Hid (Kn y1 y0 u un1 qi ri)) (HY : Hid (Y = y1 * 4294967296 + y0)) (HYB : Hid (Y < 18446744073709551616)) :
    Calls Tryd.prog 22 #[U hi, U lo, U y] w fun e w' => ∃ q1 q0 r1 r0, e = .returned (.tuple #[U (jq q1 q0), U (r0 / 2 ^ s)]) ∧ w' = w ∧ KnD y1 y0 u un1 q1 r1 ∧ KnD y1 y0 r1 un0 q0 r0 := by
  go_enter Tryd.func22, Tryd.ntmps22
  go_wp2_with fail
  refine (lz_any y s _ hyb HSB.out).mono ?_
  rintro e w' ⟨rfl, hw⟩
  obtain rfl := hw.symm
  clear hw
  go_wp2_with fail
  go_loop [15, 16] (fun a b => ∃ q r : Nat, a = U q ∧ b = U r ∧ KnB r ∧ Kn y1 y0 u un1 q r) (fun a _ => (intOf a).toNat)
  case atStart => exact ⟨qi, ri, rfl, rfl, ⟨hri⟩, HK.out⟩
  case round =>
    obtain ⟨q, r, rfl, rfl, hrb, hk⟩ := hrel
    have hr := hrb.lt
    have hq := hk.le
    have HK2 : Hid (Kn y1 y0 u un1 q r) := hk
    clear hk HK eY ey1 ey0 ehs els eu ev eun1 eun0 eqi eqy eri hyb hqi hqy hri hh0 hy0 hhy
    obtain ⟨pq, epq⟩ : ∃ pq : Nat, (q : Int) * (y0 : Int) = (pq : Int) := ⟨q * y0, by simp⟩
    have HPQ : Hid (pq = q * y0) := by have := epq; rw [← Int.natCast_mul] at this; exact (Int.ofNat.inj this).symm
    have hpb : q < 4294967296 → pq ≤ 18446744073709551615 := by
      intro hlt
      rw [HPQ.out]
      have := Nat.mul_le_mul (show q ≤ 4294967295 by omega) (show y0 ≤ 4294967295 by omega)
      omega
    by_cases c1 : 4294967296 ≤ q
    · have c1b : decide ((4294967296 : Int) ≤ (q : Int)) = true := decide_eq_true (by omega)
      obtain ⟨hq1, hk2⟩ := HK2.out.down HC.out (.inl c1)
      clear hpb epq HPQ c1
      by_cases c3 : 4294967296 ≤ r + y1
      · have HD : Hid (KnD y1 y0 u un1 (q - 1) ((u * 4294967296 + un1) % (y1 * 4294967296 + y0))) := hk2.far HC.out (by omega) c3
        generalize (u * 4294967296 + un1) % (y1 * 4294967296 + y0) = R1 at HD
        obtain ⟨q', hq'⟩ : ∃ q', q' = q - 1 := ⟨_, rfl⟩
        have eq' : (q : Int) - 1 = (q' : Int) := by omega
        rw [← hq'] at HD
        have c3b : decide ((4294967296 : Int) ≤ (r : Int) + (y1 : Int)) = true := decide_eq_true (by omega)
        clear hk2 hq'
        have hqb : q' < 4294967296 := HD.out.lt
        have hrlt := HD.out.rlt
        obtain ⟨a1, a2, a3, e1, e2, e3, e4⟩ := kn_words HD.out HY.out HYB.out
        have HC2 : Hid (KnC y1 y0 R1 un0) := ⟨hy0b, hun0, hrlt, HC.out.hy1⟩
        have hin := Kn.init HC2.out
        have hrb2 : R1 ≤ 18446744073709551615 := by have h1 := HY.out; have h2 := HYB.out; omega
        obtain ⟨qj, hqj⟩ : ∃ qj, qj = R1 / y1 := ⟨_, rfl⟩
        obtain ⟨qjy, hqjy⟩ : ∃ qjy, qjy = R1 / y1 * y1 := ⟨_, rfl⟩
        obtain ⟨rj, hrj⟩ : ∃ rj, rj = R1 - R1 / y1 * y1 := ⟨_, rfl⟩
        have hle := Nat.div_mul_le_self R1 y1
        have hml := Nat.mod_lt R1 (show 0 < y1 by omega)
        have hdm := Nat.div_add_mod R1 y1
        rw [Nat.mul_comm] at hdm
        rw [← hrj, ← hqj] at hin
        have g1 : (R1 : Int) / (y1 : Int) = (qj : Int) := by rw [hqj]; exact (Int.natCast_ediv _ _).symm
        have g2 : (qj : Int) * (y1 : Int) = (qjy : Int) := by rw [hqjy, hqj]; exact (Int.natCast_mul _ _).symm
        have g3 : (R1 : Int) - (qjy : Int) = (rj : Int) := by rw [hqjy, hrj]; omega
        have hqjb : qj ≤ 4294967297 := hin.le
        have hqjyb : qjy ≤ R1 := by rw [hqjy]; exact hle
        have hrjb : rj < 4294967296 := by rw [hrj]; omega
        have HIN : Hid (Kn y1 y0 R1 un0 qj rj) := hin
        clear hin hle hml hdm hqj hqjy hrj hrlt
        go_wp2_with fail
        go_loop [18, 16] (fun a b => ∃ t z : Nat, a = U t ∧ b = U z ∧ KnB z ∧ Kn y1 y0 R1 un0 t z) (fun a _ => (intOf a).toNat)
        case atStart => exact ⟨qj, rj, rfl, rfl, ⟨hrjb⟩, HIN.out⟩
        case round =>
          obtain ⟨t, z, rfl, rfl, hzb, hkt⟩ := hrel
          have hz := hzb.lt
          have ht := hkt.le
          have HKT : Hid (Kn y1 y0 R1 un0 t z) := hkt
          clear hkt HIN e1 e2 e3 e4 g1 g2 g3 hqjb hqjyb hrjb
          obtain ⟨pt, ept⟩ : ∃ pt : Nat, (t : Int) * (y0 : Int) = (pt : Int) := ⟨t * y0, by simp⟩
          have HPT : Hid (pt = t * y0) := by have := ept; rw [← Int.natCast_mul] at this; exact (Int.ofNat.inj this).symm
          have hptb : t < 4294967296 → pt ≤ 18446744073709551615 := by
            intro hlt
            rw [HPT.out]
            have := Nat.mul_le_mul (show t ≤ 4294967295 by omega) (show y0 ≤ 4294967295 by omega)
            omega
          by_cases d1 : 4294967296 ≤ t
          · have d1b : decide ((4294967296 : Int) ≤ (t : Int)) = true := decide_eq_true (by omega)
            obtain ⟨ht1, hk3⟩ := HKT.out.down HC2.out (.inl d1)
            clear hptb ept HPT
            by_cases d3 : 4294967296 ≤ z + y1
            · have HE : Hid (KnD y1 y0 R1 un0 (t - 1) ((R1 * 4294967296 + un0) % (y1 * 4294967296 + y0))) := hk3.far HC2.out (by omega) d3
              generalize (R1 * 4294967296 + un0) % (y1 * 4294967296 + y0) = R0 at HE
              obtain ⟨t', ht'⟩ : ∃ t', t' = t - 1 := ⟨_, rfl⟩
              have et' : (t : Int) - 1 = (t' : Int) := by omega
              rw [← ht'] at HE
              have d3b : decide ((4294967296 : Int) ≤ (z : Int) + (y1 : Int)) = true := decide_eq_true (by omega)
              clear hk3 ht'
              have htb : t' < 4294967296 := HE.out.lt
              have hqb2 : q' < 4294967296 := HD.out.lt
              obtain ⟨b1, b2, b3, f1, f2, f3, f4⟩ := kn_words HE.out HY.out HYB.out
              go_wp2_with fail
              go_ret2
              refine ⟨q', t', R1, R0, ?_, rfl, HD.out, HE.out⟩
              exact ret_two (by unfold jq; omega) (by rw [div_nat])
            · have HK4 : Hid (Kn y1 y0 R1 un0 (t - 1) (z + y1)) := hk3
              have d3b : decide ((4294967296 : Int) ≤ (z : Int) + (y1 : Int)) = false := decide_eq_false (by omega)
              clear hk3
              go_wp2_with fail
              go_round
              case rel => exact ⟨t - 1, z + y1, by go_num, by go_num, ⟨by omega⟩, HK4.out⟩
              case measure => simp [intOf]; omega
          · have hptb' := hptb (by omega)
            have d1b : decide ((4294967296 : Int) ≤ (t : Int)) = false := decide_eq_false (by omega)
            by_cases d2 : 4294967296 * z + un0 < pt
            · obtain ⟨ht1, hk3⟩ := HKT.out.down HC2.out (.inr (by rw [← HPT.out]; exact d2))
              have d2b : decide (4294967296 * (z : Int) + (un0 : Int) < (pt : Int)) = true := decide_eq_true (by omega)
              clear hptb
              by_cases d3 : 4294967296 ≤ z + y1
              · have HE : Hid (KnD y1 y0 R1 un0 (t - 1) ((R1 * 4294967296 + un0) % (y1 * 4294967296 + y0))) := hk3.far HC2.out (by omega) d3
                generalize (R1 * 4294967296 + un0) % (y1 * 4294967296 + y0) = R0 at HE
                obtain ⟨t', ht'⟩ : ∃ t', t' = t - 1 := ⟨_, rfl⟩
                have et' : (t : Int) - 1 = (t' : Int) := by omega
                rw [← ht'] at HE
                have d3b : decide ((4294967296 : Int) ≤ (z : Int) + (y1 : Int)) = true := decide_eq_true (by omega)
                clear hk3 ht'
                have htb : t' < 4294967296 := HE.out.lt
                have hqb2 : q' < 4294967296 := HD.out.lt
                obtain ⟨b1, b2, b3, f1, f2, f3, f4⟩ := kn_words HE.out HY.out HYB.out
                go_wp2_with fail
                go_ret2
                refine ⟨q', t', R1, R0, ?_, rfl, HD.out, HE.out⟩
                exact ret_two (by unfold jq; omega) (by rw [div_nat])
              · have HK4 : Hid (Kn y1 y0 R1 un0 (t - 1) (z + y1)) := hk3
                have d3b : decide ((4294967296 : Int) ≤ (z : Int) + (y1 : Int)) = false := decide_eq_false (by omega)
                clear hk3
                go_wp2_with fail
                go_round
                case rel => exact ⟨t - 1, z + y1, by go_num, by go_num, ⟨by omega⟩, HK4.out⟩
                case measure => simp [intOf]; omega
            · have HE : Hid (KnD y1 y0 R1 un0 t ((R1 * 4294967296 + un0) % (y1 * 4294967296 + y0))) := HKT.out.done HC2.out (by rw [← HPT.out]; omega)
              have d2b : decide (4294967296 * (z : Int) + (un0 : Int) < (pt : Int)) = false := decide_eq_false (by omega)
              clear hptb
              generalize (R1 * 4294967296 + un0) % (y1 * 4294967296 + y0) = R0 at HE
              have htb : t < 4294967296 := HE.out.lt
              have hqb2 : q' < 4294967296 := HD.out.lt
              obtain ⟨b1, b2, b3, f1, f2, f3, f4⟩ := kn_words HE.out HY.out HYB.out
              go_wp2_with fail
              go_ret2
              refine ⟨q', t, R1, R0, ?_, rfl, HD.out, HE.out⟩
              exact ret_two (by unfold jq; omega) (by rw [div_nat])
      · have HK3 : Hid (Kn y1 y0 u un1 (q - 1) (r + y1)) := hk2
        have c3b : decide ((4294967296 : Int) ≤ (r : Int) + (y1 : Int)) = false := decide_eq_false (by omega)
        clear hk2
        go_wp2_with fail
        go_round
        case rel => exact ⟨q - 1, r + y1, by go_num, by go_num, ⟨by omega⟩, HK3.out⟩
        case measure => simp [intOf]; omega
    · have hpb' := hpb (by omega)
      have c1b : decide ((4294967296 : Int) ≤ (q : Int)) = false := decide_eq_false (by omega)
      by_cases c2 : 4294967296 * r + un1 < pq
      · obtain ⟨hq1, hk2⟩ := HK2.out.down HC.out (.inr (by rw [← HPQ.out]; exact c2))
        have c2b : decide (4294967296 * (r : Int) + (un1 : Int) < (pq : Int)) = true := decide_eq_true (by omega)
        clear hpb
        by_cases c3 : 4294967296 ≤ r + y1
        · have HD : Hid (KnD y1 y0 u un1 (q - 1) ((u * 4294967296 + un1) % (y1 * 4294967296 + y0))) := hk2.far HC.out (by omega) c3
          generalize (u * 4294967296 + un1) % (y1 * 4294967296 + y0) = R1 at HD
          obtain ⟨q', hq'⟩ : ∃ q', q' = q - 1 := ⟨_, rfl⟩
          have eq' : (q : Int) - 1 = (q' : Int) := by omega
          rw [← hq'] at HD
          have c3b : decide ((4294967296 : Int) ≤ (r : Int) + (y1 : Int)) = true := decide_eq_true (by omega)
          clear hk2 hq'
          have hqb : q' < 4294967296 := HD.out.lt
          have hrlt := HD.out.rlt
          obtain ⟨a1, a2, a3, e1, e2, e3, e4⟩ := kn_words HD.out HY.out HYB.out
          have HC2 : Hid (KnC y1 y0 R1 un0) := ⟨hy0b, hun0, hrlt, HC.out.hy1⟩
          have hin := Kn.init HC2.out
          have hrb2 : R1 ≤ 18446744073709551615 := by have h1 := HY.out; have h2 := HYB.out; omega
          obtain ⟨qj, hqj⟩ : ∃ qj, qj = R1 / y1 := ⟨_, rfl⟩
          obtain ⟨qjy, hqjy⟩ : ∃ qjy, qjy = R1 / y1 * y1 := ⟨_, rfl⟩
          obtain ⟨rj, hrj⟩ : ∃ rj, rj = R1 - R1 / y1 * y1 := ⟨_, rfl⟩
          have hle := Nat.div_mul_le_self R1 y1
          have hml := Nat.mod_lt R1 (show 0 < y1 by omega)
          have hdm := Nat.div_add_mod R1 y1
          rw [Nat.mul_comm] at hdm
          rw [← hrj, ← hqj] at hin
          have g1 : (R1 : Int) / (y1 : Int) = (qj : Int) := by rw [hqj]; exact (Int.natCast_ediv _ _).symm
          have g2 : (qj : Int) * (y1 : Int) = (qjy : Int) := by rw [hqjy, hqj]; exact (Int.natCast_mul _ _).symm
          have g3 : (R1 : Int) - (qjy : Int) = (rj : Int) := by rw [hqjy, hrj]; omega
          have hqjb : qj ≤ 4294967297 := hin.le
          have hqjyb : qjy ≤ R1 := by rw [hqjy]; exact hle
          have hrjb : rj < 4294967296 := by rw [hrj]; omega
          have HIN : Hid (Kn y1 y0 R1 un0 qj rj) := hin
          clear hin hle hml hdm hqj hqjy hrj hrlt
          go_wp2_with fail
          go_loop [18, 16] (fun a b => ∃ t z : Nat, a = U t ∧ b = U z ∧ KnB z ∧ Kn y1 y0 R1 un0 t z) (fun a _ => (intOf a).toNat)
          case atStart => exact ⟨qj, rj, rfl, rfl, ⟨hrjb⟩, HIN.out⟩
          case round =>
            obtain ⟨t, z, rfl, rfl, hzb, hkt⟩ := hrel
            have hz := hzb.lt
            have ht := hkt.le
            have HKT : Hid (Kn y1 y0 R1 un0 t z) := hkt
            clear hkt HIN e1 e2 e3 e4 g1 g2 g3 hqjb hqjyb hrjb
            obtain ⟨pt, ept⟩ : ∃ pt : Nat, (t : Int) * (y0 : Int) = (pt : Int) := ⟨t * y0, by simp⟩
            have HPT : Hid (pt = t * y0) := by have := ept; rw [← Int.natCast_mul] at this; exact (Int.ofNat.inj this).symm
            have hptb : t < 4294967296 → pt ≤ 18446744073709551615 := by
              intro hlt
              rw [HPT.out]
              have := Nat.mul_le_mul (show t ≤ 4294967295 by omega) (show y0 ≤ 4294967295 by omega)
              omega
            by_cases d1 : 4294967296 ≤ t
            · have d1b : decide ((4294967296 : Int) ≤ (t : Int)) = true := decide_eq_true (by omega)
              obtain ⟨ht1, hk3⟩ := HKT.out.down HC2.out (.inl d1)
              clear hptb ept HPT
              by_cases d3 : 4294967296 ≤ z + y1
              · have HE : Hid (KnD y1 y0 R1 un0 (t - 1) ((R1 * 4294967296 + un0) % (y1 * 4294967296 + y0))) := hk3.far HC2.out (by omega) d3
                generalize (R1 * 4294967296 + un0) % (y1 * 4294967296 + y0) = R0 at HE
                obtain ⟨t', ht'⟩ : ∃ t', t' = t - 1 := ⟨_, rfl⟩
                have et' : (t : Int) - 1 = (t' : Int) := by omega
                rw [← ht'] at HE
                have d3b : decide ((4294967296 : Int) ≤ (z : Int) + (y1 : Int)) = true := decide_eq_true (by omega)
                clear hk3 ht'
                have htb : t' < 4294967296 := HE.out.lt
                have hqb2 : q' < 4294967296 := HD.out.lt
                obtain ⟨b1, b2, b3, f1, f2, f3, f4⟩ := kn_words HE.out HY.out HYB.out
                go_wp2_with fail
                go_ret2
                refine ⟨q', t', R1, R0, ?_, rfl, HD.out, HE.out⟩
                exact ret_two (by unfold jq; omega) (by rw [div_nat])
              · have HK4 : Hid (Kn y1 y0 R1 un0 (t - 1) (z + y1)) := hk3
                have d3b : decide ((4294967296 : Int) ≤ (z : Int) + (y1 : Int)) = false := decide_eq_false (by omega)
                clear hk3
                go_wp2_with fail
                go_round
                case rel => exact ⟨t - 1, z + y1, by go_num, by go_num, ⟨by omega⟩, HK4.out⟩
                case measure => simp [intOf]; omega
            · have hptb' := hptb (by omega)
              have d1b : decide ((4294967296 : Int) ≤ (t : Int)) = false := decide_eq_false (by omega)
              by_cases d2 : 4294967296 * z + un0 < pt
              · obtain ⟨ht1, hk3⟩ := HKT.out.down HC2.out (.inr (by rw [← HPT.out]; exact d2))
                have d2b : decide (4294967296 * (z : Int) + (un0 : Int) < (pt : Int)) = true := decide_eq_true (by omega)
                clear hptb
                by_cases d3 : 4294967296 ≤ z + y1
                · have HE : Hid (KnD y1 y0 R1 un0 (t - 1) ((R1 * 4294967296 + un0) % (y1 * 4294967296 + y0))) := hk3.far HC2.out (by omega) d3
                  generalize (R1 * 4294967296 + un0) % (y1 * 4294967296 + y0) = R0 at HE
                  obtain ⟨t', ht'⟩ : ∃ t', t' = t - 1 := ⟨_, rfl⟩
                  have et' : (t : Int) - 1 = (t' : Int) := by omega
                  rw [← ht'] at HE
                  have d3b : decide ((4294967296 : Int) ≤ (z : Int) + (y1 : Int)) = true := decide_eq_true (by omega)
                  clear hk3 ht'
                  have htb : t' < 4294967296 := HE.out.lt
                  have hqb2 : q' < 4294967296 := HD.out.lt
                  obtain ⟨b1, b2, b3, f1, f2, f3, f4⟩ := kn_words HE.out HY.out HYB.out
                  go_wp2_with fail
                  go_ret2
                  refine ⟨q', t', R1, R0, ?_, rfl, HD.out, HE.out⟩
                  exact ret_two (by unfold jq; omega) (by rw [div_nat])
                · have HK4 : Hid (Kn y1 y0 R1 un0 (t - 1) (z + y1)) := hk3
                  have d3b : decide ((4294967296 : Int) ≤ (z : Int) + (y1 : Int)) = false := decide_eq_false (by omega)
                  clear hk3
                  go_wp2_with fail
                  go_round
                  case rel => exact ⟨t - 1, z + y1, by go_num, by go_num, ⟨by omega⟩, HK4.out⟩
                  case measure => simp [intOf]; omega
              · have HE : Hid (KnD y1 y0 R1 un0 t ((R1 * 4294967296 + un0) % (y1 * 4294967296 + y0))) := HKT.out.done HC2.out (by rw [← HPT.out]; omega)
                have d2b : decide (4294967296 * (z : Int) + (un0 : Int) < (pt : Int)) = false := decide_eq_false (by omega)
                clear hptb
                generalize (R1 * 4294967296 + un0) % (y1 * 4294967296 + y0) = R0 at HE
                have htb : t < 4294967296 := HE.out.lt
                have hqb2 : q' < 4294967296 := HD.out.lt
                obtain ⟨b1, b2, b3, f1, f2, f3, f4⟩ := kn_words HE.out HY.out HYB.out
                go_wp2_with fail
                go_ret2
                refine ⟨q', t, R1, R0, ?_, rfl, HD.out, HE.out⟩
                exact ret_two (by unfold jq; omega) (by rw [div_nat])
        · have HK3 : Hid (Kn y1 y0 u un1 (q - 1) (r + y1)) := hk2
          have c3b : decide ((4294967296 : Int) ≤ (r : Int) + (y1 : Int)) = false := decide_eq_false (by omega)
          clear hk2
          go_wp2_with fail
          go_round
          case rel => exact ⟨q - 1, r + y1, by go_num, by go_num, ⟨by omega⟩, HK3.out⟩
          case measure => simp [intOf]; omega
      · have HD : Hid (KnD y1 y0 u un1 q ((u * 4294967296 + un1) % (y1 * 4294967296 + y0))) := HK2.out.done HC.out (by rw [← HPQ.out]; omega)
        have c2b : decide (4294967296 * (r : Int) + (un1 : Int) < (pq : Int)) = false := decide_eq_false (by omega)
        clear hpb
        generalize (u * 4294967296 + un1) % (y1 * 4294967296 + y0) = R1 at HD
        have hqb : q < 4294967296 := HD.out.lt
        have hrlt := HD.out.rlt
        obtain ⟨a1, a2, a3, e1, e2, e3, e4⟩ := kn_words HD.out HY.out HYB.out
        have HC2 : Hid (KnC y1 y0 R1 un0) := ⟨hy0b, hun0, hrlt, HC.out.hy1⟩
        have hin := Kn.init HC2.out
        have hrb2 : R1 ≤ 18446744073709551615 := by have h1 := HY.out; have h2 := HYB.out; omega
        obtain ⟨qj, hqj⟩ : ∃ qj, qj = R1 / y1 := ⟨_, rfl⟩
        obtain ⟨qjy, hqjy⟩ : ∃ qjy, qjy = R1 / y1 * y1 := ⟨_, rfl⟩
        obtain ⟨rj, hrj⟩ : ∃ rj, rj = R1 - R1 / y1 * y1 := ⟨_, rfl⟩
        have hle := Nat.div_mul_le_self R1 y1
        have hml := Nat.mod_lt R1 (show 0 < y1 by omega)
        have hdm := Nat.div_add_mod R1 y1
        rw [Nat.mul_comm] at hdm
        rw [← hrj, ← hqj] at hin
        have g1 : (R1 : Int) / (y1 : Int) = (qj : Int) := by rw [hqj]; exact (Int.natCast_ediv _ _).symm
        have g2 : (qj : Int) * (y1 : Int) = (qjy : Int) := by rw [hqjy, hqj]; exact (Int.natCast_mul _ _).symm
        have g3 : (R1 : Int) - (qjy : Int) = (rj : Int) := by rw [hqjy, hrj]; omega
        have hqjb : qj ≤ 4294967297 := hin.le
        have hqjyb : qjy ≤ R1 := by rw [hqjy]; exact hle
        have hrjb : rj < 4294967296 := by rw [hrj]; omega
        have HIN : Hid (Kn y1 y0 R1 un0 qj rj) := hin
        clear hin hle hml hdm hqj hqjy hrj hrlt
        go_wp2_with fail
        go_loop [18, 16] (fun a b => ∃ t z : Nat, a = U t ∧ b = U z ∧ KnB z ∧ Kn y1 y0 R1 un0 t z) (fun a _ => (intOf a).toNat)
        case atStart => exact ⟨qj, rj, rfl, rfl, ⟨hrjb⟩, HIN.out⟩
        case round =>
          obtain ⟨t, z, rfl, rfl, hzb, hkt⟩ := hrel
          have hz := hzb.lt
          have ht := hkt.le
          have HKT : Hid (Kn y1 y0 R1 un0 t z) := hkt
          clear hkt HIN e1 e2 e3 e4 g1 g2 g3 hqjb hqjyb hrjb
          obtain ⟨pt, ept⟩ : ∃ pt : Nat, (t : Int) * (y0 : Int) = (pt : Int) := ⟨t * y0, by simp⟩
          have HPT : Hid (pt = t * y0) := by have := ept; rw [← Int.natCast_mul] at this; exact (Int.ofNat.inj this).symm
          have hptb : t < 4294967296 → pt ≤ 18446744073709551615 := by
            intro hlt
            rw [HPT.out]
            have := Nat.mul_le_mul (show t ≤ 4294967295 by omega) (show y0 ≤ 4294967295 by omega)
            omega
          by_cases d1 : 4294967296 ≤ t
          · have d1b : decide ((4294967296 : Int) ≤ (t : Int)) = true := decide_eq_true (by omega)
            obtain ⟨ht1, hk3⟩ := HKT.out.down HC2.out (.inl d1)
            clear hptb ept HPT
            by_cases d3 : 4294967296 ≤ z + y1
            · have HE : Hid (KnD y1 y0 R1 un0 (t - 1) ((R1 * 4294967296 + un0) % (y1 * 4294967296 + y0))) := hk3.far HC2.out (by omega) d3
              generalize (R1 * 4294967296 + un0) % (y1 * 4294967296 + y0) = R0 at HE
              obtain ⟨t', ht'⟩ : ∃ t', t' = t - 1 := ⟨_, rfl⟩
              have et' : (t : Int) - 1 = (t' : Int) := by omega
              rw [← ht'] at HE
              have d3b : decide ((4294967296 : Int) ≤ (z : Int) + (y1 : Int)) = true := decide_eq_true (by omega)
              clear hk3 ht'
              have htb : t' < 4294967296 := HE.out.lt
              have hqb2 : q < 4294967296 := HD.out.lt
              obtain ⟨b1, b2, b3, f1, f2, f3, f4⟩ := kn_words HE.out HY.out HYB.out
              go_wp2_with fail
              go_ret2
              refine ⟨q, t', R1, R0, ?_, rfl, HD.out, HE.out⟩
              exact ret_two (by unfold jq; omega) (by rw [div_nat])
            · have HK4 : Hid (Kn y1 y0 R1 un0 (t - 1) (z + y1)) := hk3
              have d3b : decide ((4294967296 : Int) ≤ (z : Int) + (y1 : Int)) = false := decide_eq_false (by omega)
              clear hk3
              go_wp2_with fail
              go_round
              case rel => exact ⟨t - 1, z + y1, by go_num, by go_num, ⟨by omega⟩, HK4.out⟩
              case measure => simp [intOf]; omega
          · have hptb' := hptb (by omega)
            have d1b : decide ((4294967296 : Int) ≤ (t : Int)) = false := decide_eq_false (by omega)
            by_cases d2 : 4294967296 * z + un0 < pt
            · obtain ⟨ht1, hk3⟩ := HKT.out.down HC2.out (.inr (by rw [← HPT.out]; exact d2))
              have d2b : decide (4294967296 * (z : Int) + (un0 : Int) < (pt : Int)) = true := decide_eq_true (by omega)
              clear hptb
              by_cases d3 : 4294967296 ≤ z + y1
              · have HE : Hid (KnD y1 y0 R1 un0 (t - 1) ((R1 * 4294967296 + un0) % (y1 * 4294967296 + y0))) := hk3.far HC2.out (by omega) d3
                generalize (R1 * 4294967296 + un0) % (y1 * 4294967296 + y0) = R0 at HE
                obtain ⟨t', ht'⟩ : ∃ t', t' = t - 1 := ⟨_, rfl⟩
                have et' : (t : Int) - 1 = (t' : Int) := by omega
                rw [← ht'] at HE
                have d3b : decide ((4294967296 : Int) ≤ (z : Int) + (y1 : Int)) = true := decide_eq_true (by omega)
                clear hk3 ht'
                have htb : t' < 4294967296 := HE.out.lt
                have hqb2 : q < 4294967296 := HD.out.lt
                obtain ⟨b1, b2, b3, f1, f2, f3, f4⟩ := kn_words HE.out HY.out HYB.out
                go_wp2_with fail
                go_ret2
                refine ⟨q, t', R1, R0, ?_, rfl, HD.out, HE.out⟩
                exact ret_two (by unfold jq; omega) (by rw [div_nat])
              · have HK4 : Hid (Kn y1 y0 R1 un0 (t - 1) (z + y1)) := hk3
                have d3b : decide ((4294967296 : Int) ≤ (z : Int) + (y1 : Int)) = false := decide_eq_false (by omega)
                clear hk3
                go_wp2_with fail
                go_round
                case rel => exact ⟨t - 1, z + y1, by go_num, by go_num, ⟨by omega⟩, HK4.out⟩
                case measure => simp [intOf]; omega
            · have HE : Hid (KnD y1 y0 R1 un0 t ((R1 * 4294967296 + un0) % (y1 * 4294967296 + y0))) := HKT.out.done HC2.out (by rw [← HPT.out]; omega)
              have d2b : decide (4294967296 * (z : Int) + (un0 : Int) < (pt : Int)) = false := decide_eq_false (by omega)
              clear hptb
              generalize (R1 * 4294967296 + un0) % (y1 * 4294967296 + y0) = R0 at HE
              have htb : t < 4294967296 := HE.out.lt
              have hqb2 : q < 4294967296 := HD.out.lt
              obtain ⟨b1, b2, b3, f1, f2, f3, f4⟩ := kn_words HE.out HY.out HYB.out
              go_wp2_with fail
              go_ret2
              refine ⟨q, t, R1, R0, ?_, rfl, HD.out, HE.out⟩
              exact ret_two (by unfold jq; omega) (by rw [div_nat])
end Go.Proofs.YtefbfapnclphlaaDoor
