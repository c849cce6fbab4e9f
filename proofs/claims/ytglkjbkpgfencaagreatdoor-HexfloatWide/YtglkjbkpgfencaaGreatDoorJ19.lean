import Derived.WalkSmall
import Derived.Test.YtglkjbkpgfencaaGreatDoorJ15
import Derived.Laws.Concat
import Derived.Test.YtglkjbkpgfencaaGreatDoorJ12
import Derived.Test.YtglkjbkpgfencaaGreatDoorJ13
import Derived.Test.YtglkjbkpgfencaaGreatDoorJ17
import Derived.Test.YtglkjbkpgfencaaGreatDoorJ10
import Derived.Test.YtglkjbkpgfencaaGreatDoorJ9
import Derived.Test.YtglkjbkpgfencaaGreatDoorJ16
import Derived.Test.YtglkjbkpgfencaaGreatDoorJ11
import Derived.Deep.LoopGhost
import Derived.Test.YtglkjbkpgfencaaGreatDoorJ18
import Derived.Test.YtglkjbkpgfencaaGreatDoorOpenS
import Derived.Deep.Slices
namespace Go.Proofs.YtglkjbkpgfencaaGreatDoor
open Go.RowKit Go.Shelf
set_option maxRecDepth 20000
set_option maxHeartbeats 0
def hexW : Nat → Nat → List UInt8
  | 0, _ => []
  | q + 1, x => hexW q (x / 16) ++ [UInt8.ofNat (hxc (x % 16))]
theorem hexW_zero : ∀ q, hexW q 0 = List.replicate q 48
  | 0 => rfl
  | q + 1 => by
    show hexW q (0 / 16) ++ _ = _
    rw [Nat.zero_div, hexW_zero q, List.replicate_succ']; rfl
theorem hexW_pad : ∀ (f x : Nat), x < 16 ^ f → List.replicate (f - (hexL f x).length) 48 ++ hexL f x = hexW f x
  | 0, _, _ => rfl
  | f + 1, x, h => by
    show List.replicate (f + 1 - (if x < 16 then [UInt8.ofNat (hxc x)] else hexL f (x / 16) ++ [UInt8.ofNat (hxc (x % 16))]).length) 48 ++ (if x < 16 then [UInt8.ofNat (hxc x)] else hexL f (x / 16) ++ [UInt8.ofNat (hxc (x % 16))]) = hexW f (x / 16) ++ [UInt8.ofNat (hxc (x % 16))]
    split
    · rename_i hx
      rw [Nat.div_eq_of_lt hx, Nat.mod_eq_of_lt hx, hexW_zero]; rfl
    · have ih := hexW_pad f (x / 16) (by rw [Nat.pow_succ] at h; omega)
      rw [List.length_append, List.length_singleton, Nat.add_sub_add_right, ← List.append_assoc, ih]
theorem hexW_shift (q : Nat) : ∀ (r x : Nat), hexW (q + r) (x * 16 ^ r) = hexW q x ++ List.replicate r 48
  | 0, x => by rw [Nat.pow_zero, Nat.mul_one]; exact (List.append_nil _).symm
  | r + 1, x => by
    show hexW (q + r) (x * 16 ^ (r + 1) / 16) ++ [UInt8.ofNat (hxc (x * 16 ^ (r + 1) % 16))] = _
    rw [show x * 16 ^ (r + 1) = x * 16 ^ r * 16 by rw [Nat.pow_succ, Nat.mul_assoc], Nat.mul_div_cancel _ (by decide), Nat.mul_mod_left, hexW_shift q r x, List.replicate_succ', List.append_assoc]; rfl
theorem hexW_front : ∀ (s y : Nat), hexW (s + 1) y = UInt8.ofNat (hxc (y / 16 ^ s % 16)) :: hexW s y
  | 0, y => by rw [Nat.pow_zero, Nat.div_one]; rfl
  | s + 1, y => by
    show hexW (s + 1) (y / 16) ++ _ = _
    rw [hexW_front s (y / 16), Nat.div_div_eq_div_mul, Nat.mul_comm 16, ← Nat.pow_succ]; rfl
theorem hexW_mod : ∀ (q x : Nat), hexW q (16 ^ q + x) = hexW q x
  | 0, _ => rfl
  | q + 1, x => by
    show hexW q ((16 ^ (q + 1) + x) / 16) ++ [UInt8.ofNat (hxc ((16 ^ (q + 1) + x) % 16))] = _
    rw [show (16 ^ (q + 1) + x) / 16 = 16 ^ q + x / 16 by rw [Nat.pow_succ]; omega, show (16 ^ (q + 1) + x) % 16 = x % 16 by rw [Nat.pow_succ]; omega, hexW_mod q]; rfl
theorem trimR_rep (l : List UInt8) (c : UInt8) : ∀ r, Lib.trimRightB (l ++ List.replicate r c) c = Lib.trimRightB l c
  | 0 => by rw [List.replicate_zero, List.append_nil]
  | r + 1 => by
    have ih := trimR_rep l c r
    unfold Lib.trimRightB at ih ⊢
    rw [List.replicate_succ', ← List.append_assoc, List.reverse_append, show ([c] : List UInt8).reverse = [c] from rfl, List.singleton_append, List.dropWhile_cons, show (c == c) = true by simp, if_pos rfl]
    exact ih
theorem trimR_last (l : List UInt8) {c d : UInt8} (h : d ≠ c) : Lib.trimRightB (l ++ [d]) c = l ++ [d] := by
  unfold Lib.trimRightB
  rw [List.reverse_append, show ([d] : List UInt8).reverse = [d] from rfl, List.singleton_append, List.dropWhile_cons, show (d == c) = false by simpa using h, if_neg (by decide), List.reverse_cons, List.reverse_reverse]
theorem hxc_48 {d : Nat} (h : d < 16) (h0 : d ≠ 0) : UInt8.ofNat (hxc d) ≠ 48 := by
  have h1 : ∀ d, d < 16 → d ≠ 0 → UInt8.ofNat (hxc d) ≠ 48 := by decide +kernel
  exact h1 d h h0
theorem frF_W {q x : Nat} (hq : q ≤ 16) (hx : x < 16 ^ q) (h0 : q = 0 ∨ x % 16 ≠ 0) : frF (x * 16 ^ (16 - q)) = hexW q x := by
  have hlt : x * 16 ^ (16 - q) < 16 ^ 16 := by
    have h1 : x * 16 ^ (16 - q) < 16 ^ q * 16 ^ (16 - q) := Nat.mul_lt_mul_of_pos_right hx (Nat.pow_pos (by decide))
    rwa [← Nat.pow_add, show q + (16 - q) = 16 by omega] at h1
  unfold frF
  rw [hexW_pad 16 _ hlt]
  have h2 := hexW_shift q (16 - q) x
  rw [show q + (16 - q) = 16 by omega] at h2
  rw [h2, trimR_rep]
  cases q with
  | zero => rfl
  | succ q =>
    show Lib.trimRightB (hexW q (x / 16) ++ [UInt8.ofNat (hxc (x % 16))]) 48 = _
    rw [trimR_last _ (hxc_48 (Nat.mod_lt _ (by decide)) (h0.resolve_left (by omega)))]; rfl
theorem dg_same {man m i j q : Nat} (hman : man = m * 2 ^ i) (hm : m % 2 = 1) (hb : man < B64) (hj : j ≤ 3) (hq : bitsN m - 1 + j = 4 * q) (hq16 : 4 * q ≤ 64) : dgF man = hexW q (m * 2 ^ j) ∧ m * 2 ^ j / 16 ^ q = 1 ∧ bitsN man = bitsN m + i := by
  have hm0 : m ≠ 0 := by intro h; rw [h] at hm; cases hm
  have hbi : bitsN man = bitsN m + i := by rw [hman, Nat.mul_comm, bitsN_shl m i hm0, Nat.add_comm]
  have hlo := bitsN_le m hm0
  have hhi := bitsN_lt m
  have hbp := bitsN_posX hm0
  obtain ⟨L, hL⟩ : ∃ L, L = bitsN m - 1 := ⟨_, rfl⟩
  rw [← hL] at hlo hq
  rw [show bitsN m = L + 1 by omega] at hhi
  have h16 : (16 : Nat) ^ q = 2 ^ (L + j) := by rw [sixteen, hq]
  have hMlo : 16 ^ q ≤ m * 2 ^ j := by rw [h16, Nat.pow_add]; exact Nat.mul_le_mul_right _ hlo
  have hMhi : m * 2 ^ j < 16 ^ q + 16 ^ q := by
    rw [h16, show 2 ^ (L + j) + 2 ^ (L + j) = 2 ^ (L + 1) * 2 ^ j by rw [← Nat.pow_add, show L + 1 + j = (L + j) + 1 by omega, Nat.pow_succ]; omega]
    exact Nat.mul_lt_mul_of_pos_right hhi (Nat.two_pow_pos j)
  obtain ⟨x, hx⟩ : ∃ x, m * 2 ^ j = 16 ^ q + x := ⟨m * 2 ^ j - 16 ^ q, by omega⟩
  have hxl : x < 16 ^ q := by omega
  have hdiv : m * 2 ^ j / 16 ^ q = 1 := by
    rw [hx, Nat.add_div_left _ (Nat.pow_pos (by decide)), Nat.div_eq_of_lt hxl]
  have hx0 : q = 0 ∨ x % 16 ≠ 0 := by
    cases q with
    | zero => exact .inl rfl
    | succ q =>
      right
      intro h
      have h1 : (m * 2 ^ j) % 16 = 0 := by rw [hx, Nat.pow_succ]; omega
      obtain rfl | rfl | rfl | rfl : j = 0 ∨ j = 1 ∨ j = 2 ∨ j = 3 := by omega
      all_goals omega
  have hexp : man * 2 ^ (64 - (L + i)) = m * 2 ^ j * 16 ^ (16 - q) := by
    have hLi : L + i ≤ 64 := by have := bitsN_le64 hb; omega
    rw [hman, sixteen, Nat.mul_assoc, Nat.mul_assoc, ← Nat.pow_add, ← Nat.pow_add]
    congr 2; omega
  refine ⟨?_, hdiv, hbi⟩
  unfold dgF
  rw [show bitsN man - 1 = L + i by omega, hexp, hx, Nat.add_mul, ← Nat.pow_add, show q + (16 - q) = 16 by omega, show (16 : Nat) ^ 16 = B64 by rfl, Nat.add_mod_left, Nat.mod_eq_of_lt ?_, frF_W (by omega) hxl hx0, hexW_mod]
  have h1 : x * 16 ^ (16 - q) < 16 ^ q * 16 ^ (16 - q) := Nat.mul_lt_mul_of_pos_right hxl (Nat.pow_pos (by decide))
  rwa [← Nat.pow_add, show q + (16 - q) = 16 by omega] at h1
theorem clsof_bd {f : Int} {b : Nat} {er : Int} (hB : Bad f b er) (he : er ≠ 0) (w : World) :
    Calls Tryz.prog 14 #[.int .i64 f, U b] w fun en w' => en = .returned (.tuple #[.int .i64 0, .int .i64 er]) ∧ Below w.heap.size w w' := by
  have hbw : Below w.heap.size w w := Below.refl _ _
  have HB : Hid (Bad f b er) := hB
  have e1 : (er == 0) = false := by simp [he]
  have e2 : (er != 0) = true := by simp [he]
  clear hB he
  go_enter Tryz.func14, Tryz.ntmps14
  go_wp2_with fail
  refine (HB.out _).mono ?_
  rintro e v1 ⟨rfl, hb1⟩
  replace hbw := Below.on hbw hb1
  clear hb1
  go_wp2_with fail
  go_ret2
  exact ⟨rfl, Below.on hbw (below1 _ _)⟩
theorem print_bad {f : Int} {b : Nat} {er : Int} (hB : Bad f b er) (he : er ≠ 0) (w : World) :
    Calls Tryz.prog 8 #[.int .i64 f, U b] w fun en w' => en = .returned (.tuple #[.string ⟨#[]⟩, .int .i64 er]) ∧ Below w.heap.size w w' := by
  have HB : Hid (Bad f b er ∧ er ≠ 0) := ⟨hB, he⟩
  have e1 : (er == 0) = false := by simp [he]
  have e2 : (er != 0) = true := by simp [he]
  clear hB he
  go_enter Tryz.func8, Tryz.ntmps8
  go_wp2_with fail
  refine (clsof_bd HB.out.1 HB.out.2 _).mono ?_
  rintro e w2 ⟨rfl, hb2⟩
  have HB2 : Hid (Below w.heap.size w w2) := hb2
  clear hb2
  go_wp2_with fail
  go_ret2
  exact ⟨rfl, HB2.out⟩
structure Rdp (f : Int) (S : Nat) (P E G : Int) (I Q H : Nat) : Prop where
  rf : Rf f S P E G I Q
  pt : ∀ (s : Nat) w, s < S → Calls Tryz.prog 41 #[FV S P E G I Q, U s] w fun e w' => e = .returned (.tuple #[U (s - (s / H - 1) * H), .int .i64 (E + ((s / H - 1 : Nat) : Int))]) ∧ Below w.heap.size w w'
theorem rd_32 : Rdp 32 2147483648 24 (-149) 104 2139095040 2143289345 8388608 := ⟨rf_32, fun s w hs => rparts_all32 s hs w⟩
theorem rd_64 : Rdp 64 9223372036854775808 53 (-1074) 971 9218868437227405312 9221120237041090561 4503599627370496 := ⟨rf_64, fun s w hs => rparts_all64 s hs w⟩
def D16 : ByteArray := ⟨#[48, 49, 50, 51, 52, 53, 54, 55, 56, 57, 97, 98, 99, 100, 101, 102]⟩
theorem dig16 (d : Nat) (h : d < D16.size) : (D16[d]'h).toNat = hxc d := by
  have h16 : d < 16 := h
  obtain rfl | rfl | rfl | rfl | rfl | rfl | rfl | rfl | rfl | rfl | rfl | rfl | rfl | rfl | rfl | rfl : d = 0 ∨ d = 1 ∨ d = 2 ∨ d = 3 ∨ d = 4 ∨ d = 5 ∨ d = 6 ∨ d = 7 ∨ d = 8 ∨ d = 9 ∨ d = 10 ∨ d = 11 ∨ d = 12 ∨ d = 13 ∨ d = 14 ∨ d = 15 := by omega
  all_goals rfl
theorem enc16 {d : Nat} (h16 : d < 16) : Utf8.encode ((hxc d : Nat) : Int) = bs [UInt8.ofNat (hxc d)] := by
  obtain rfl | rfl | rfl | rfl | rfl | rfl | rfl | rfl | rfl | rfl | rfl | rfl | rfl | rfl | rfl | rfl : d = 0 ∨ d = 1 ∨ d = 2 ∨ d = 3 ∨ d = 4 ∨ d = 5 ∨ d = 6 ∨ d = 7 ∨ d = 8 ∨ d = 9 ∨ d = 10 ∨ d = 11 ∨ d = 12 ∨ d = 13 ∨ d = 14 ∨ d = 15 := by omega
  all_goals rfl
theorem hexW_len : ∀ (q x : Nat), (hexW q x).length = q
  | 0, _ => rfl
  | q + 1, x => by show (hexW q (x / 16) ++ _).length = _; rw [List.length_append, hexW_len q]; rfl
theorem div_ge {M q s : Nat} (h : M / 16 ^ q = 1) (hs : s < q) : 1 < M / 16 ^ s := by
  have h1 : 16 ^ q ≤ M := by
    refine Nat.le_of_not_lt fun h2 => ?_
    rw [Nat.div_eq_of_lt h2] at h; cases h
  have h2 : 16 ^ (s + 1) ≤ M := Nat.le_trans (Nat.pow_le_pow_right (by decide) hs) h1
  rw [Nat.pow_succ, Nat.mul_comm] at h2
  exact Nat.lt_of_lt_of_le (by decide : 1 < 16) ((Nat.le_div_iff_mul_le (Nat.pow_pos (by decide))).2 h2)
theorem wr64 {n : Nat} (h : n < 9223372036854775808) : IntKind.u64.wrap (n : Int) = (n : Int) := by
  simp [IntKind.wrap, IntKind.signed, IntKind.bits]; omega
theorem docprint_e {f : Int} {b : Nat} {er : Int} (hC : ∀ w, Calls Tryz.prog 39 #[.int .i64 f, U b] w fun e w' => e = .returned (.int .i64 er) ∧ Below w.heap.size w w') (he : er ≠ 0) (w : World) :
    Calls Tryz.prog 13 #[.int .i64 f, U b] w fun en w' => en = .returned (.tuple #[.string ⟨#[]⟩, .int .i64 er]) ∧ Below w.heap.size w w' := by
  have HC : Hid (∀ w, Calls Tryz.prog 39 #[.int .i64 f, U b] w fun e w' => e = .returned (.int .i64 er) ∧ Below w.heap.size w w') := hC
  have e1 : (er == 0) = false := by simp [he]
  have e2 : (er != 0) = true := by simp [he]
  clear hC he
  go_enter Tryz.func13, Tryz.ntmps13
  go_wp2_with fail
  refine (HC.out _).mono ?_
  rintro en w1 ⟨rfl, hb⟩
  have HB : Hid (Below w.heap.size w w1) := hb
  clear hb
  go_wp2_with fail
  go_ret2
  exact ⟨rfl, HB.out⟩
theorem docprint_n {f : Int} {S : Nat} {P E G : Int} {I Q H : Nat} (R : Rdp f S P E G I Q H) {b : Nat} (hb : b < 2 * S) (hI : I < b % S) {w : World} (hP : TbP w) :
    Calls Tryz.prog 13 #[.int .i64 f, U b] w fun en w' => en = .returned (.tuple #[.string (bs [110, 97, 110]), .int .i64 0]) ∧ Below w.heap.size w w' := by
  have HR : Hid (Rdp f S P E G I Q H) := R
  have HX : Hid (b < 2 * S ∧ 0 < S ∧ S ≤ 9223372036854775808 ∧ TbP w) := ⟨hb, Nat.lt_of_le_of_lt (Nat.zero_le _) R.rf.lt, R.rf.le, hP⟩
  obtain ⟨z, hz⟩ : ∃ z, z = b % S := ⟨_, rfl⟩
  obtain ⟨sg, hsg⟩ : ∃ sg, sg = decide (S ≤ b) := ⟨_, rfl⟩
  have hct := fun w => cut_any (S := S) (I := I) (Q := Q) (P := P) (E := E) (G := G) (by have := HX.out; omega) (by have := HX.out; omega) b w
  simp only [← hz, ← hsg] at hct
  have HCT : Hid (∀ w, Calls Tryz.prog 40 #[FV S P E G I Q, U b] w fun e w' => e = .returned (.tuple #[.bool sg, U z]) ∧ Below w.heap.size w w') := hct
  have hIz : (I : Int) < (z : Int) := by rw [hz]; omega
  clear hI hz hsg
  clear R hb hP hct
  go_enter Tryz.func13, Tryz.ntmps13
  go_wp2_with fail
  refine (check_ok HR.out.rf b HX.out.1 _).mono ?_
  rintro en w1 ⟨rfl, hb1⟩
  have HB1 : Hid (Below w.heap.size w w1) := hb1
  clear hb1
  go_wp2_with fail
  refine (HR.out.rf.of _).mono ?_
  rintro en w2 ⟨rfl, hb2⟩
  have HB2 : Hid (Below w.heap.size w w2) := Below.on HB1.out hb2
  clear hb2
  go_wp2_with fail
  have hbw : Below w.heap.size w w2 := HB2.out
  have Xfm0 : Hid (B6q (w2.alloc (.cells #[U S, .int .i64 P, .int .i64 E, .int .i64 G, U I, U Q] 79)) w2.heap.size (U S) (.int .i64 P) (.int .i64 E) (.int .i64 G) (U I) (U Q)) := B6q.new w2 _ _ _ _ _ _ _
  have hbn : Below w2.heap.size w2 (w2.alloc (.cells #[U S, .int .i64 P, .int .i64 E, .int .i64 G, U I, U Q] 79)) := below1 w2 _
  generalize w2.alloc (.cells #[U S, .int .i64 P, .int .i64 E, .int .i64 G, U I, U Q] 79) = W3 at *
  have HGfm : Hid (w.heap.size ≤ w2.heap.size) := hbw.size
  replace hbw := Below.on hbw hbn
  clear hbn
  generalize w2.heap.size = gfm at *
  have Xfm := Xfm0
  clear Xfm0
  refine (HCT.out _).mono ?_
  rintro e v4 ⟨rfl, hb4⟩
  replace Xfm : Hid _ := Xfm.out.below hb4
  replace hbw := Below.on hbw hb4
  clear hb4
  cases sg
  · obtain ⟨cfm0, cfm1, cfm2, cfm3, cfm4, cfm5, ffm0, ffm1, ffm2, ffm3, ffm4, ffm5⟩ := Xfm.out
    have hnefm : gfm < v4.heap.size := World.block_lt_of_cell? v4 _ cfm0
    go_wp2_with fail
    clear cfm0 cfm1 cfm2 cfm3 cfm4 cfm5 ffm0 ffm1 ffm2 ffm3 ffm4 ffm5 hnefm
    go_ret2
    exact ⟨rfl, hbw⟩
  · obtain ⟨cfm0, cfm1, cfm2, cfm3, cfm4, cfm5, ffm0, ffm1, ffm2, ffm3, ffm4, ffm5⟩ := Xfm.out
    have hnefm : gfm < v4.heap.size := World.block_lt_of_cell? v4 _ cfm0
    go_wp2_with fail
    clear cfm0 cfm1 cfm2 cfm3 cfm4 cfm5 ffm0 ffm1 ffm2 ffm3 ffm4 ffm5 hnefm
    go_ret2
    exact ⟨rfl, hbw⟩
theorem docprint_i {f : Int} {S : Nat} {P E G : Int} {I Q H : Nat} (R : Rdp f S P E G I Q H) {b : Nat} (hb : b < 2 * S) {T : List UInt8} (hT : T = (if S ≤ b then [45] else []) ++ [105, 110, 102]) (hI : b % S = I) {w : World} (hP : TbP w) :
    Calls Tryz.prog 13 #[.int .i64 f, U b] w fun en w' => en = .returned (.tuple #[.string (bs (T)), .int .i64 0]) ∧ Below w.heap.size w w' := by
  have HR : Hid (Rdp f S P E G I Q H) := R
  have HX : Hid (b < 2 * S ∧ 0 < S ∧ S ≤ 9223372036854775808 ∧ TbP w) := ⟨hb, Nat.lt_of_le_of_lt (Nat.zero_le _) R.rf.lt, R.rf.le, hP⟩
  obtain ⟨z, hz⟩ : ∃ z, z = b % S := ⟨_, rfl⟩
  obtain ⟨sg, hsg⟩ : ∃ sg, sg = decide (S ≤ b) := ⟨_, rfl⟩
  have hct := fun w => cut_any (S := S) (I := I) (Q := Q) (P := P) (E := E) (G := G) (by have := HX.out; omega) (by have := HX.out; omega) b w
  simp only [← hz, ← hsg] at hct
  have HCT : Hid (∀ w, Calls Tryz.prog 40 #[FV S P E G I Q, U b] w fun e w' => e = .returned (.tuple #[.bool sg, U z]) ∧ Below w.heap.size w w') := hct
  have HT : Hid (T = (if S ≤ b then [45] else []) ++ [105, 110, 102]) := hT
  clear hT
  have hIz : ¬ (I : Int) < (z : Int) := by rw [hz]; omega
  have hIe : (z : Int) = (I : Int) := by rw [hz]; omega
  have HSG : Hid (sg = decide (S ≤ b)) := hsg
  clear hI hz hsg
  clear R hb hP hct
  go_enter Tryz.func13, Tryz.ntmps13
  go_wp2_with fail
  refine (check_ok HR.out.rf b HX.out.1 _).mono ?_
  rintro en w1 ⟨rfl, hb1⟩
  have HB1 : Hid (Below w.heap.size w w1) := hb1
  clear hb1
  go_wp2_with fail
  refine (HR.out.rf.of _).mono ?_
  rintro en w2 ⟨rfl, hb2⟩
  have HB2 : Hid (Below w.heap.size w w2) := Below.on HB1.out hb2
  clear hb2
  go_wp2_with fail
  have hbw : Below w.heap.size w w2 := HB2.out
  have Xfm0 : Hid (B6q (w2.alloc (.cells #[U S, .int .i64 P, .int .i64 E, .int .i64 G, U I, U Q] 79)) w2.heap.size (U S) (.int .i64 P) (.int .i64 E) (.int .i64 G) (U I) (U Q)) := B6q.new w2 _ _ _ _ _ _ _
  have hbn : Below w2.heap.size w2 (w2.alloc (.cells #[U S, .int .i64 P, .int .i64 E, .int .i64 G, U I, U Q] 79)) := below1 w2 _
  generalize w2.alloc (.cells #[U S, .int .i64 P, .int .i64 E, .int .i64 G, U I, U Q] 79) = W3 at *
  have HGfm : Hid (w.heap.size ≤ w2.heap.size) := hbw.size
  replace hbw := Below.on hbw hbn
  clear hbn
  generalize w2.heap.size = gfm at *
  have Xfm := Xfm0
  clear Xfm0
  refine (HCT.out _).mono ?_
  rintro e v4 ⟨rfl, hb4⟩
  replace Xfm : Hid _ := Xfm.out.below hb4
  replace hbw := Below.on hbw hb4
  clear hb4
  cases hsx : sg
  · have hsb : (if S ≤ b then [45] else []) = ([] : List UInt8) := by have h := HSG.out; rw [hsx] at h; rw [if_neg (of_decide_eq_false h.symm)]
    have HTK : Hid (T = [] ++ [105, 110, 102]) := by rw [HT.out, hsb]; rfl
    clear hsb hsx HT
    obtain ⟨cfm0, cfm1, cfm2, cfm3, cfm4, cfm5, ffm0, ffm1, ffm2, ffm3, ffm4, ffm5⟩ := Xfm.out
    have hnefm : gfm < v4.heap.size := World.block_lt_of_cell? v4 _ cfm0
    go_wp2_with fail
    clear cfm0 cfm1 cfm2 cfm3 cfm4 cfm5 ffm0 ffm1 ffm2 ffm3 ffm4 ffm5 hnefm
    go_ret2
    exact ⟨by rw [HTK.out]; rfl, hbw⟩
  · have hsb : (if S ≤ b then [45] else []) = ([45] : List UInt8) := by have h := HSG.out; rw [hsx] at h; rw [if_pos (of_decide_eq_true h.symm)]
    have HTK : Hid (T = [45] ++ [105, 110, 102]) := by rw [HT.out, hsb]; rfl
    clear hsb hsx HT
    obtain ⟨cfm0, cfm1, cfm2, cfm3, cfm4, cfm5, ffm0, ffm1, ffm2, ffm3, ffm4, ffm5⟩ := Xfm.out
    have hnefm : gfm < v4.heap.size := World.block_lt_of_cell? v4 _ cfm0
    go_wp2_with fail
    clear cfm0 cfm1 cfm2 cfm3 cfm4 cfm5 ffm0 ffm1 ffm2 ffm3 ffm4 ffm5 hnefm
    go_ret2
    exact ⟨by rw [HTK.out]; rfl, hbw⟩
theorem docprint_z {f : Int} {S : Nat} {P E G : Int} {I Q H : Nat} (R : Rdp f S P E G I Q H) {b : Nat} (hb : b < 2 * S) {T : List UInt8} (hT : T = (if S ≤ b then [45] else []) ++ [48, 120, 48, 112, 43, 48]) (hI : b % S = 0) (hI0 : 0 < I) {w : World} (hP : TbP w) :
    Calls Tryz.prog 13 #[.int .i64 f, U b] w fun en w' => en = .returned (.tuple #[.string (bs (T)), .int .i64 0]) ∧ Below w.heap.size w w' := by
  have HR : Hid (Rdp f S P E G I Q H) := R
  have HX : Hid (b < 2 * S ∧ 0 < S ∧ S ≤ 9223372036854775808 ∧ TbP w) := ⟨hb, Nat.lt_of_le_of_lt (Nat.zero_le _) R.rf.lt, R.rf.le, hP⟩
  obtain ⟨z, hz⟩ : ∃ z, z = b % S := ⟨_, rfl⟩
  obtain ⟨sg, hsg⟩ : ∃ sg, sg = decide (S ≤ b) := ⟨_, rfl⟩
  have hct := fun w => cut_any (S := S) (I := I) (Q := Q) (P := P) (E := E) (G := G) (by have := HX.out; omega) (by have := HX.out; omega) b w
  simp only [← hz, ← hsg] at hct
  have HCT : Hid (∀ w, Calls Tryz.prog 40 #[FV S P E G I Q, U b] w fun e w' => e = .returned (.tuple #[.bool sg, U z]) ∧ Below w.heap.size w w') := hct
  have HT : Hid (T = (if S ≤ b then [45] else []) ++ [48, 120, 48, 112, 43, 48]) := hT
  clear hT
  have hIz : ¬ (I : Int) < (z : Int) := by rw [hz]; omega
  have hIe : ¬ (z : Int) = (I : Int) := by rw [hz]; omega
  have hI9 : (z : Int) = 0 := by rw [hz]; omega
  have HSG : Hid (sg = decide (S ≤ b)) := hsg
  clear hI hz hsg hI0
  clear R hb hP hct
  go_enter Tryz.func13, Tryz.ntmps13
  go_wp2_with fail
  refine (check_ok HR.out.rf b HX.out.1 _).mono ?_
  rintro en w1 ⟨rfl, hb1⟩
  have HB1 : Hid (Below w.heap.size w w1) := hb1
  clear hb1
  go_wp2_with fail
  refine (HR.out.rf.of _).mono ?_
  rintro en w2 ⟨rfl, hb2⟩
  have HB2 : Hid (Below w.heap.size w w2) := Below.on HB1.out hb2
  clear hb2
  go_wp2_with fail
  have hbw : Below w.heap.size w w2 := HB2.out
  have Xfm0 : Hid (B6q (w2.alloc (.cells #[U S, .int .i64 P, .int .i64 E, .int .i64 G, U I, U Q] 79)) w2.heap.size (U S) (.int .i64 P) (.int .i64 E) (.int .i64 G) (U I) (U Q)) := B6q.new w2 _ _ _ _ _ _ _
  have hbn : Below w2.heap.size w2 (w2.alloc (.cells #[U S, .int .i64 P, .int .i64 E, .int .i64 G, U I, U Q] 79)) := below1 w2 _
  generalize w2.alloc (.cells #[U S, .int .i64 P, .int .i64 E, .int .i64 G, U I, U Q] 79) = W3 at *
  have HGfm : Hid (w.heap.size ≤ w2.heap.size) := hbw.size
  replace hbw := Below.on hbw hbn
  clear hbn
  generalize w2.heap.size = gfm at *
  have Xfm := Xfm0
  clear Xfm0
  refine (HCT.out _).mono ?_
  rintro e v4 ⟨rfl, hb4⟩
  replace Xfm : Hid _ := Xfm.out.below hb4
  replace hbw := Below.on hbw hb4
  clear hb4
  cases hsx : sg
  · have hsb : (if S ≤ b then [45] else []) = ([] : List UInt8) := by have h := HSG.out; rw [hsx] at h; rw [if_neg (of_decide_eq_false h.symm)]
    have HTK : Hid (T = [] ++ [48, 120, 48, 112, 43, 48]) := by rw [HT.out, hsb]; rfl
    clear hsb hsx HT
    obtain ⟨cfm0, cfm1, cfm2, cfm3, cfm4, cfm5, ffm0, ffm1, ffm2, ffm3, ffm4, ffm5⟩ := Xfm.out
    have hnefm : gfm < v4.heap.size := World.block_lt_of_cell? v4 _ cfm0
    go_wp2_with fail
    clear cfm0 cfm1 cfm2 cfm3 cfm4 cfm5 ffm0 ffm1 ffm2 ffm3 ffm4 ffm5 hnefm
    go_ret2
    exact ⟨by rw [HTK.out]; rfl, hbw⟩
  · have hsb : (if S ≤ b then [45] else []) = ([45] : List UInt8) := by have h := HSG.out; rw [hsx] at h; rw [if_pos (of_decide_eq_true h.symm)]
    have HTK : Hid (T = [45] ++ [48, 120, 48, 112, 43, 48]) := by rw [HT.out, hsb]; rfl
    clear hsb hsx HT
    obtain ⟨cfm0, cfm1, cfm2, cfm3, cfm4, cfm5, ffm0, ffm1, ffm2, ffm3, ffm4, ffm5⟩ := Xfm.out
    have hnefm : gfm < v4.heap.size := World.block_lt_of_cell? v4 _ cfm0
    go_wp2_with fail
    clear cfm0 cfm1 cfm2 cfm3 cfm4 cfm5 ffm0 ffm1 ffm2 ffm3 ffm4 ffm5 hnefm
    go_ret2
    exact ⟨by rw [HTK.out]; rfl, hbw⟩
theorem docprint_m {f : Int} {S : Nat} {P E G : Int} {I Q H : Nat} (R : Rdp f S P E G I Q H) {b : Nat} (hb : b < 2 * S) {T : List UInt8} {mn : Nat} {ex : Int} (hT : T = (if S ≤ b then [45] else []) ++ exF mn ex) (hI : b % S < I) (hz0 : b % S ≠ 0) (hmn : mn = b % S - (b % S / H - 1) * H) (hex : ex = E + ((b % S / H - 1 : Nat) : Int)) (hm9 : mn < 9007199254740992 ∧ -2000 ≤ ex ∧ ex ≤ 2000 ∧ mn ≠ 0) {w : World} (hP : TbP w) :
    Calls Tryz.prog 13 #[.int .i64 f, U b] w fun en w' => en = .returned (.tuple #[.string (bs (T)), .int .i64 0]) ∧ Below w.heap.size w w' := by
  have HR : Hid (Rdp f S P E G I Q H) := R
  have HX : Hid (b < 2 * S ∧ 0 < S ∧ S ≤ 9223372036854775808 ∧ TbP w) := ⟨hb, Nat.lt_of_le_of_lt (Nat.zero_le _) R.rf.lt, R.rf.le, hP⟩
  obtain ⟨z, hz⟩ : ∃ z, z = b % S := ⟨_, rfl⟩
  obtain ⟨sg, hsg⟩ : ∃ sg, sg = decide (S ≤ b) := ⟨_, rfl⟩
  have hct := fun w => cut_any (S := S) (I := I) (Q := Q) (P := P) (E := E) (G := G) (by have := HX.out; omega) (by have := HX.out; omega) b w
  simp only [← hz, ← hsg] at hct
  have HCT : Hid (∀ w, Calls Tryz.prog 40 #[FV S P E G I Q, U b] w fun e w' => e = .returned (.tuple #[.bool sg, U z]) ∧ Below w.heap.size w w') := hct
  have hps := fun w => R.pt (b % S) w (Nat.mod_lt _ (by have := HX.out; omega))
  rw [← hz] at hmn hex
  simp only [← hz] at hps
  rw [← hmn, ← hex] at hps
  have HPT : Hid (∀ w, Calls Tryz.prog 41 #[FV S P E G I Q, U z] w fun e w' => e = .returned (.tuple #[U mn, .int .i64 ex]) ∧ Below w.heap.size w w') := hps
  have HMN : Hid (mn < 9007199254740992 ∧ -2000 ≤ ex ∧ ex ≤ 2000 ∧ mn ≠ 0) := hm9
  have hIz : ¬ (I : Int) < (z : Int) := by rw [hz]; omega
  have hIe : ¬ (z : Int) = (I : Int) := by rw [hz]; omega
  have hI9 : ¬ (z : Int) = 0 := by rw [hz]; have h9 := hz0; omega
  have HSG : Hid (sg = decide (S ≤ b)) := hsg
  clear hI hz hsg hz0 hmn hex hm9 hps
  have HT : Hid (T = (if S ≤ b then [45] else []) ++ exF mn ex) := hT
  clear hT
  clear R hb hP hct
  go_enter Tryz.func13, Tryz.ntmps13
  go_wp2_with fail
  refine (check_ok HR.out.rf b HX.out.1 _).mono ?_
  rintro en w1 ⟨rfl, hb1⟩
  have HB1 : Hid (Below w.heap.size w w1) := hb1
  clear hb1
  go_wp2_with fail
  refine (HR.out.rf.of _).mono ?_
  rintro en w2 ⟨rfl, hb2⟩
  have HB2 : Hid (Below w.heap.size w w2) := Below.on HB1.out hb2
  clear hb2
  go_wp2_with fail
  have hbw : Below w.heap.size w w2 := HB2.out
  have Xfm0 : Hid (B6q (w2.alloc (.cells #[U S, .int .i64 P, .int .i64 E, .int .i64 G, U I, U Q] 79)) w2.heap.size (U S) (.int .i64 P) (.int .i64 E) (.int .i64 G) (U I) (U Q)) := B6q.new w2 _ _ _ _ _ _ _
  have hbn : Below w2.heap.size w2 (w2.alloc (.cells #[U S, .int .i64 P, .int .i64 E, .int .i64 G, U I, U Q] 79)) := below1 w2 _
  generalize w2.alloc (.cells #[U S, .int .i64 P, .int .i64 E, .int .i64 G, U I, U Q] 79) = W3 at *
  have HGfm : Hid (w.heap.size ≤ w2.heap.size) := hbw.size
  replace hbw := Below.on hbw hbn
  clear hbn
  generalize w2.heap.size = gfm at *
  have Xfm := Xfm0
  clear Xfm0
  refine (HCT.out _).mono ?_
  rintro e v4 ⟨rfl, hb4⟩
  replace Xfm : Hid _ := Xfm.out.below hb4
  replace hbw := Below.on hbw hb4
  clear hb4
  cases hsx : sg
  · have hsb : (if S ≤ b then [45] else []) = ([] : List UInt8) := by have h := HSG.out; rw [hsx] at h; rw [if_neg (of_decide_eq_false h.symm)]
    have HTK : Hid (T = [] ++ exF mn ex) := by rw [HT.out, hsb]; rfl
    clear hsb hsx HT
    obtain ⟨cfm0, cfm1, cfm2, cfm3, cfm4, cfm5, ffm0, ffm1, ffm2, ffm3, ffm4, ffm5⟩ := Xfm.out
    have hnefm : gfm < v4.heap.size := World.block_lt_of_cell? v4 _ cfm0
    go_wp2_with fail
    clear cfm0 cfm1 cfm2 cfm3 cfm4 cfm5 ffm0 ffm1 ffm2 ffm3 ffm4 ffm5 hnefm
    refine (HPT.out _).mono ?_
    rintro e v5 ⟨rfl, hb5⟩
    replace Xfm : Hid _ := Xfm.out.below hb5
    replace hbw := Below.on hbw hb5
    clear hb5
    obtain ⟨b0, b1, b2, b3⟩ := HMN.out
    go_wp2_with fail
    clear b0 b1 b2 b3
    have HBW := hm9 hbw
    go_loopg [12, 13] mn (fun gk mv ev wr => ∃ i : Nat, mv = U gk ∧ ev = .int .i64 (ex + (i : Int)) ∧ mn = gk * 2 ^ i ∧ gk ≠ 0 ∧ wr = v5)
    case atStart => exact ⟨0, rfl, congrArg (Value.int IntKind.i64) (by omega), (Nat.mul_one _).symm, HMN.out.2.2.2, rfl⟩
    case round =>
      obtain ⟨i, rfl, rfl, hgm, hg0, rfl⟩ := hrel
      have hgB : gk < 9007199254740992 := by have h1 := HMN.out.1; have h2 : gk * 1 ≤ gk * 2 ^ i := Nat.mul_le_mul_left _ (Nat.two_pow_pos i); omega
      have hi64 : i < 64 := by have h1 := HMN.out.1; have h2 : 1 * 2 ^ i ≤ gk * 2 ^ i := Nat.mul_le_mul_right _ (by omega); exact (Nat.pow_lt_pow_iff_right (by decide : 1 < 2)).1 (by rw [Nat.one_mul] at h2; exact Nat.lt_of_le_of_lt h2 (Nat.lt_of_le_of_lt (by rw [← hgm]; exact Nat.le_of_lt h1) (by decide)))
      have HE := hm9 (HMN.out.2)
      by_cases hodd : gk % 2 = 0
      · have hev : ((gk : Int) % 2 == 0) = true := by rw [show (gk : Int) % 2 = 0 by omega]; rfl
        have hev2 : (gk : Int) % 2 = 0 := by omega
        obtain ⟨hf2, hff⟩ : ∃ h, h = gk / 2 := ⟨_, rfl⟩
        have hdv : (gk : Int) / 2 = (hf2 : Int) := by omega
        have hwr : IntKind.u64.wrap (hf2 : Int) = (hf2 : Int) := wr64 (by omega)
        have hw1 : wrap64 (ex + (i : Int) + 1) = ex + ((i + 1 : Nat) : Int) := by have := HE.out; simp only [wrap64]; omega
        have HN : Hid (mn = hf2 * 2 ^ (i + 1) ∧ hf2 ≠ 0 ∧ hf2 < gk) := ⟨by rw [hff, hgm, Nat.pow_succ, Nat.mul_comm (2 ^ i) 2, ← Nat.mul_assoc, show gk / 2 * 2 = gk by omega], by omega, by omega⟩
        clear hgm hodd hgB hi64 hff
        go_wp2_with fail
        go_roundg hf2
        case measure => exact HN.out.2.2
        case rel => exact ⟨i + 1, congrArg (Value.int IntKind.u64) (by first | rfl | exact hwr | exact hdv | omega), congrArg (Value.int IntKind.i64) (by first | rfl | exact hw1 | omega), HN.out.1, HN.out.2.1, rfl⟩
      · obtain ⟨m, hm⟩ : ∃ m, m = gk := ⟨_, rfl⟩
        rw [← hm] at hgm hg0 hodd hgB
        rw [← hm]
        have hev : ((m : Int) % 2 == 0) = false := by rw [show (m : Int) % 2 = 1 by omega]; rfl
        have hev2 : ¬ (m : Int) % 2 = 0 := by omega
        have HM : Hid (mn = m * 2 ^ i ∧ m % 2 = 1 ∧ m < 9007199254740992 ∧ m ≠ 0 ∧ i < 64) := ⟨hgm, by omega, hgB, hg0, hi64⟩
        clear hm hgm hodd hgB hi64 hg0
        go_wp2_with fail
        refine (rword m (by have := HM.out.2.2.1; unfold B64; omega) _).mono ?_
        rintro en v6 ⟨g6, zs, rfl, hl6, ha6, hn6, hb6⟩
        have A6 := hm9 ha6
        have N6 : Hid (zs.length ≤ 2 ∧ Nf B32 zs m) := ⟨hl6, hn6⟩
        clear hl6 ha6 hn6
        have hbw6 := Below.on HBW.out hb6
        clear hbw HBW hb6 Xfm
        have HBW := hm9 hbw6
        clear hbw6
        go_wp2_with fail
        refine (rbits_any A6.out N6.out.2 (by have := N6.out.1; omega)).mono ?_
        rintro en v7 ⟨rfl, rfl⟩
        obtain ⟨L, hL⟩ : ∃ L, bitsN m = L + 1 := ⟨bitsN m - 1, by have := bitsN_posX HM.out.2.2.2.1; omega⟩
        have HLL : Hid (bitsN m = L + 1 ∧ L ≤ 52) := ⟨hL, by have h1 := bitsN_le m HM.out.2.2.2.1; rw [hL] at h1; have h2 : 2 ^ L < 2 ^ 53 := Nat.lt_of_le_of_lt h1 HM.out.2.2.1; have := (Nat.pow_lt_pow_iff_right (by decide : 1 < 2)).1 h2; omega⟩
        rw [hL]
        clear hL A6 N6
        have hwt : wrap64 (ex + (i : Int) + ((L : Int) + 1)) = ex + (i : Int) + ((L : Int) + 1) := by have := HE.out; have := HLL.out; have := HM.out.2.2.2.2; simp only [wrap64]; omega
        have hwu : wrap64 (ex + (i : Int) + ((L : Int) + 1) - 1) = ex + (i : Int) + (L : Int) := by have := HE.out; have := HLL.out; have := HM.out.2.2.2.2; simp only [wrap64]; omega
        go_wp2_with fail
        rw [hwu]
        obtain ⟨n, hn⟩ : ∃ n : Int, n = ex + (i : Int) + (L : Int) := ⟨_, rfl⟩
        have HN9 : Hid (n = ex + (i : Int) + (L : Int) ∧ -3000 ≤ n ∧ n ≤ 3000) := ⟨hn, by have := HE.out; have := HLL.out; have := HM.out.2.2.2.2; omega, by have := HE.out; have := HLL.out; have := HM.out.2.2.2.2; omega⟩
        rw [← hn]
        clear hn
        obtain ⟨r, q, hr, hrq⟩ : ∃ r q : Nat, r ≤ 3 ∧ L + r = 4 * q := ⟨(4 - L % 4) % 4, (L + 3) / 4, by omega, by omega⟩
        have HRQ : Hid (r ≤ 3 ∧ L + r = 4 * q) := ⟨hr, hrq⟩
        clear hr hrq hwt hwu hev hev2
        go_loopg [12] r (fun gk mv wr => ∃ j : Nat, gk + j = r ∧ mv = U (m * 2 ^ j) ∧ Below w.heap.size w wr)
        case atStart => exact ⟨0, by omega, congrArg (fun x : Nat => U x) (by rw [Nat.pow_zero, Nat.mul_one]), HBW.out⟩
        case round =>
          obtain ⟨j, hj, rfl, hbx⟩ := hrel
          have HBX := hm9 hbx
          have HJ : Hid (gk + j = r ∧ j ≤ 3) := ⟨hj, by have := HRQ.out; omega⟩
          have HMB : Hid (m * 2 ^ j ≤ m * 8 ∧ m * 8 < 144115188075855872) := ⟨Nat.mul_le_mul_left _ (Nat.pow_le_pow_right (n := 2) (by decide) HJ.out.2), by have := HM.out.2.2.1; omega⟩
          have HBT : Hid (bitsN (m * 2 ^ j) = L + j + 1) := by rw [Nat.mul_comm, bitsN_shl m j HM.out.2.2.2.1, HLL.out.1]; show _ = _; omega
          obtain ⟨M, hM⟩ : ∃ M, M = m * 2 ^ j := ⟨_, rfl⟩
          rw [← hM] at HMB HBT
          rw [← hM]
          have HMM := hm9 hM
          clear hbx hj hM
          go_wp2_with fail
          refine (rword M (by have := HMB.out; unfold B64; omega) _).mono ?_
          rintro en v8 ⟨g8, zs8, rfl, hl8, ha8, hn8, hb8⟩
          have A8 := hm9 ha8
          have N8 : Hid (zs8.length ≤ 2 ∧ Nf B32 zs8 M) := ⟨hl8, hn8⟩
          have HB8 := hm9 (Below.on HBX.out hb8)
          clear hl8 ha8 hn8 hb8
          go_wp2_with fail
          refine (rbits_any A8.out N8.out.2 (by have := N8.out.1; omega)).mono ?_
          rintro en v9 ⟨rfl, rfl⟩
          rw [HBT.out]
          obtain ⟨t, ht⟩ : ∃ t, t = L + j := ⟨_, rfl⟩
          rw [← ht]
          have htl : t ≤ 100 := by have := HLL.out; have := HJ.out; omega
          have hw9 : wrap64 ((t : Int) + 1 - 1) = (t : Int) := by simp only [wrap64]; omega
          have hw8 : wrap64 ((t : Int)) = (t : Int) := by simp only [wrap64]; omega
          have hmd : Int.tmod (t : Int) 4 = ((t % 4 : Nat) : Int) := by rw [Int.tmod_eq_emod_of_nonneg (by omega)]; omega
          obtain ⟨t4, ht4⟩ : ∃ t4, t4 = t % 4 := ⟨_, rfl⟩
          rw [← ht4] at hmd
          cases gk with
          | zero =>
            have ht0 : t4 = 0 := by have := HRQ.out; have := HJ.out; omega
            have hz3 : ((L : Int) + (j : Int)) % 4 = 0 := by have := HRQ.out; have := HJ.out; omega
            have hz4 : (((L : Int) + (j : Int)) % 4 != 0) = false := by rw [hz3]; rfl
            subst ht0
            clear A8 N8 ht4
            go_wp2_with fail
            have HD := hm9 (dg_same (man := mn) (m := m) (i := i) (j := j) (q := q) HM.out.1 HM.out.2.1 (by have := HMN.out.1; unfold B64; omega) HJ.out.2 (by rw [HLL.out.1]; have := HJ.out; have := HRQ.out; omega) (by have := HLL.out; have := HRQ.out; omega))
            rw [← HMM.out] at HD
            rw [show (⟨#[48, 49, 50, 51, 52, 53, 54, 55, 56, 57, 97, 98, 99, 100, 101, 102]⟩ : ByteArray) = D16 from rfl]
            go_loopg [12, 14] q (fun gk mv dv wr => ∃ s : Nat, gk + s = q ∧ mv = U (M / 16 ^ s) ∧ dv = .string (bs (hexW s M)) ∧ wr = v9)
            case atStart => exact ⟨0, by omega, congrArg (fun x : Nat => U x) (by rw [Nat.pow_zero, Nat.div_one]), rfl, rfl⟩
            case round =>
              obtain ⟨s, hs, rfl, rfl, rfl⟩ := hrel
              have HS : Hid (gk + s = q) := hs
              obtain ⟨A, hA⟩ : ∃ A, A = M / 16 ^ s := ⟨_, rfl⟩
              rw [← hA]
              have HA := hm9 hA
              have hA9 : A < 9223372036854775808 := by rw [hA]; have h1 := Nat.div_le_self M (16 ^ s); have := HMB.out; omega
              obtain ⟨Wd, hWd⟩ : ∃ Wd, Wd = hexW s M := ⟨_, rfl⟩
              rw [← hWd]
              have HWD := hm9 hWd
              have HWL : Hid (Wd.length ≤ 64) := by have := HS.out; have := HRQ.out; have := HLL.out; rw [hWd, hexW_len]; show _ ≤ _; omega
              clear hs hA hWd
              cases gk with
              | zero =>
                have hA1 : A = 1 := by have h := HD.out.2.1; rw [HA.out, show s = q by have := HS.out; omega]; exact h
                subst hA1
                have HDG : Hid (dgF mn = Wd) := by rw [HWD.out, HD.out.1, show s = q by have := HS.out; omega]; rfl
                have HTF : Hid (T = [48, 120, 49] ++ (if Wd = [] then [] else 46 :: Wd) ++ [112] ++ sgT n) := by
                  have h1 : ex + ((bitsN mn - 1 : Nat) : Int) = n := by rw [HN9.out.1, HD.out.2.2, HLL.out.1]; omega
                  have h2 : exF mn ex = [48, 120, 49] ++ (if Wd = [] then [] else 46 :: Wd) ++ [112] ++ sgT n := by unfold exF; rw [if_neg HMN.out.2.2.2, HDG.out, h1]
                  rw [HTK.out, h2]; show _ = _; simp
                obtain ⟨N, hNN⟩ : ∃ N, N = Lib.itoa n := ⟨_, rfl⟩
                have HNN : Hid (N = Lib.itoa n ∧ N.length ≤ 302) := ⟨hNN, by rw [hNN]; exact itoa_short HN9.out.2.1 HN9.out.2.2⟩
                clear hNN
                by_cases hW0 : Wd = []
                · have hem : (bs Wd).toList.isEmpty = true := by rw [hW0]; exact emp0
                  have HTG : Hid (T = [48, 120, 49] ++ Wd ++ [112] ++ sgT n) := by rw [HTF.out, if_pos hW0, hW0]; rfl
                  clear hW0 HTF
                  by_cases hn0 : n < 0
                  · have hp0 : ¬ (0 : Int) ≤ n := by omega
                    have HSG2 : Hid (sgT n = N) := by unfold sgT; rw [if_pos hn0, HNN.out.1]; rfl
                    clear hn0
                    have hc1 : ∀ W, (Op.stringOp .add ⟨#[]⟩ ⟨#[48, 120, 49]⟩).run Tryz.prog W = .ok (.string (bs [48, 120, 49])) W := fun W => cat_run [] [48, 120, 49] W (by decide)
                    have hc2 : ∀ W, (Op.stringOp .add (bs [48, 120, 49]) (bs Wd)).run Tryz.prog W = .ok (.string (bs (48 :: 120 :: 49 :: Wd))) W := fun W => cat_run [48, 120, 49] Wd W (by have := HWL.out; have := HNN.out; first | omega | (simp <;> omega))
                    have hb2 : ¬ ((bs [48, 120, 49]).size + (bs Wd).size > 9223372036854775807) := by rw [bs_size, bs_size]; have := HWL.out; have := HNN.out; first | omega | (simp <;> omega)
                    have hc3 : ∀ W, (Op.stringOp .add (bs (48 :: 120 :: 49 :: Wd)) ⟨#[112]⟩).run Tryz.prog W = .ok (.string (bs (48 :: 120 :: 49 :: (Wd ++ [112])))) W := fun W => cat_run (48 :: 120 :: 49 :: Wd) [112] W (by have := HWL.out; have := HNN.out; first | omega | (simp <;> omega))
                    have hb3 : ¬ ((bs (48 :: 120 :: 49 :: Wd)).size + (⟨#[112]⟩ : ByteArray).size > 9223372036854775807) := by show ¬ ((bs _).size + (bs [112]).size > _); rw [bs_size, bs_size]; have := HWL.out; have := HNN.out; first | omega | (simp <;> omega)
                    have hc4 : ∀ W, (Op.stringOp .add (bs (48 :: 120 :: 49 :: (Wd ++ [112]))) ⟨#[]⟩).run Tryz.prog W = .ok (.string (bs (48 :: 120 :: 49 :: (Wd ++ [112]) ++ []))) W := fun W => cat_run (48 :: 120 :: 49 :: (Wd ++ [112])) [] W (by have := HWL.out; have := HNN.out; first | omega | (simp <;> omega))
                    have hb4 : ¬ ((bs (48 :: 120 :: 49 :: (Wd ++ [112]))).size + (⟨#[]⟩ : ByteArray).size > 9223372036854775807) := by show ¬ ((bs _).size + (bs []).size > _); rw [bs_size, bs_size]; have := HWL.out; have := HNN.out; first | omega | (simp <;> omega)
                    go_wp2_with fail
                    refine (itoa_c n (by have := HN9.out; omega) (by have := HN9.out; omega) _ (HX.out.2.2.2.below HB8.out)).mono ?_
                    rintro en v10 ⟨rfl, hb10⟩
                    rw [← HNN.out.1]
                    have HB10 : Hid (Below w.heap.size w v10) := Below.on HB8.out hb10
                    clear hb10 hc1 hc2 hb2 hc3 hb3 hc4 hb4
                    have hc5 : ∀ W, (Op.stringOp .add (bs (48 :: 120 :: 49 :: (Wd ++ [112]))) (bs N)).run Tryz.prog W = .ok (.string (bs (48 :: 120 :: 49 :: (Wd ++ [112]) ++ N))) W := fun W => cat_run (48 :: 120 :: 49 :: (Wd ++ [112])) N W (by have := HWL.out; have := HNN.out; first | omega | (simp <;> omega))
                    have hb5 : ¬ ((bs (48 :: 120 :: 49 :: (Wd ++ [112]))).size + (bs N).size > 9223372036854775807) := by rw [bs_size, bs_size]; have := HWL.out; have := HNN.out; first | omega | (simp <;> omega)
                    go_wp2_with fail
                    go_ret2
                    refine ⟨congrArg (fun x => Ending.returned (.tuple #[.string (bs x), .int .i64 0])) (show 48 :: 120 :: 49 :: (Wd ++ 112 :: N) = T from by rw [HTG.out, HSG2.out]; simp), HB10.out⟩
                  · have hp0 : (0 : Int) ≤ n := by omega
                    have HSG2 : Hid (sgT n = 43 :: N) := by unfold sgT; rw [if_neg hn0, HNN.out.1]; rfl
                    clear hn0
                    have hc1 : ∀ W, (Op.stringOp .add ⟨#[]⟩ ⟨#[48, 120, 49]⟩).run Tryz.prog W = .ok (.string (bs [48, 120, 49])) W := fun W => cat_run [] [48, 120, 49] W (by decide)
                    have hc2 : ∀ W, (Op.stringOp .add (bs [48, 120, 49]) (bs Wd)).run Tryz.prog W = .ok (.string (bs (48 :: 120 :: 49 :: Wd))) W := fun W => cat_run [48, 120, 49] Wd W (by have := HWL.out; have := HNN.out; first | omega | (simp <;> omega))
                    have hb2 : ¬ ((bs [48, 120, 49]).size + (bs Wd).size > 9223372036854775807) := by rw [bs_size, bs_size]; have := HWL.out; have := HNN.out; first | omega | (simp <;> omega)
                    have hc3 : ∀ W, (Op.stringOp .add (bs (48 :: 120 :: 49 :: Wd)) ⟨#[112]⟩).run Tryz.prog W = .ok (.string (bs (48 :: 120 :: 49 :: (Wd ++ [112])))) W := fun W => cat_run (48 :: 120 :: 49 :: Wd) [112] W (by have := HWL.out; have := HNN.out; first | omega | (simp <;> omega))
                    have hb3 : ¬ ((bs (48 :: 120 :: 49 :: Wd)).size + (⟨#[112]⟩ : ByteArray).size > 9223372036854775807) := by show ¬ ((bs _).size + (bs [112]).size > _); rw [bs_size, bs_size]; have := HWL.out; have := HNN.out; first | omega | (simp <;> omega)
                    have hc4 : ∀ W, (Op.stringOp .add (bs (48 :: 120 :: 49 :: (Wd ++ [112]))) ⟨#[43]⟩).run Tryz.prog W = .ok (.string (bs (48 :: 120 :: 49 :: (Wd ++ [112]) ++ [43]))) W := fun W => cat_run (48 :: 120 :: 49 :: (Wd ++ [112])) [43] W (by have := HWL.out; have := HNN.out; first | omega | (simp <;> omega))
                    have hb4 : ¬ ((bs (48 :: 120 :: 49 :: (Wd ++ [112]))).size + (⟨#[43]⟩ : ByteArray).size > 9223372036854775807) := by show ¬ ((bs _).size + (bs [43]).size > _); rw [bs_size, bs_size]; have := HWL.out; have := HNN.out; first | omega | (simp <;> omega)
                    go_wp2_with fail
                    refine (itoa_c n (by have := HN9.out; omega) (by have := HN9.out; omega) _ (HX.out.2.2.2.below HB8.out)).mono ?_
                    rintro en v10 ⟨rfl, hb10⟩
                    rw [← HNN.out.1]
                    have HB10 : Hid (Below w.heap.size w v10) := Below.on HB8.out hb10
                    clear hb10 hc1 hc2 hb2 hc3 hb3 hc4 hb4
                    have hc5 : ∀ W, (Op.stringOp .add (bs (48 :: 120 :: 49 :: (Wd ++ [112, 43]))) (bs N)).run Tryz.prog W = .ok (.string (bs (48 :: 120 :: 49 :: (Wd ++ [112, 43]) ++ N))) W := fun W => cat_run (48 :: 120 :: 49 :: (Wd ++ [112, 43])) N W (by have := HWL.out; have := HNN.out; first | omega | (simp <;> omega))
                    have hb5 : ¬ ((bs (48 :: 120 :: 49 :: (Wd ++ [112, 43]))).size + (bs N).size > 9223372036854775807) := by rw [bs_size, bs_size]; have := HWL.out; have := HNN.out; first | omega | (simp <;> omega)
                    go_wp2_with fail
                    go_ret2
                    refine ⟨congrArg (fun x => Ending.returned (.tuple #[.string (bs x), .int .i64 0])) (show 48 :: 120 :: 49 :: (Wd ++ 112 :: 43 :: N) = T from by rw [HTG.out, HSG2.out]; simp), HB10.out⟩
                · have hem : (bs Wd).toList.isEmpty = false := emp1 hW0
                  have HTG : Hid (T = [48, 120, 49] ++ (46 :: Wd) ++ [112] ++ sgT n) := by rw [HTF.out, if_neg hW0]; rfl
                  clear hW0 HTF
                  by_cases hn0 : n < 0
                  · have hp0 : ¬ (0 : Int) ≤ n := by omega
                    have HSG2 : Hid (sgT n = N) := by unfold sgT; rw [if_pos hn0, HNN.out.1]; rfl
                    clear hn0
                    have hc0 : ∀ W, (Op.stringOp .add ⟨#[46]⟩ (bs Wd)).run Tryz.prog W = .ok (.string (bs ([46] ++ Wd))) W := fun W => cat_run [46] Wd W (by have h1 : [(46 : UInt8)].length = 1 := rfl; have := HWL.out; omega)
                    have hb0 : ¬ ((⟨#[46]⟩ : ByteArray).size + ((bs Wd) : ByteArray).size > 9223372036854775807) := by show ¬ ((bs [46]).size + (bs Wd).size > _); rw [bs_size, bs_size]; have h1 : [(46 : UInt8)].length = 1 := rfl; have := HWL.out; omega
                    have hc1 : ∀ W, (Op.stringOp .add ⟨#[]⟩ ⟨#[48, 120, 49]⟩).run Tryz.prog W = .ok (.string (bs [48, 120, 49])) W := fun W => cat_run [] [48, 120, 49] W (by decide)
                    have hc2 : ∀ W, (Op.stringOp .add (bs [48, 120, 49]) (bs (46 :: Wd))).run Tryz.prog W = .ok (.string (bs (48 :: 120 :: 49 :: 46 :: Wd))) W := fun W => cat_run [48, 120, 49] (46 :: Wd) W (by have := HWL.out; have := HNN.out; first | omega | (simp <;> omega))
                    have hb2 : ¬ ((bs [48, 120, 49]).size + (bs (46 :: Wd)).size > 9223372036854775807) := by rw [bs_size, bs_size]; have := HWL.out; have := HNN.out; first | omega | (simp <;> omega)
                    have hc3 : ∀ W, (Op.stringOp .add (bs (48 :: 120 :: 49 :: 46 :: Wd)) ⟨#[112]⟩).run Tryz.prog W = .ok (.string (bs (48 :: 120 :: 49 :: (46 :: Wd ++ [112])))) W := fun W => cat_run (48 :: 120 :: 49 :: 46 :: Wd) [112] W (by have := HWL.out; have := HNN.out; first | omega | (simp <;> omega))
                    have hb3 : ¬ ((bs (48 :: 120 :: 49 :: 46 :: Wd)).size + (⟨#[112]⟩ : ByteArray).size > 9223372036854775807) := by show ¬ ((bs _).size + (bs [112]).size > _); rw [bs_size, bs_size]; have := HWL.out; have := HNN.out; first | omega | (simp <;> omega)
                    have hc4 : ∀ W, (Op.stringOp .add (bs (48 :: 120 :: 49 :: 46 :: (Wd ++ [112]))) ⟨#[]⟩).run Tryz.prog W = .ok (.string (bs (48 :: 120 :: 49 :: 46 :: (Wd ++ [112]) ++ []))) W := fun W => cat_run (48 :: 120 :: 49 :: 46 :: (Wd ++ [112])) [] W (by have := HWL.out; have := HNN.out; first | omega | (simp <;> omega))
                    have hb4 : ¬ ((bs (48 :: 120 :: 49 :: 46 :: (Wd ++ [112]))).size + (⟨#[]⟩ : ByteArray).size > 9223372036854775807) := by show ¬ ((bs _).size + (bs []).size > _); rw [bs_size, bs_size]; have := HWL.out; have := HNN.out; first | omega | (simp <;> omega)
                    go_wp2_with fail
                    refine (itoa_c n (by have := HN9.out; omega) (by have := HN9.out; omega) _ (HX.out.2.2.2.below HB8.out)).mono ?_
                    rintro en v10 ⟨rfl, hb10⟩
                    rw [← HNN.out.1]
                    have HB10 : Hid (Below w.heap.size w v10) := Below.on HB8.out hb10
                    clear hb10 hc1 hc2 hb2 hc3 hb3 hc4 hb4 hc0 hb0
                    have hc5 : ∀ W, (Op.stringOp .add (bs (48 :: 120 :: 49 :: 46 :: (Wd ++ [112]))) (bs N)).run Tryz.prog W = .ok (.string (bs (48 :: 120 :: 49 :: 46 :: (Wd ++ [112]) ++ N))) W := fun W => cat_run (48 :: 120 :: 49 :: 46 :: (Wd ++ [112])) N W (by have := HWL.out; have := HNN.out; first | omega | (simp <;> omega))
                    have hb5 : ¬ ((bs (48 :: 120 :: 49 :: 46 :: (Wd ++ [112]))).size + (bs N).size > 9223372036854775807) := by rw [bs_size, bs_size]; have := HWL.out; have := HNN.out; first | omega | (simp <;> omega)
                    go_wp2_with fail
                    go_ret2
                    refine ⟨congrArg (fun x => Ending.returned (.tuple #[.string (bs x), .int .i64 0])) (show 48 :: 120 :: 49 :: 46 :: (Wd ++ 112 :: N) = T from by rw [HTG.out, HSG2.out]; simp), HB10.out⟩
                  · have hp0 : (0 : Int) ≤ n := by omega
                    have HSG2 : Hid (sgT n = 43 :: N) := by unfold sgT; rw [if_neg hn0, HNN.out.1]; rfl
                    clear hn0
                    have hc0 : ∀ W, (Op.stringOp .add ⟨#[46]⟩ (bs Wd)).run Tryz.prog W = .ok (.string (bs ([46] ++ Wd))) W := fun W => cat_run [46] Wd W (by have h1 : [(46 : UInt8)].length = 1 := rfl; have := HWL.out; omega)
                    have hb0 : ¬ ((⟨#[46]⟩ : ByteArray).size + ((bs Wd) : ByteArray).size > 9223372036854775807) := by show ¬ ((bs [46]).size + (bs Wd).size > _); rw [bs_size, bs_size]; have h1 : [(46 : UInt8)].length = 1 := rfl; have := HWL.out; omega
                    have hc1 : ∀ W, (Op.stringOp .add ⟨#[]⟩ ⟨#[48, 120, 49]⟩).run Tryz.prog W = .ok (.string (bs [48, 120, 49])) W := fun W => cat_run [] [48, 120, 49] W (by decide)
                    have hc2 : ∀ W, (Op.stringOp .add (bs [48, 120, 49]) (bs (46 :: Wd))).run Tryz.prog W = .ok (.string (bs (48 :: 120 :: 49 :: 46 :: Wd))) W := fun W => cat_run [48, 120, 49] (46 :: Wd) W (by have := HWL.out; have := HNN.out; first | omega | (simp <;> omega))
                    have hb2 : ¬ ((bs [48, 120, 49]).size + (bs (46 :: Wd)).size > 9223372036854775807) := by rw [bs_size, bs_size]; have := HWL.out; have := HNN.out; first | omega | (simp <;> omega)
                    have hc3 : ∀ W, (Op.stringOp .add (bs (48 :: 120 :: 49 :: 46 :: Wd)) ⟨#[112]⟩).run Tryz.prog W = .ok (.string (bs (48 :: 120 :: 49 :: (46 :: Wd ++ [112])))) W := fun W => cat_run (48 :: 120 :: 49 :: 46 :: Wd) [112] W (by have := HWL.out; have := HNN.out; first | omega | (simp <;> omega))
                    have hb3 : ¬ ((bs (48 :: 120 :: 49 :: 46 :: Wd)).size + (⟨#[112]⟩ : ByteArray).size > 9223372036854775807) := by show ¬ ((bs _).size + (bs [112]).size > _); rw [bs_size, bs_size]; have := HWL.out; have := HNN.out; first | omega | (simp <;> omega)
                    have hc4 : ∀ W, (Op.stringOp .add (bs (48 :: 120 :: 49 :: 46 :: (Wd ++ [112]))) ⟨#[43]⟩).run Tryz.prog W = .ok (.string (bs (48 :: 120 :: 49 :: 46 :: (Wd ++ [112]) ++ [43]))) W := fun W => cat_run (48 :: 120 :: 49 :: 46 :: (Wd ++ [112])) [43] W (by have := HWL.out; have := HNN.out; first | omega | (simp <;> omega))
                    have hb4 : ¬ ((bs (48 :: 120 :: 49 :: 46 :: (Wd ++ [112]))).size + (⟨#[43]⟩ : ByteArray).size > 9223372036854775807) := by show ¬ ((bs _).size + (bs [43]).size > _); rw [bs_size, bs_size]; have := HWL.out; have := HNN.out; first | omega | (simp <;> omega)
                    go_wp2_with fail
                    refine (itoa_c n (by have := HN9.out; omega) (by have := HN9.out; omega) _ (HX.out.2.2.2.below HB8.out)).mono ?_
                    rintro en v10 ⟨rfl, hb10⟩
                    rw [← HNN.out.1]
                    have HB10 : Hid (Below w.heap.size w v10) := Below.on HB8.out hb10
                    clear hb10 hc1 hc2 hb2 hc3 hb3 hc4 hb4 hc0 hb0
                    have hc5 : ∀ W, (Op.stringOp .add (bs (48 :: 120 :: 49 :: 46 :: (Wd ++ [112, 43]))) (bs N)).run Tryz.prog W = .ok (.string (bs (48 :: 120 :: 49 :: 46 :: (Wd ++ [112, 43]) ++ N))) W := fun W => cat_run (48 :: 120 :: 49 :: 46 :: (Wd ++ [112, 43])) N W (by have := HWL.out; have := HNN.out; first | omega | (simp <;> omega))
                    have hb5 : ¬ ((bs (48 :: 120 :: 49 :: 46 :: (Wd ++ [112, 43]))).size + (bs N).size > 9223372036854775807) := by rw [bs_size, bs_size]; have := HWL.out; have := HNN.out; first | omega | (simp <;> omega)
                    go_wp2_with fail
                    go_ret2
                    refine ⟨congrArg (fun x => Ending.returned (.tuple #[.string (bs x), .int .i64 0])) (show 48 :: 120 :: 49 :: 46 :: (Wd ++ 112 :: 43 :: N) = T from by rw [HTG.out, HSG2.out]; simp), HB10.out⟩
              | succ gk3 =>
                have hA1 : (1 : Int) < (A : Int) := by have := div_ge HD.out.2.1 (s := s) (by have := HS.out; omega); rw [← HA.out] at this; omega
                obtain ⟨d, hd⟩ : ∃ d, d = A % 16 := ⟨_, rfl⟩
                have hd16 : d < 16 := by omega
                have hmod : (A : Int) % 16 = (d : Int) := by omega
                have hdD : d < D16.size := hd16
                have hds : D16.size = 16 := rfl
                have hd0 : (0 : Int) ≤ (d : Int) ∧ (d : Int) < 16 := by omega
                have hdg : (((D16[d]'hdD).toNat : Nat) : Int) = ((hxc d : Nat) : Int) := by rw [dig16]
                have hen := enc16 hd16
                obtain ⟨cc, hcc⟩ : ∃ cc, cc = hxc d := ⟨_, rfl⟩
                rw [← hcc] at hdg hen
                obtain ⟨ec, hec⟩ : ∃ ec, ec = UInt8.ofNat cc := ⟨_, rfl⟩
                rw [← hec] at hen
                have HEC : Hid (ec = UInt8.ofNat (hxc (M / 16 ^ s % 16))) := by rw [hec, hcc, hd, HA.out]; rfl
                obtain ⟨A2, hA2⟩ : ∃ A2, A2 = A / 16 := ⟨_, rfl⟩
                have hdv : (A : Int) / 16 = (A2 : Int) := by omega
                have hwr : IntKind.u64.wrap (A2 : Int) = (A2 : Int) := wr64 (by omega)
                have HA2 : Hid (A2 = M / 16 ^ (s + 1)) := by rw [hA2, HA.out, Nat.div_div_eq_div_mul, ← Nat.pow_succ]; rfl
                have hca : ∀ W, (Op.stringOp .add (bs [ec]) (bs Wd)).run Tryz.prog W = .ok (.string (bs ([ec] ++ Wd))) W := fun W => cat_run [ec] Wd W (by have := HWL.out; show 1 + _ ≤ _; omega)
                have hba : ¬ ((bs [ec]).size + (bs Wd).size > 9223372036854775807) := by rw [bs_size, bs_size]; have := HWL.out; show ¬ (1 + _ > _); omega
                clear hd hcc hec hA2
                go_wp2_with fail
                go_roundg gk3
                case measure => omega
                case rel => exact ⟨s + 1, by have := HS.out; omega, congrArg (Value.int IntKind.u64) (by first | (rw [hwr, HA2.out]) | (rw [HA2.out])), by rw [hexW_front, ← HEC.out, ← HWD.out], rfl⟩
          | succ gk2 =>
            have ht0 : ¬ (t4 : Int) = 0 := by have := HRQ.out; have := HJ.out; omega
            have ht1 : ((t4 : Int) != 0) = true := bne_iff_ne.2 ht0
            have hz3 : ¬ ((L : Int) + (j : Int)) % 4 = 0 := by have := HRQ.out; have := HJ.out; omega
            have hz4 : (((L : Int) + (j : Int)) % 4 != 0) = true := bne_iff_ne.2 hz3
            have hw2 : IntKind.u64.wrap ((M : Int) * 2) = ((M * 2 : Nat) : Int) := by have := HMB.out; simp [IntKind.wrap, IntKind.signed, IntKind.bits]; omega
            clear A8 N8 ht4 ht
            go_wp2_with fail
            go_roundg gk2
            case measure => omega
            case rel => exact ⟨j + 1, by have := HJ.out; omega, congrArg (Value.int IntKind.u64) (by first | (rw [hw2, HMM.out, Nat.pow_succ, ← Nat.mul_assoc]) | (rw [HMM.out, Nat.pow_succ, ← Nat.mul_assoc]; omega)), HB8.out⟩
  · have hsb : (if S ≤ b then [45] else []) = ([45] : List UInt8) := by have h := HSG.out; rw [hsx] at h; rw [if_pos (of_decide_eq_true h.symm)]
    have HTK : Hid (T = [45] ++ exF mn ex) := by rw [HT.out, hsb]; rfl
    clear hsb hsx HT
    obtain ⟨cfm0, cfm1, cfm2, cfm3, cfm4, cfm5, ffm0, ffm1, ffm2, ffm3, ffm4, ffm5⟩ := Xfm.out
    have hnefm : gfm < v4.heap.size := World.block_lt_of_cell? v4 _ cfm0
    go_wp2_with fail
    clear cfm0 cfm1 cfm2 cfm3 cfm4 cfm5 ffm0 ffm1 ffm2 ffm3 ffm4 ffm5 hnefm
    refine (HPT.out _).mono ?_
    rintro e v5 ⟨rfl, hb5⟩
    replace Xfm : Hid _ := Xfm.out.below hb5
    replace hbw := Below.on hbw hb5
    clear hb5
    obtain ⟨b0, b1, b2, b3⟩ := HMN.out
    go_wp2_with fail
    clear b0 b1 b2 b3
    have HBW := hm9 hbw
    go_loopg [12, 13] mn (fun gk mv ev wr => ∃ i : Nat, mv = U gk ∧ ev = .int .i64 (ex + (i : Int)) ∧ mn = gk * 2 ^ i ∧ gk ≠ 0 ∧ wr = v5)
    case atStart => exact ⟨0, rfl, congrArg (Value.int IntKind.i64) (by omega), (Nat.mul_one _).symm, HMN.out.2.2.2, rfl⟩
    case round =>
      obtain ⟨i, rfl, rfl, hgm, hg0, rfl⟩ := hrel
      have hgB : gk < 9007199254740992 := by have h1 := HMN.out.1; have h2 : gk * 1 ≤ gk * 2 ^ i := Nat.mul_le_mul_left _ (Nat.two_pow_pos i); omega
      have hi64 : i < 64 := by have h1 := HMN.out.1; have h2 : 1 * 2 ^ i ≤ gk * 2 ^ i := Nat.mul_le_mul_right _ (by omega); exact (Nat.pow_lt_pow_iff_right (by decide : 1 < 2)).1 (by rw [Nat.one_mul] at h2; exact Nat.lt_of_le_of_lt h2 (Nat.lt_of_le_of_lt (by rw [← hgm]; exact Nat.le_of_lt h1) (by decide)))
      have HE := hm9 (HMN.out.2)
      by_cases hodd : gk % 2 = 0
      · have hev : ((gk : Int) % 2 == 0) = true := by rw [show (gk : Int) % 2 = 0 by omega]; rfl
        have hev2 : (gk : Int) % 2 = 0 := by omega
        obtain ⟨hf2, hff⟩ : ∃ h, h = gk / 2 := ⟨_, rfl⟩
        have hdv : (gk : Int) / 2 = (hf2 : Int) := by omega
        have hwr : IntKind.u64.wrap (hf2 : Int) = (hf2 : Int) := wr64 (by omega)
        have hw1 : wrap64 (ex + (i : Int) + 1) = ex + ((i + 1 : Nat) : Int) := by have := HE.out; simp only [wrap64]; omega
        have HN : Hid (mn = hf2 * 2 ^ (i + 1) ∧ hf2 ≠ 0 ∧ hf2 < gk) := ⟨by rw [hff, hgm, Nat.pow_succ, Nat.mul_comm (2 ^ i) 2, ← Nat.mul_assoc, show gk / 2 * 2 = gk by omega], by omega, by omega⟩
        clear hgm hodd hgB hi64 hff
        go_wp2_with fail
        go_roundg hf2
        case measure => exact HN.out.2.2
        case rel => exact ⟨i + 1, congrArg (Value.int IntKind.u64) (by first | rfl | exact hwr | exact hdv | omega), congrArg (Value.int IntKind.i64) (by first | rfl | exact hw1 | omega), HN.out.1, HN.out.2.1, rfl⟩
      · obtain ⟨m, hm⟩ : ∃ m, m = gk := ⟨_, rfl⟩
        rw [← hm] at hgm hg0 hodd hgB
        rw [← hm]
        have hev : ((m : Int) % 2 == 0) = false := by rw [show (m : Int) % 2 = 1 by omega]; rfl
        have hev2 : ¬ (m : Int) % 2 = 0 := by omega
        have HM : Hid (mn = m * 2 ^ i ∧ m % 2 = 1 ∧ m < 9007199254740992 ∧ m ≠ 0 ∧ i < 64) := ⟨hgm, by omega, hgB, hg0, hi64⟩
        clear hm hgm hodd hgB hi64 hg0
        go_wp2_with fail
        refine (rword m (by have := HM.out.2.2.1; unfold B64; omega) _).mono ?_
        rintro en v6 ⟨g6, zs, rfl, hl6, ha6, hn6, hb6⟩
        have A6 := hm9 ha6
        have N6 : Hid (zs.length ≤ 2 ∧ Nf B32 zs m) := ⟨hl6, hn6⟩
        clear hl6 ha6 hn6
        have hbw6 := Below.on HBW.out hb6
        clear hbw HBW hb6 Xfm
        have HBW := hm9 hbw6
        clear hbw6
        go_wp2_with fail
        refine (rbits_any A6.out N6.out.2 (by have := N6.out.1; omega)).mono ?_
        rintro en v7 ⟨rfl, rfl⟩
        obtain ⟨L, hL⟩ : ∃ L, bitsN m = L + 1 := ⟨bitsN m - 1, by have := bitsN_posX HM.out.2.2.2.1; omega⟩
        have HLL : Hid (bitsN m = L + 1 ∧ L ≤ 52) := ⟨hL, by have h1 := bitsN_le m HM.out.2.2.2.1; rw [hL] at h1; have h2 : 2 ^ L < 2 ^ 53 := Nat.lt_of_le_of_lt h1 HM.out.2.2.1; have := (Nat.pow_lt_pow_iff_right (by decide : 1 < 2)).1 h2; omega⟩
        rw [hL]
        clear hL A6 N6
        have hwt : wrap64 (ex + (i : Int) + ((L : Int) + 1)) = ex + (i : Int) + ((L : Int) + 1) := by have := HE.out; have := HLL.out; have := HM.out.2.2.2.2; simp only [wrap64]; omega
        have hwu : wrap64 (ex + (i : Int) + ((L : Int) + 1) - 1) = ex + (i : Int) + (L : Int) := by have := HE.out; have := HLL.out; have := HM.out.2.2.2.2; simp only [wrap64]; omega
        go_wp2_with fail
        rw [hwu]
        obtain ⟨n, hn⟩ : ∃ n : Int, n = ex + (i : Int) + (L : Int) := ⟨_, rfl⟩
        have HN9 : Hid (n = ex + (i : Int) + (L : Int) ∧ -3000 ≤ n ∧ n ≤ 3000) := ⟨hn, by have := HE.out; have := HLL.out; have := HM.out.2.2.2.2; omega, by have := HE.out; have := HLL.out; have := HM.out.2.2.2.2; omega⟩
        rw [← hn]
        clear hn
        obtain ⟨r, q, hr, hrq⟩ : ∃ r q : Nat, r ≤ 3 ∧ L + r = 4 * q := ⟨(4 - L % 4) % 4, (L + 3) / 4, by omega, by omega⟩
        have HRQ : Hid (r ≤ 3 ∧ L + r = 4 * q) := ⟨hr, hrq⟩
        clear hr hrq hwt hwu hev hev2
        go_loopg [12] r (fun gk mv wr => ∃ j : Nat, gk + j = r ∧ mv = U (m * 2 ^ j) ∧ Below w.heap.size w wr)
        case atStart => exact ⟨0, by omega, congrArg (fun x : Nat => U x) (by rw [Nat.pow_zero, Nat.mul_one]), HBW.out⟩
        case round =>
          obtain ⟨j, hj, rfl, hbx⟩ := hrel
          have HBX := hm9 hbx
          have HJ : Hid (gk + j = r ∧ j ≤ 3) := ⟨hj, by have := HRQ.out; omega⟩
          have HMB : Hid (m * 2 ^ j ≤ m * 8 ∧ m * 8 < 144115188075855872) := ⟨Nat.mul_le_mul_left _ (Nat.pow_le_pow_right (n := 2) (by decide) HJ.out.2), by have := HM.out.2.2.1; omega⟩
          have HBT : Hid (bitsN (m * 2 ^ j) = L + j + 1) := by rw [Nat.mul_comm, bitsN_shl m j HM.out.2.2.2.1, HLL.out.1]; show _ = _; omega
          obtain ⟨M, hM⟩ : ∃ M, M = m * 2 ^ j := ⟨_, rfl⟩
          rw [← hM] at HMB HBT
          rw [← hM]
          have HMM := hm9 hM
          clear hbx hj hM
          go_wp2_with fail
          refine (rword M (by have := HMB.out; unfold B64; omega) _).mono ?_
          rintro en v8 ⟨g8, zs8, rfl, hl8, ha8, hn8, hb8⟩
          have A8 := hm9 ha8
          have N8 : Hid (zs8.length ≤ 2 ∧ Nf B32 zs8 M) := ⟨hl8, hn8⟩
          have HB8 := hm9 (Below.on HBX.out hb8)
          clear hl8 ha8 hn8 hb8
          go_wp2_with fail
          refine (rbits_any A8.out N8.out.2 (by have := N8.out.1; omega)).mono ?_
          rintro en v9 ⟨rfl, rfl⟩
          rw [HBT.out]
          obtain ⟨t, ht⟩ : ∃ t, t = L + j := ⟨_, rfl⟩
          rw [← ht]
          have htl : t ≤ 100 := by have := HLL.out; have := HJ.out; omega
          have hw9 : wrap64 ((t : Int) + 1 - 1) = (t : Int) := by simp only [wrap64]; omega
          have hw8 : wrap64 ((t : Int)) = (t : Int) := by simp only [wrap64]; omega
          have hmd : Int.tmod (t : Int) 4 = ((t % 4 : Nat) : Int) := by rw [Int.tmod_eq_emod_of_nonneg (by omega)]; omega
          obtain ⟨t4, ht4⟩ : ∃ t4, t4 = t % 4 := ⟨_, rfl⟩
          rw [← ht4] at hmd
          cases gk with
          | zero =>
            have ht0 : t4 = 0 := by have := HRQ.out; have := HJ.out; omega
            have hz3 : ((L : Int) + (j : Int)) % 4 = 0 := by have := HRQ.out; have := HJ.out; omega
            have hz4 : (((L : Int) + (j : Int)) % 4 != 0) = false := by rw [hz3]; rfl
            subst ht0
            clear A8 N8 ht4
            go_wp2_with fail
            have HD := hm9 (dg_same (man := mn) (m := m) (i := i) (j := j) (q := q) HM.out.1 HM.out.2.1 (by have := HMN.out.1; unfold B64; omega) HJ.out.2 (by rw [HLL.out.1]; have := HJ.out; have := HRQ.out; omega) (by have := HLL.out; have := HRQ.out; omega))
            rw [← HMM.out] at HD
            rw [show (⟨#[48, 49, 50, 51, 52, 53, 54, 55, 56, 57, 97, 98, 99, 100, 101, 102]⟩ : ByteArray) = D16 from rfl]
            go_loopg [12, 14] q (fun gk mv dv wr => ∃ s : Nat, gk + s = q ∧ mv = U (M / 16 ^ s) ∧ dv = .string (bs (hexW s M)) ∧ wr = v9)
            case atStart => exact ⟨0, by omega, congrArg (fun x : Nat => U x) (by rw [Nat.pow_zero, Nat.div_one]), rfl, rfl⟩
            case round =>
              obtain ⟨s, hs, rfl, rfl, rfl⟩ := hrel
              have HS : Hid (gk + s = q) := hs
              obtain ⟨A, hA⟩ : ∃ A, A = M / 16 ^ s := ⟨_, rfl⟩
              rw [← hA]
              have HA := hm9 hA
              have hA9 : A < 9223372036854775808 := by rw [hA]; have h1 := Nat.div_le_self M (16 ^ s); have := HMB.out; omega
              obtain ⟨Wd, hWd⟩ : ∃ Wd, Wd = hexW s M := ⟨_, rfl⟩
              rw [← hWd]
              have HWD := hm9 hWd
              have HWL : Hid (Wd.length ≤ 64) := by have := HS.out; have := HRQ.out; have := HLL.out; rw [hWd, hexW_len]; show _ ≤ _; omega
              clear hs hA hWd
              cases gk with
              | zero =>
                have hA1 : A = 1 := by have h := HD.out.2.1; rw [HA.out, show s = q by have := HS.out; omega]; exact h
                subst hA1
                have HDG : Hid (dgF mn = Wd) := by rw [HWD.out, HD.out.1, show s = q by have := HS.out; omega]; rfl
                have HTF : Hid (T = [45, 48, 120, 49] ++ (if Wd = [] then [] else 46 :: Wd) ++ [112] ++ sgT n) := by
                  have h1 : ex + ((bitsN mn - 1 : Nat) : Int) = n := by rw [HN9.out.1, HD.out.2.2, HLL.out.1]; omega
                  have h2 : exF mn ex = [48, 120, 49] ++ (if Wd = [] then [] else 46 :: Wd) ++ [112] ++ sgT n := by unfold exF; rw [if_neg HMN.out.2.2.2, HDG.out, h1]
                  rw [HTK.out, h2]; show _ = _; simp
                obtain ⟨N, hNN⟩ : ∃ N, N = Lib.itoa n := ⟨_, rfl⟩
                have HNN : Hid (N = Lib.itoa n ∧ N.length ≤ 302) := ⟨hNN, by rw [hNN]; exact itoa_short HN9.out.2.1 HN9.out.2.2⟩
                clear hNN
                by_cases hW0 : Wd = []
                · have hem : (bs Wd).toList.isEmpty = true := by rw [hW0]; exact emp0
                  have HTG : Hid (T = [45, 48, 120, 49] ++ Wd ++ [112] ++ sgT n) := by rw [HTF.out, if_pos hW0, hW0]; rfl
                  clear hW0 HTF
                  by_cases hn0 : n < 0
                  · have hp0 : ¬ (0 : Int) ≤ n := by omega
                    have HSG2 : Hid (sgT n = N) := by unfold sgT; rw [if_pos hn0, HNN.out.1]; rfl
                    clear hn0
                    have hc1 : ∀ W, (Op.stringOp .add ⟨#[45]⟩ ⟨#[48, 120, 49]⟩).run Tryz.prog W = .ok (.string (bs [45, 48, 120, 49])) W := fun W => cat_run [45] [48, 120, 49] W (by decide)
                    have hc2 : ∀ W, (Op.stringOp .add (bs [45, 48, 120, 49]) (bs Wd)).run Tryz.prog W = .ok (.string (bs (45 :: 48 :: 120 :: 49 :: Wd))) W := fun W => cat_run [45, 48, 120, 49] Wd W (by have := HWL.out; have := HNN.out; first | omega | (simp <;> omega))
                    have hb2 : ¬ ((bs [45, 48, 120, 49]).size + (bs Wd).size > 9223372036854775807) := by rw [bs_size, bs_size]; have := HWL.out; have := HNN.out; first | omega | (simp <;> omega)
                    have hc3 : ∀ W, (Op.stringOp .add (bs (45 :: 48 :: 120 :: 49 :: Wd)) ⟨#[112]⟩).run Tryz.prog W = .ok (.string (bs (45 :: 48 :: 120 :: 49 :: (Wd ++ [112])))) W := fun W => cat_run (45 :: 48 :: 120 :: 49 :: Wd) [112] W (by have := HWL.out; have := HNN.out; first | omega | (simp <;> omega))
                    have hb3 : ¬ ((bs (45 :: 48 :: 120 :: 49 :: Wd)).size + (⟨#[112]⟩ : ByteArray).size > 9223372036854775807) := by show ¬ ((bs _).size + (bs [112]).size > _); rw [bs_size, bs_size]; have := HWL.out; have := HNN.out; first | omega | (simp <;> omega)
                    have hc4 : ∀ W, (Op.stringOp .add (bs (45 :: 48 :: 120 :: 49 :: (Wd ++ [112]))) ⟨#[]⟩).run Tryz.prog W = .ok (.string (bs (45 :: 48 :: 120 :: 49 :: (Wd ++ [112]) ++ []))) W := fun W => cat_run (45 :: 48 :: 120 :: 49 :: (Wd ++ [112])) [] W (by have := HWL.out; have := HNN.out; first | omega | (simp <;> omega))
                    have hb4 : ¬ ((bs (45 :: 48 :: 120 :: 49 :: (Wd ++ [112]))).size + (⟨#[]⟩ : ByteArray).size > 9223372036854775807) := by show ¬ ((bs _).size + (bs []).size > _); rw [bs_size, bs_size]; have := HWL.out; have := HNN.out; first | omega | (simp <;> omega)
                    go_wp2_with fail
                    refine (itoa_c n (by have := HN9.out; omega) (by have := HN9.out; omega) _ (HX.out.2.2.2.below HB8.out)).mono ?_
                    rintro en v10 ⟨rfl, hb10⟩
                    rw [← HNN.out.1]
                    have HB10 : Hid (Below w.heap.size w v10) := Below.on HB8.out hb10
                    clear hb10 hc1 hc2 hb2 hc3 hb3 hc4 hb4
                    have hc5 : ∀ W, (Op.stringOp .add (bs (45 :: 48 :: 120 :: 49 :: (Wd ++ [112]))) (bs N)).run Tryz.prog W = .ok (.string (bs (45 :: 48 :: 120 :: 49 :: (Wd ++ [112]) ++ N))) W := fun W => cat_run (45 :: 48 :: 120 :: 49 :: (Wd ++ [112])) N W (by have := HWL.out; have := HNN.out; first | omega | (simp <;> omega))
                    have hb5 : ¬ ((bs (45 :: 48 :: 120 :: 49 :: (Wd ++ [112]))).size + (bs N).size > 9223372036854775807) := by rw [bs_size, bs_size]; have := HWL.out; have := HNN.out; first | omega | (simp <;> omega)
                    go_wp2_with fail
                    go_ret2
                    refine ⟨congrArg (fun x => Ending.returned (.tuple #[.string (bs x), .int .i64 0])) (show 45 :: 48 :: 120 :: 49 :: (Wd ++ 112 :: N) = T from by rw [HTG.out, HSG2.out]; simp), HB10.out⟩
                  · have hp0 : (0 : Int) ≤ n := by omega
                    have HSG2 : Hid (sgT n = 43 :: N) := by unfold sgT; rw [if_neg hn0, HNN.out.1]; rfl
                    clear hn0
                    have hc1 : ∀ W, (Op.stringOp .add ⟨#[45]⟩ ⟨#[48, 120, 49]⟩).run Tryz.prog W = .ok (.string (bs [45, 48, 120, 49])) W := fun W => cat_run [45] [48, 120, 49] W (by decide)
                    have hc2 : ∀ W, (Op.stringOp .add (bs [45, 48, 120, 49]) (bs Wd)).run Tryz.prog W = .ok (.string (bs (45 :: 48 :: 120 :: 49 :: Wd))) W := fun W => cat_run [45, 48, 120, 49] Wd W (by have := HWL.out; have := HNN.out; first | omega | (simp <;> omega))
                    have hb2 : ¬ ((bs [45, 48, 120, 49]).size + (bs Wd).size > 9223372036854775807) := by rw [bs_size, bs_size]; have := HWL.out; have := HNN.out; first | omega | (simp <;> omega)
                    have hc3 : ∀ W, (Op.stringOp .add (bs (45 :: 48 :: 120 :: 49 :: Wd)) ⟨#[112]⟩).run Tryz.prog W = .ok (.string (bs (45 :: 48 :: 120 :: 49 :: (Wd ++ [112])))) W := fun W => cat_run (45 :: 48 :: 120 :: 49 :: Wd) [112] W (by have := HWL.out; have := HNN.out; first | omega | (simp <;> omega))
                    have hb3 : ¬ ((bs (45 :: 48 :: 120 :: 49 :: Wd)).size + (⟨#[112]⟩ : ByteArray).size > 9223372036854775807) := by show ¬ ((bs _).size + (bs [112]).size > _); rw [bs_size, bs_size]; have := HWL.out; have := HNN.out; first | omega | (simp <;> omega)
                    have hc4 : ∀ W, (Op.stringOp .add (bs (45 :: 48 :: 120 :: 49 :: (Wd ++ [112]))) ⟨#[43]⟩).run Tryz.prog W = .ok (.string (bs (45 :: 48 :: 120 :: 49 :: (Wd ++ [112]) ++ [43]))) W := fun W => cat_run (45 :: 48 :: 120 :: 49 :: (Wd ++ [112])) [43] W (by have := HWL.out; have := HNN.out; first | omega | (simp <;> omega))
                    have hb4 : ¬ ((bs (45 :: 48 :: 120 :: 49 :: (Wd ++ [112]))).size + (⟨#[43]⟩ : ByteArray).size > 9223372036854775807) := by show ¬ ((bs _).size + (bs [43]).size > _); rw [bs_size, bs_size]; have := HWL.out; have := HNN.out; first | omega | (simp <;> omega)
                    go_wp2_with fail
                    refine (itoa_c n (by have := HN9.out; omega) (by have := HN9.out; omega) _ (HX.out.2.2.2.below HB8.out)).mono ?_
                    rintro en v10 ⟨rfl, hb10⟩
                    rw [← HNN.out.1]
                    have HB10 : Hid (Below w.heap.size w v10) := Below.on HB8.out hb10
                    clear hb10 hc1 hc2 hb2 hc3 hb3 hc4 hb4
                    have hc5 : ∀ W, (Op.stringOp .add (bs (45 :: 48 :: 120 :: 49 :: (Wd ++ [112, 43]))) (bs N)).run Tryz.prog W = .ok (.string (bs (45 :: 48 :: 120 :: 49 :: (Wd ++ [112, 43]) ++ N))) W := fun W => cat_run (45 :: 48 :: 120 :: 49 :: (Wd ++ [112, 43])) N W (by have := HWL.out; have := HNN.out; first | omega | (simp <;> omega))
                    have hb5 : ¬ ((bs (45 :: 48 :: 120 :: 49 :: (Wd ++ [112, 43]))).size + (bs N).size > 9223372036854775807) := by rw [bs_size, bs_size]; have := HWL.out; have := HNN.out; first | omega | (simp <;> omega)
                    go_wp2_with fail
                    go_ret2
                    refine ⟨congrArg (fun x => Ending.returned (.tuple #[.string (bs x), .int .i64 0])) (show 45 :: 48 :: 120 :: 49 :: (Wd ++ 112 :: 43 :: N) = T from by rw [HTG.out, HSG2.out]; simp), HB10.out⟩
                · have hem : (bs Wd).toList.isEmpty = false := emp1 hW0
                  have HTG : Hid (T = [45, 48, 120, 49] ++ (46 :: Wd) ++ [112] ++ sgT n) := by rw [HTF.out, if_neg hW0]; rfl
                  clear hW0 HTF
                  by_cases hn0 : n < 0
                  · have hp0 : ¬ (0 : Int) ≤ n := by omega
                    have HSG2 : Hid (sgT n = N) := by unfold sgT; rw [if_pos hn0, HNN.out.1]; rfl
                    clear hn0
                    have hc0 : ∀ W, (Op.stringOp .add ⟨#[46]⟩ (bs Wd)).run Tryz.prog W = .ok (.string (bs ([46] ++ Wd))) W := fun W => cat_run [46] Wd W (by have h1 : [(46 : UInt8)].length = 1 := rfl; have := HWL.out; omega)
                    have hb0 : ¬ ((⟨#[46]⟩ : ByteArray).size + ((bs Wd) : ByteArray).size > 9223372036854775807) := by show ¬ ((bs [46]).size + (bs Wd).size > _); rw [bs_size, bs_size]; have h1 : [(46 : UInt8)].length = 1 := rfl; have := HWL.out; omega
                    have hc1 : ∀ W, (Op.stringOp .add ⟨#[45]⟩ ⟨#[48, 120, 49]⟩).run Tryz.prog W = .ok (.string (bs [45, 48, 120, 49])) W := fun W => cat_run [45] [48, 120, 49] W (by decide)
                    have hc2 : ∀ W, (Op.stringOp .add (bs [45, 48, 120, 49]) (bs (46 :: Wd))).run Tryz.prog W = .ok (.string (bs (45 :: 48 :: 120 :: 49 :: 46 :: Wd))) W := fun W => cat_run [45, 48, 120, 49] (46 :: Wd) W (by have := HWL.out; have := HNN.out; first | omega | (simp <;> omega))
                    have hb2 : ¬ ((bs [45, 48, 120, 49]).size + (bs (46 :: Wd)).size > 9223372036854775807) := by rw [bs_size, bs_size]; have := HWL.out; have := HNN.out; first | omega | (simp <;> omega)
                    have hc3 : ∀ W, (Op.stringOp .add (bs (45 :: 48 :: 120 :: 49 :: 46 :: Wd)) ⟨#[112]⟩).run Tryz.prog W = .ok (.string (bs (45 :: 48 :: 120 :: 49 :: (46 :: Wd ++ [112])))) W := fun W => cat_run (45 :: 48 :: 120 :: 49 :: 46 :: Wd) [112] W (by have := HWL.out; have := HNN.out; first | omega | (simp <;> omega))
                    have hb3 : ¬ ((bs (45 :: 48 :: 120 :: 49 :: 46 :: Wd)).size + (⟨#[112]⟩ : ByteArray).size > 9223372036854775807) := by show ¬ ((bs _).size + (bs [112]).size > _); rw [bs_size, bs_size]; have := HWL.out; have := HNN.out; first | omega | (simp <;> omega)
                    have hc4 : ∀ W, (Op.stringOp .add (bs (45 :: 48 :: 120 :: 49 :: 46 :: (Wd ++ [112]))) ⟨#[]⟩).run Tryz.prog W = .ok (.string (bs (45 :: 48 :: 120 :: 49 :: 46 :: (Wd ++ [112]) ++ []))) W := fun W => cat_run (45 :: 48 :: 120 :: 49 :: 46 :: (Wd ++ [112])) [] W (by have := HWL.out; have := HNN.out; first | omega | (simp <;> omega))
                    have hb4 : ¬ ((bs (45 :: 48 :: 120 :: 49 :: 46 :: (Wd ++ [112]))).size + (⟨#[]⟩ : ByteArray).size > 9223372036854775807) := by show ¬ ((bs _).size + (bs []).size > _); rw [bs_size, bs_size]; have := HWL.out; have := HNN.out; first | omega | (simp <;> omega)
                    go_wp2_with fail
                    refine (itoa_c n (by have := HN9.out; omega) (by have := HN9.out; omega) _ (HX.out.2.2.2.below HB8.out)).mono ?_
                    rintro en v10 ⟨rfl, hb10⟩
                    rw [← HNN.out.1]
                    have HB10 : Hid (Below w.heap.size w v10) := Below.on HB8.out hb10
                    clear hb10 hc1 hc2 hb2 hc3 hb3 hc4 hb4 hc0 hb0
                    have hc5 : ∀ W, (Op.stringOp .add (bs (45 :: 48 :: 120 :: 49 :: 46 :: (Wd ++ [112]))) (bs N)).run Tryz.prog W = .ok (.string (bs (45 :: 48 :: 120 :: 49 :: 46 :: (Wd ++ [112]) ++ N))) W := fun W => cat_run (45 :: 48 :: 120 :: 49 :: 46 :: (Wd ++ [112])) N W (by have := HWL.out; have := HNN.out; first | omega | (simp <;> omega))
                    have hb5 : ¬ ((bs (45 :: 48 :: 120 :: 49 :: 46 :: (Wd ++ [112]))).size + (bs N).size > 9223372036854775807) := by rw [bs_size, bs_size]; have := HWL.out; have := HNN.out; first | omega | (simp <;> omega)
                    go_wp2_with fail
                    go_ret2
                    refine ⟨congrArg (fun x => Ending.returned (.tuple #[.string (bs x), .int .i64 0])) (show 45 :: 48 :: 120 :: 49 :: 46 :: (Wd ++ 112 :: N) = T from by rw [HTG.out, HSG2.out]; simp), HB10.out⟩
                  · have hp0 : (0 : Int) ≤ n := by omega
                    have HSG2 : Hid (sgT n = 43 :: N) := by unfold sgT; rw [if_neg hn0, HNN.out.1]; rfl
                    clear hn0
                    have hc0 : ∀ W, (Op.stringOp .add ⟨#[46]⟩ (bs Wd)).run Tryz.prog W = .ok (.string (bs ([46] ++ Wd))) W := fun W => cat_run [46] Wd W (by have h1 : [(46 : UInt8)].length = 1 := rfl; have := HWL.out; omega)
                    have hb0 : ¬ ((⟨#[46]⟩ : ByteArray).size + ((bs Wd) : ByteArray).size > 9223372036854775807) := by show ¬ ((bs [46]).size + (bs Wd).size > _); rw [bs_size, bs_size]; have h1 : [(46 : UInt8)].length = 1 := rfl; have := HWL.out; omega
                    have hc1 : ∀ W, (Op.stringOp .add ⟨#[45]⟩ ⟨#[48, 120, 49]⟩).run Tryz.prog W = .ok (.string (bs [45, 48, 120, 49])) W := fun W => cat_run [45] [48, 120, 49] W (by decide)
                    have hc2 : ∀ W, (Op.stringOp .add (bs [45, 48, 120, 49]) (bs (46 :: Wd))).run Tryz.prog W = .ok (.string (bs (45 :: 48 :: 120 :: 49 :: 46 :: Wd))) W := fun W => cat_run [45, 48, 120, 49] (46 :: Wd) W (by have := HWL.out; have := HNN.out; first | omega | (simp <;> omega))
                    have hb2 : ¬ ((bs [45, 48, 120, 49]).size + (bs (46 :: Wd)).size > 9223372036854775807) := by rw [bs_size, bs_size]; have := HWL.out; have := HNN.out; first | omega | (simp <;> omega)
                    have hc3 : ∀ W, (Op.stringOp .add (bs (45 :: 48 :: 120 :: 49 :: 46 :: Wd)) ⟨#[112]⟩).run Tryz.prog W = .ok (.string (bs (45 :: 48 :: 120 :: 49 :: (46 :: Wd ++ [112])))) W := fun W => cat_run (45 :: 48 :: 120 :: 49 :: 46 :: Wd) [112] W (by have := HWL.out; have := HNN.out; first | omega | (simp <;> omega))
                    have hb3 : ¬ ((bs (45 :: 48 :: 120 :: 49 :: 46 :: Wd)).size + (⟨#[112]⟩ : ByteArray).size > 9223372036854775807) := by show ¬ ((bs _).size + (bs [112]).size > _); rw [bs_size, bs_size]; have := HWL.out; have := HNN.out; first | omega | (simp <;> omega)
                    have hc4 : ∀ W, (Op.stringOp .add (bs (45 :: 48 :: 120 :: 49 :: 46 :: (Wd ++ [112]))) ⟨#[43]⟩).run Tryz.prog W = .ok (.string (bs (45 :: 48 :: 120 :: 49 :: 46 :: (Wd ++ [112]) ++ [43]))) W := fun W => cat_run (45 :: 48 :: 120 :: 49 :: 46 :: (Wd ++ [112])) [43] W (by have := HWL.out; have := HNN.out; first | omega | (simp <;> omega))
                    have hb4 : ¬ ((bs (45 :: 48 :: 120 :: 49 :: 46 :: (Wd ++ [112]))).size + (⟨#[43]⟩ : ByteArray).size > 9223372036854775807) := by show ¬ ((bs _).size + (bs [43]).size > _); rw [bs_size, bs_size]; have := HWL.out; have := HNN.out; first | omega | (simp <;> omega)
                    go_wp2_with fail
                    refine (itoa_c n (by have := HN9.out; omega) (by have := HN9.out; omega) _ (HX.out.2.2.2.below HB8.out)).mono ?_
                    rintro en v10 ⟨rfl, hb10⟩
                    rw [← HNN.out.1]
                    have HB10 : Hid (Below w.heap.size w v10) := Below.on HB8.out hb10
                    clear hb10 hc1 hc2 hb2 hc3 hb3 hc4 hb4 hc0 hb0
                    have hc5 : ∀ W, (Op.stringOp .add (bs (45 :: 48 :: 120 :: 49 :: 46 :: (Wd ++ [112, 43]))) (bs N)).run Tryz.prog W = .ok (.string (bs (45 :: 48 :: 120 :: 49 :: 46 :: (Wd ++ [112, 43]) ++ N))) W := fun W => cat_run (45 :: 48 :: 120 :: 49 :: 46 :: (Wd ++ [112, 43])) N W (by have := HWL.out; have := HNN.out; first | omega | (simp <;> omega))
                    have hb5 : ¬ ((bs (45 :: 48 :: 120 :: 49 :: 46 :: (Wd ++ [112, 43]))).size + (bs N).size > 9223372036854775807) := by rw [bs_size, bs_size]; have := HWL.out; have := HNN.out; first | omega | (simp <;> omega)
                    go_wp2_with fail
                    go_ret2
                    refine ⟨congrArg (fun x => Ending.returned (.tuple #[.string (bs x), .int .i64 0])) (show 45 :: 48 :: 120 :: 49 :: 46 :: (Wd ++ 112 :: 43 :: N) = T from by rw [HTG.out, HSG2.out]; simp), HB10.out⟩
              | succ gk3 =>
                have hA1 : (1 : Int) < (A : Int) := by have := div_ge HD.out.2.1 (s := s) (by have := HS.out; omega); rw [← HA.out] at this; omega
                obtain ⟨d, hd⟩ : ∃ d, d = A % 16 := ⟨_, rfl⟩
                have hd16 : d < 16 := by omega
                have hmod : (A : Int) % 16 = (d : Int) := by omega
                have hdD : d < D16.size := hd16
                have hds : D16.size = 16 := rfl
                have hd0 : (0 : Int) ≤ (d : Int) ∧ (d : Int) < 16 := by omega
                have hdg : (((D16[d]'hdD).toNat : Nat) : Int) = ((hxc d : Nat) : Int) := by rw [dig16]
                have hen := enc16 hd16
                obtain ⟨cc, hcc⟩ : ∃ cc, cc = hxc d := ⟨_, rfl⟩
                rw [← hcc] at hdg hen
                obtain ⟨ec, hec⟩ : ∃ ec, ec = UInt8.ofNat cc := ⟨_, rfl⟩
                rw [← hec] at hen
                have HEC : Hid (ec = UInt8.ofNat (hxc (M / 16 ^ s % 16))) := by rw [hec, hcc, hd, HA.out]; rfl
                obtain ⟨A2, hA2⟩ : ∃ A2, A2 = A / 16 := ⟨_, rfl⟩
                have hdv : (A : Int) / 16 = (A2 : Int) := by omega
                have hwr : IntKind.u64.wrap (A2 : Int) = (A2 : Int) := wr64 (by omega)
                have HA2 : Hid (A2 = M / 16 ^ (s + 1)) := by rw [hA2, HA.out, Nat.div_div_eq_div_mul, ← Nat.pow_succ]; rfl
                have hca : ∀ W, (Op.stringOp .add (bs [ec]) (bs Wd)).run Tryz.prog W = .ok (.string (bs ([ec] ++ Wd))) W := fun W => cat_run [ec] Wd W (by have := HWL.out; show 1 + _ ≤ _; omega)
                have hba : ¬ ((bs [ec]).size + (bs Wd).size > 9223372036854775807) := by rw [bs_size, bs_size]; have := HWL.out; show ¬ (1 + _ > _); omega
                clear hd hcc hec hA2
                go_wp2_with fail
                go_roundg gk3
                case measure => omega
                case rel => exact ⟨s + 1, by have := HS.out; omega, congrArg (Value.int IntKind.u64) (by first | (rw [hwr, HA2.out]) | (rw [HA2.out])), by rw [hexW_front, ← HEC.out, ← HWD.out], rfl⟩
          | succ gk2 =>
            have ht0 : ¬ (t4 : Int) = 0 := by have := HRQ.out; have := HJ.out; omega
            have ht1 : ((t4 : Int) != 0) = true := bne_iff_ne.2 ht0
            have hz3 : ¬ ((L : Int) + (j : Int)) % 4 = 0 := by have := HRQ.out; have := HJ.out; omega
            have hz4 : (((L : Int) + (j : Int)) % 4 != 0) = true := bne_iff_ne.2 hz3
            have hw2 : IntKind.u64.wrap ((M : Int) * 2) = ((M * 2 : Nat) : Int) := by have := HMB.out; simp [IntKind.wrap, IntKind.signed, IntKind.bits]; omega
            clear A8 N8 ht4 ht
            go_wp2_with fail
            go_roundg gk2
            case measure => omega
            case rel => exact ⟨j + 1, by have := HJ.out; omega, congrArg (Value.int IntKind.u64) (by first | (rw [hw2, HMM.out, Nat.pow_succ, ← Nat.mul_assoc]) | (rw [HMM.out, Nat.pow_succ, ← Nat.mul_assoc]; omega)), HB8.out⟩
theorem docprint_32 {b : Nat} (hb : b < 2 * 2147483648) {w : World} (hP : TbP w) :
    Calls Tryz.prog 13 #[.int .i64 32, U b] w fun en w' => en = .returned (.tuple #[.string (bs (printF (-149) 8388608 2147483648 2139095040 b)), .int .i64 0]) ∧ Below w.heap.size w w' := by
  by_cases h1 : 2139095040 < b % 2147483648
  · rw [show printF (-149) 8388608 2147483648 2139095040 b = [110, 97, 110] from if_pos h1]
    exact docprint_n rd_32 hb h1 hP
  by_cases h2 : b % 2147483648 = 2139095040
  · exact docprint_i rd_32 hb (T := printF (-149) 8388608 2147483648 2139095040 b) (by unfold printF; rw [if_neg h1, if_pos h2]) h2 hP
  by_cases h3 : b % 2147483648 = 0
  · refine docprint_z rd_32 hb (T := printF (-149) 8388608 2147483648 2139095040 b) ?_ h3 (by decide) hP
    unfold printF
    rw [if_neg h1, if_neg h2]
    congr 1
    unfold exF
    rw [if_pos (by omega)]
  · refine docprint_m rd_32 hb (T := printF (-149) 8388608 2147483648 2139095040 b) (mn := b % 2147483648 - (b % 2147483648 / 8388608 - 1) * 8388608) (ex := (-149) + ((b % 2147483648 / 8388608 - 1 : Nat) : Int)) ?_ (by omega) h3 rfl rfl ⟨by omega, by omega, by omega, by omega⟩ hP
    unfold printF
    rw [if_neg h1, if_neg h2]
theorem docprint_64 {b : Nat} (hb : b < 2 * 9223372036854775808) {w : World} (hP : TbP w) :
    Calls Tryz.prog 13 #[.int .i64 64, U b] w fun en w' => en = .returned (.tuple #[.string (bs (printF (-1074) 4503599627370496 9223372036854775808 9218868437227405312 b)), .int .i64 0]) ∧ Below w.heap.size w w' := by
  by_cases h1 : 9218868437227405312 < b % 9223372036854775808
  · rw [show printF (-1074) 4503599627370496 9223372036854775808 9218868437227405312 b = [110, 97, 110] from if_pos h1]
    exact docprint_n rd_64 hb h1 hP
  by_cases h2 : b % 9223372036854775808 = 9218868437227405312
  · exact docprint_i rd_64 hb (T := printF (-1074) 4503599627370496 9223372036854775808 9218868437227405312 b) (by unfold printF; rw [if_neg h1, if_pos h2]) h2 hP
  by_cases h3 : b % 9223372036854775808 = 0
  · refine docprint_z rd_64 hb (T := printF (-1074) 4503599627370496 9223372036854775808 9218868437227405312 b) ?_ h3 (by decide) hP
    unfold printF
    rw [if_neg h1, if_neg h2]
    congr 1
    unfold exF
    rw [if_pos (by omega)]
  · refine docprint_m rd_64 hb (T := printF (-1074) 4503599627370496 9223372036854775808 9218868437227405312 b) (mn := b % 9223372036854775808 - (b % 9223372036854775808 / 4503599627370496 - 1) * 4503599627370496) (ex := (-1074) + ((b % 9223372036854775808 / 4503599627370496 - 1 : Nat) : Int)) ?_ (by omega) h3 rfl rfl ⟨by omega, by omega, by omega, by omega⟩ hP
    unfold printF
    rw [if_neg h1, if_neg h2]
theorem print_both (f : Int) {b : Nat} (hb : b < B64) : ∃ (t : List UInt8) (er : Int), (∀ w, Wd w → Calls Tryz.prog 8 #[.int .i64 f, U b] w fun en w' => en = .returned (.tuple #[.string (bs t), .int .i64 er]) ∧ Below w.heap.size w w') ∧ (∀ w, Wd w → Calls Tryz.prog 13 #[.int .i64 f, U b] w fun en w' => en = .returned (.tuple #[.string (bs t), .int .i64 er]) ∧ Below w.heap.size w w') := by
  by_cases h1 : f = 32
  · subst h1
    rcases Nat.lt_or_ge b 4294967296 with h | h
    · exact ⟨_, _, fun w hw => hf_32.print h hw rfl, fun w hw => docprint_32 h hw.p⟩
    · exact ⟨[], 2, fun w _ => print_bad (fun w => patternOf_32_big b hb h w) (by decide) w, fun w _ => docprint_e (fun w => check_big rf_32 b hb h w) (by decide) w⟩
  by_cases h2 : f = 64
  · subst h2
    exact ⟨_, _, fun w hw => hf_64.print hb hw rfl, fun w hw => docprint_64 hb hw.p⟩
  · exact ⟨[], 1, fun w _ => print_bad (fun w => patternOf_x f h1 h2 b w) (by decide) w, fun w _ => docprint_e (fun w => check_x f h1 h2 b w) (by decide) w⟩
theorem plays10_2 {f : Int} {b : Nat} (hb : b < B64) {w : World} (hw : Wd w) (s : ByteArray) :
    Calls Tryz.prog 7 #[.agg #[.int .i64 2, .int .i64 f, .string s, U b]] w fun en w' => en = .returned (.bool true) ∧ Below w.heap.size w w' := by
  obtain ⟨t, er, h1, h2⟩ := print_both f hb
  have H1 := hm9 h1
  have H2 := hm9 h2
  have HW := hm9 hw
  clear h1 h2 hw hb
  go_enter Tryz.func7, Tryz.ntmps7
  go_wp2_with fail
  obtain ⟨W0, hW0⟩ : ∃ W0, W0 = (w.alloc (.cells #[.int .i64 2, .int .i64 f, .string s, U b] 27)) := ⟨_, rfl⟩
  have Xo : Hid (B4q W0 (w.heap.size) (.int .i64 2) (.int .i64 f) (.string s) (U b)) := by rw [hW0]; exact ⟨by go_simp, by go_simp, by go_simp, by go_simp, by go_simp, by go_simp, by go_simp, by go_simp⟩
  have hb0 : Below w.heap.size w W0 := by rw [hW0]; exact below1 w _
  rw [← hW0]
  clear hW0
  have hbw : Below w.heap.size w w := Below.refl _ _
  obtain ⟨go, hgo⟩ : ∃ g, g = w.heap.size := ⟨_, rfl⟩
  have HGo : Hid (w.heap.size ≤ go) := by rw [hgo]; show _ ≤ _; omega
  rw [← hgo] at Xo
  try rw [← hgo]
  clear hgo
  replace hbw := Below.on hbw hb0
  clear hb0
  refine (H1.out _ (HW.out.below hbw)).mono ?_
  rintro e v1 ⟨rfl, hb1⟩
  replace Xo : Hid _ := Xo.out.below hb1
  replace hbw := Below.on hbw hb1
  clear hb1
  obtain ⟨co0, co1, co2, co3, fo0, fo1, fo2, fo3⟩ := Xo.out
  have hneo : go < v1.heap.size := World.block_lt_of_cell? v1 _ co0
  go_wp2_with fail
  clear co0 co1 co2 co3 fo0 fo1 fo2 fo3 hneo
  refine (H2.out _ (HW.out.below hbw)).mono ?_
  rintro e v2 ⟨rfl, hb2⟩
  replace Xo : Hid _ := Xo.out.below hb2
  replace hbw := Below.on hbw hb2
  clear hb2
  have hself : ((bs t).toList == (bs t).toList) = true := beq_self_eq_true _
  have hself2 : (er == er) = true := beq_self_eq_true _
  obtain ⟨co0, co1, co2, co3, fo0, fo1, fo2, fo3⟩ := Xo.out
  have hneo : go < v2.heap.size := World.block_lt_of_cell? v2 _ co0
  go_wp2_with fail
  clear co0 co1 co2 co3 fo0 fo1 fo2 fo3 hneo
  go_ret
  exact ⟨rfl, hbw⟩
theorem hk9 {v K L : Nat} (hv : v < 2 ^ L) (hK : TzIs v K) : K < L := by
  have h1 : 2 ^ K ≤ v := by
    rcases Nat.lt_or_ge v (2 ^ K) with e | e
    · have h2 := hK.2
      rw [Nat.div_eq_of_lt e] at h2
      omega
    · exact e
  exact (Nat.pow_lt_pow_iff_right (by omega : 1 < 2)).1 (Nat.lt_of_le_of_lt h1 hv)
theorem rj_32 : Rj 32 2147483648 24 (-149) 104 2139095040 2143289345 8388608 23 254 128 :=
  ⟨rf_32, fun b w => rwhole_32 w, by decide, by decide, by decide, by decide, by decide, by decide, by decide, by decide⟩
theorem rj_64 : Rj 64 9223372036854775808 53 (-1074) 971 9218868437227405312 9221120237041090561 4503599627370496 52 2046 1024 :=
  ⟨rf_64, fun b w => rwhole_64 w, by decide, by decide, by decide, by decide, by decide, by decide, by decide, by decide⟩
theorem JA.ex (S H I : Nat) (l : Int) (neg : Bool) (man : Nat) (ex : Int) : ∃ r er, JA S H I l neg man ex r er := by
  by_cases h : ∃ s, JnR H I l man ex s
  · obtain ⟨s, hs⟩ := h
    exact ⟨_, 0, .inl ⟨rfl, s, hs, rfl⟩⟩
  · exact ⟨0, 5, .inr ⟨rfl, rfl, fun s hs => h ⟨s, hs⟩⟩⟩
theorem parse_both (f : Int) (l : List UInt8) : ∃ (x : Nat) (er : Int), (∀ w, Wd w → Calls Tryz.prog 9 #[.int .i64 f, .string (bs l)] w fun en w' => en = .returned (.tuple #[U x, .int .i64 er]) ∧ Below w.heap.size w w') ∧ (∀ w, Calls Tryz.prog 12 #[.int .i64 f, .string (bs l)] w fun en w' => en = .returned (.tuple #[U x, .int .i64 er]) ∧ Below w.heap.size w w') := by
  by_cases h1 : f = 32
  · subst h1
    exact ⟨_, _, fun w hw => hf_32.parse l hw rfl, fun w => docparse_c jn_32 rj_32 rfl⟩
  by_cases h2 : f = 64
  · subst h2
    exact ⟨_, _, fun w hw => hf_64.parse l hw rfl, fun w => docparse_c jn_64 rj_64 rfl⟩
  · exact ⟨0, 1, fun w _ => parse_x h1 h2 _ w, fun w => docparse_x h1 h2 _ w⟩
theorem plays10_1 {f : Int} (l : List UInt8) {w : World} (hw : Wd w) (b : Nat) :
    Calls Tryz.prog 7 #[.agg #[.int .i64 1, .int .i64 f, .string (bs l), U b]] w fun en w' => en = .returned (.bool true) ∧ Below w.heap.size w w' := by
  obtain ⟨x, er, h1, h2⟩ := parse_both f l
  have H1 := hm9 h1
  have H2 := hm9 h2
  have HW := hm9 hw
  clear h1 h2 hw
  go_enter Tryz.func7, Tryz.ntmps7
  go_wp2_with fail
  obtain ⟨W0, hW0⟩ : ∃ W0, W0 = (w.alloc (.cells #[.int .i64 1, .int .i64 f, .string (bs l), U b] 27)) := ⟨_, rfl⟩
  have Xo : Hid (B4q W0 (w.heap.size) (.int .i64 1) (.int .i64 f) (.string (bs l)) (U b)) := by rw [hW0]; exact ⟨by go_simp, by go_simp, by go_simp, by go_simp, by go_simp, by go_simp, by go_simp, by go_simp⟩
  have hb0 : Below w.heap.size w W0 := by rw [hW0]; exact below1 w _
  rw [← hW0]
  clear hW0
  have hbw : Below w.heap.size w w := Below.refl _ _
  obtain ⟨go, hgo⟩ : ∃ g, g = w.heap.size := ⟨_, rfl⟩
  have HGo : Hid (w.heap.size ≤ go) := by rw [hgo]; show _ ≤ _; omega
  rw [← hgo] at Xo
  try rw [← hgo]
  clear hgo
  replace hbw := Below.on hbw hb0
  clear hb0
  refine (H1.out _ (HW.out.below hbw)).mono ?_
  rintro e v1 ⟨rfl, hb1⟩
  replace Xo : Hid _ := Xo.out.below hb1
  replace hbw := Below.on hbw hb1
  clear hb1
  obtain ⟨co0, co1, co2, co3, fo0, fo1, fo2, fo3⟩ := Xo.out
  have hneo : go < v1.heap.size := World.block_lt_of_cell? v1 _ co0
  go_wp2_with fail
  clear co0 co1 co2 co3 fo0 fo1 fo2 fo3 hneo
  refine (H2.out _).mono ?_
  rintro e v2 ⟨rfl, hb2⟩
  replace Xo : Hid _ := Xo.out.below hb2
  replace hbw := Below.on hbw hb2
  clear hb2
  have hself2 : (er == er) = true := beq_self_eq_true _
  have hself3 : ((x : Int) == (x : Int)) = true := beq_self_eq_true _
  obtain ⟨co0, co1, co2, co3, fo0, fo1, fo2, fo3⟩ := Xo.out
  have hneo : go < v2.heap.size := World.block_lt_of_cell? v2 _ co0
  go_wp2_with fail
  clear co0 co1 co2 co3 fo0 fo1 fo2 fo3 hneo
  go_ret
  exact ⟨rfl, hbw⟩
structure Op10 where
  k : Int
  f : Int
  st : ByteArray
  b : Nat
structure Scr10 (w : World) (P : Option Addr) (N C : Nat) (its : List Op10) : Prop where
  len : its.length = N
  cap : N ≤ C
  big : C ≤ maxLen
  bd : ∀ t ∈ its, t.b < B64
  cells : N = 0 ∨ ∃ g off, P = some ⟨g, off, none⟩ ∧ ∀ i (h : i < its.length), w.cell? ⟨g, off + i * 4, none⟩ = some (.int .i64 its[i].k) ∧ w.cell? ⟨g, off + i * 4 + 1, none⟩ = some (.int .i64 its[i].f) ∧
    w.cell? ⟨g, off + i * 4 + 2, none⟩ = some (.string its[i].st) ∧ w.cell? ⟨g, off + i * 4 + 3, none⟩ = some (U its[i].b)
theorem Scr10.below {w w' : World} {P : Option Addr} {N C : Nat} {its : List Op10} (h : Scr10 w P N C its) (hb : Below w.heap.size w w') : Scr10 w' P N C its := by
  refine ⟨h.len, h.cap, h.big, h.bd, ?_⟩
  rcases h.cells with h0 | ⟨g, off, hP, hc⟩
  · exact .inl h0
  · refine .inr ⟨g, off, hP, fun i hi => ?_⟩
    obtain ⟨h0, h1, h2, h3⟩ := hc i hi
    have hl : g < w.heap.size := World.block_lt_of_cell? w _ h0
    exact ⟨(hb.cell (p := ⟨g, off + i * 4, none⟩) hl).trans h0, (hb.cell (p := ⟨g, off + i * 4 + 1, none⟩) hl).trans h1, (hb.cell (p := ⟨g, off + i * 4 + 2, none⟩) hl).trans h2,
      (hb.cell (p := ⟨g, off + i * 4 + 3, none⟩) hl).trans h3⟩
theorem plays10_all (kd f : Int) (s : ByteArray) {b : Nat} (hb : b < B64) {w : World} (hw : Wd w) :
    Calls Tryz.prog 7 #[.agg #[.int .i64 kd, .int .i64 f, .string s, U b]] w fun en w' => en = .returned (.bool true) ∧ Below w.heap.size w w' := by
  by_cases h1 : kd = 1
  · subst h1
    obtain ⟨l, rfl⟩ : ∃ l, s = bs l := ⟨s.data.toList, rfl⟩
    exact plays10_1 l hw b
  by_cases h2 : kd = 2
  · subst h2
    exact plays10_2 hb hw s
  have q1 : (kd == 1) = false := by simpa using h1
  have q2 : (kd == 2) = false := by simpa using h2
  go_enter Tryz.func7, Tryz.ntmps7
  go_wp2_with fail
  go_ret
  exact ⟨rfl, below1 _ _⟩
theorem aw2 {N : Nat} (h : N < 4611686018427387904) : wrap64 (2 * (N : Int)) = ((2 * N : Nat) : Int) ∧ IntKind.i64.wrap (2 * (N : Int)) = ((2 * N : Nat) : Int) := by
  refine ⟨?_, ?_⟩
  · simp only [wrap64]; omega
  · simp [IntKind.wrap, IntKind.signed, IntKind.bits]; omega
theorem aw2n {N : Nat} (h : ¬ N < 4611686018427387904) (h2 : N ≤ maxLen) : wrap64 (2 * (N : Int)) = 2 * (N : Int) - 18446744073709551616 ∧ IntKind.i64.wrap (2 * (N : Int)) = 2 * (N : Int) - 18446744073709551616 := by
  unfold maxLen at h2
  refine ⟨?_, ?_⟩
  · simp only [wrap64]; omega
  · simp [IntKind.wrap, IntKind.signed, IntKind.bits]; omega
theorem aw3 {k N : Nat} : (k : Int).tmod (N : Int) = ((k % N : Nat) : Int) := (Int.ofNat_tmod k N).symm
theorem aw4 {k N : Nat} (h : N < 4611686018427387904) (hk : k < 2 * N) : wrap64 (((k % N : Nat) : Int)) = ((k % N : Nat) : Int) ∧ IntKind.i64.wrap ((k % N : Nat) : Int) = ((k % N : Nat) : Int) ∧ k % N < N ∧ wrap64 ((k : Int) + 1) = ((k + 1 : Nat) : Int) := by
  have h1 : k % N < N := Nat.mod_lt _ (by omega)
  refine ⟨?_, ?_, h1, ?_⟩
  · simp only [wrap64]; omega
  · simp [IntKind.wrap, IntKind.signed, IntKind.bits]; omega
  · simp only [wrap64]; omega
theorem hexfloatAll_l {P : Option Addr} {N C : Nat} {its : List Op10} {w : World} (h : Scr10 w P N C its) (hw : Wd w) (hN9 : N < 4611686018427387904) :
    Calls Tryz.prog 4 #[.slice P N C] w fun en w' => en = .returned (.bool true) ∧ Below w.heap.size w w' := by
  have H : Hid (Scr10 w P N C its ∧ Wd w) := ⟨h, hw⟩
  have HLN : Hid (its.length = N ∧ N < 4611686018427387904) := ⟨h.len, hN9⟩
  clear h hw hN9
  go_enter Tryz.func4, Tryz.ntmps4
  go_wp2_with fail
  refine (awake10 H.out.2).mono ?_
  rintro en w1 ⟨rfl, hb1⟩
  have HB1 := hm9 hb1
  clear hb1
  obtain ⟨M, hM⟩ : ∃ M, M = 2 * N := ⟨_, rfl⟩
  have a2 := (aw2 HLN.out.2).1
  have a2' := (aw2 HLN.out.2).2
  rw [← hM] at a2 a2'
  have HM := hm9 hM
  clear hM
  go_wp2_with fail
  go_loopg [3] M (fun gk iv wr => ∃ k : Nat, k + gk = M ∧ iv = .int .i64 k ∧ Below w.heap.size w wr)
  case atStart => exact ⟨0, by omega, rfl, HB1.out⟩
  case round =>
    obtain ⟨k, hkg, rfl, hbw⟩ := hrel
    clear HB1
    cases gk with
    | zero =>
      obtain rfl : k = M := by omega
      have hnk : ¬ (k : Int) < (k : Int) := by omega
      have hnd : decide ((k : Int) < (k : Int)) = false := decide_eq_false hnk
      go_wp2_with fail
      go_ret
      exact ⟨rfl, hbw⟩
    | succ gg =>
      have hk2 : k < 2 * N := by have := HM.out; omega
      obtain ⟨a4, a4', hjN, a5⟩ := aw4 HLN.out.2 hk2
      obtain ⟨j, hj⟩ : ∃ j, j = k % N := ⟨_, rfl⟩
      have hmod : (k : Int).tmod (N : Int) = (j : Int) := by rw [hj]; exact aw3
      rw [← hj] at a4 a4' hjN
      have hkk : (k : Int) < (M : Int) := by omega
      have hN0 : ¬ (N : Int) = 0 := by omega
      have hN0' : ((N : Int) == 0) = false := by simp; omega
      have HR := H.out.1.below hbw
      have hki : j < its.length := by rw [HLN.out.1]; exact hjN
      obtain ⟨g, off, rfl, hc⟩ := HR.cells.resolve_left (by omega)
      obtain ⟨e0, e1, e2, e3⟩ := hc j hki
      have hbb := HR.bd its[j] (List.getElem_mem hki)
      have hjn : (j : Int) < (N : Int) := by omega
      have hj0 : (0 : Int) ≤ (j : Int) := Int.natCast_nonneg j
      have hlt : g < wr.heap.size := World.block_lt_of_cell? wr _ e0
      have HTB : Hid (Wd wr) := H.out.2.below hbw
      clear hc HR hj
      generalize its[j].k = kd at *
      generalize its[j].f = ff at *
      generalize its[j].st = st at *
      generalize its[j].b = b at *
      have HBB := hm9 hbb
      clear hbb
      go_wp2_with fail
      refine (plays10_all kd ff st HBB.out HTB.out).mono ?_
      rintro e wz ⟨rfl, hbz⟩
      have hbw2 := Below.on hbw hbz
      clear hbw hbz e0 e1 e2 e3 HTB
      go_wp2_with fail
      go_roundg gg
      case measure => omega
      case rel => exact ⟨k + 1, by omega, by first | rfl | go_num, hbw2⟩
theorem hexfloatAll_g {P : Option Addr} {N C : Nat} {w : World} (hw : Wd w) (hN : N ≤ maxLen) (hN9 : ¬ N < 4611686018427387904) :
    Calls Tryz.prog 4 #[.slice P N C] w fun en w' => en = .returned (.bool true) ∧ Below w.heap.size w w' := by
  have H := hm9 hw
  obtain ⟨a2, a2'⟩ := aw2n hN9 hN
  have HN9 : Hid (N ≤ maxLen ∧ ¬ N < 4611686018427387904) := ⟨hN, hN9⟩
  clear hw hN hN9
  go_enter Tryz.func4, Tryz.ntmps4
  go_wp2_with fail
  refine (awake10 H.out).mono ?_
  rintro en w1 ⟨rfl, hb1⟩
  have HB1 := hm9 hb1
  clear hb1
  obtain ⟨M, hM⟩ : ∃ M, M = 2 * (N : Int) - 18446744073709551616 := ⟨_, rfl⟩
  rw [← hM] at a2 a2'
  have HM := hm9 hM
  have hneg : ¬ (0 : Int) < M := by have h1 := HN9.out.1; unfold maxLen at h1; omega
  have hnd : decide ((0 : Int) < M) = false := decide_eq_false hneg
  clear hM
  go_wp2_with fail
  go_loopg [3] 0 (fun gk iv wr => gk = 0 ∧ iv = .int .i64 0 ∧ Below w.heap.size w wr)
  case atStart => exact ⟨rfl, rfl, HB1.out⟩
  case round =>
    obtain ⟨rfl, rfl, hbw⟩ := hrel
    clear HB1
    go_wp2_with fail
    go_ret
    exact ⟨rfl, hbw⟩
theorem hexfloatAll_w {P : Option Addr} {N C : Nat} {its : List Op10} {w : World} (h : Scr10 w P N C its) (hw : Wd w) :
    Calls Tryz.prog 4 #[.slice P N C] w fun en w' => en = .returned (.bool true) ∧ Below w.heap.size w w' := by
  by_cases h9 : N < 4611686018427387904
  · exact hexfloatAll_l h hw h9
  · exact hexfloatAll_g hw (Nat.le_trans h.cap h.big) h9
end Go.Proofs.YtglkjbkpgfencaaGreatDoor
namespace Go.Proofs.YtglkjbkpgfencaaGreatDoor
open Go.ChangeShapes Go.WideShapes Go.ChangeAt Go.RowKit Go.Deep
set_option maxRecDepth 20000
set_option maxHeartbeats 0
theorem open_fld_str {H : Type} {enc : TypeId × Value → H} {W : World} {v : Value} {n : Nat} {y : DataW H × List MemPlace} {t : TypeId} (ht : Tryz.prog.underlying t = some .string)
    (hf : DataW.trod enc Tryz.prog W 0 (fun _ => true) true n t [v] = some y) : ∃ s, v = .string s := by
  obtain ⟨s, hc, _⟩ := DataW.trod_string ht hf
  simp at hc
  exact ⟨s, hc⟩
theorem cellsOfOp : Tryz.prog.cellsOf 27 = 4 := by kernel_rfl
theorem oneCellOp {fs : Array Field} (h : Tryz.prog.underlying 27 = some (.struct fs)) : oneCellFields Tryz.prog fs = true := by
  have : (match Tryz.prog.underlying 27 with | some (.struct fs) => oneCellFields Tryz.prog fs | _ => false) = true := by kernel_rfl
  rw [h] at this
  exact this

theorem open_script10 {H : Type} {enc : TypeId × Value → H} {W : World} {a : Option Addr} {len cap : Nat} {d : DataW H} {ps : List MemPlace}
    (h : DataW.Trod enc Tryz.prog W 0 (fun _ => true) true 29 (.slice a len cap) d ps) :
    ∃ its, Scr10 W a len cap its := by
  obtain ⟨fuel, hf⟩ := h
  rcases DataW.trod_slice Tryz.underlying29 hf with ⟨hcs, _⟩ | ⟨x, l, c, elems, rest, n, _, hcs, hx, hb, hl, hm, hlen, hel, _, _⟩
  · simp [Value.cells] at hcs
    obtain ⟨rfl, rfl, rfl⟩ := hcs
    exact ⟨[], rfl, Nat.le_refl _, by decide, fun t h => by simp at h, .inl rfl⟩
  · simp [Value.cells] at hcs
    obtain ⟨rfl, rfl, rfl⟩ := hcs
    simp only [Prod.mk.injEq] at hx
    obtain ⟨rfl, _⟩ := hx
    obtain ⟨b, off, spot⟩ := x
    have each : ∀ i, i < len → ∃ t : Op10, (W.cell? ((⟨b, off, spot⟩ : Addr).add (i * 4 + 0)) = some (.int .i64 t.k) ∧ W.cell? ((⟨b, off, spot⟩ : Addr).add (i * 4 + 1)) = some (.int .i64 t.f) ∧
        W.cell? ((⟨b, off, spot⟩ : Addr).add (i * 4 + 2)) = some (.string t.st) ∧ W.cell? ((⟨b, off, spot⟩ : Addr).add (i * 4 + 3)) = some (U t.b)) ∧ t.b < B64 := by
      intro i hi
      have h1 := hel i hi
      have hie : i < elems.length := by omega
      rw [List.getElem?_eq_getElem hie, Option.bind_eq_some_iff] at h1
      obtain ⟨cs', h2, h3⟩ := h1
      rw [cellsOfOp] at h2
      obtain ⟨_, hlen5, hcell⟩ := World.cells?_some h2
      obtain ⟨ys, k, _, hxy, _, hxl, hg⟩ := DataW.trod_struct Tryz.underlying27 h3
      have hone := oneCellOp Tryz.underlying27
      match ys, hxl, cs', hlen5 with
      | [y0, y1, y2, y3], _, [v0, v1, v2, v3], _ =>
        have g0 := hg 0 _ rfl
        have g1 := hg 1 _ rfl
        have g2 := hg 2 _ rfl
        have g3 := hg 3 _ rfl
        rw [(hone_of hone 0 _ rfl).1, (hone_of hone 0 _ rfl).2] at g0
        rw [(hone_of hone 1 _ rfl).1, (hone_of hone 1 _ rfl).2] at g1
        rw [(hone_of hone 2 _ rfl).1, (hone_of hone 2 _ rfl).2] at g2
        rw [(hone_of hone 3 _ rfl).1, (hone_of hone 3 _ rfl).2] at g3
        have k0 : DataW.trod enc Tryz.prog W 0 (fun _ => true) true k 3 [v0] = some y0 := g0
        have k1 : DataW.trod enc Tryz.prog W 0 (fun _ => true) true k 22 [v1] = some y1 := g1
        have k2 : DataW.trod enc Tryz.prog W 0 (fun _ => true) true k 9 [v2] = some y2 := g2
        have k3 : DataW.trod enc Tryz.prog W 0 (fun _ => true) true k 25 [v3] = some y3 := g3
        clear g0 g1 g2 g3
        obtain ⟨z0, rfl, _⟩ := open_fld_int Tryz.underlying3 k0
        obtain ⟨z1, rfl, _⟩ := open_fld_int Tryz.underlying22 k1
        obtain ⟨z2, rfl⟩ := open_fld_str Tryz.underlying9 k2
        obtain ⟨z3, rfl, w3⟩ := open_fld_int Tryz.underlying25 k3
        have b3 := wf_u64 w3
        obtain ⟨n3, rfl⟩ := Int.eq_ofNat_of_zero_le b3.1
        have e0 := hcell 0 (by omega)
        have e1 := hcell 1 (by omega)
        have e2 := hcell 2 (by omega)
        have e3 := hcell 3 (by omega)
        rw [add_add] at e0 e1 e2 e3
        exact ⟨⟨z0, z1, z2, n3⟩, ⟨e0, e1, e2, e3⟩, by show n3 < B64; unfold B64; omega⟩
    have inh : Inhabited Op10 := ⟨⟨0, 0, ⟨#[]⟩, 0⟩⟩
    obtain ⟨q, hq⟩ := choose_lt each
    refine ⟨(List.range len).map q, by simp, hl, hm, ?_, ?_⟩
    · intro t ht
      obtain ⟨i, hi, rfl⟩ := List.mem_map.1 ht
      exact (hq i (List.mem_range.1 hi)).2
    · by_cases h0 : len = 0
      · exact .inl h0
      · have hs := (hq 0 (by omega)).1.1
        have hspot : spot = none := by simpa [Addr.add] using World.cell?_spot hs
        subst hspot
        have hadd : ∀ q : Nat, (⟨b, off, none⟩ : Addr).add q = ⟨b, off + q, none⟩ := by intro q; unfold Addr.add; split <;> simp_all
        refine .inr ⟨b, off, rfl, fun i hi => ?_⟩
        have hi' : i < len := by simpa using hi
        have h5 := (hq i hi').1
        simp only [hadd] at h5
        simpa [Nat.add_assoc] using h5
end Go.Proofs.YtglkjbkpgfencaaGreatDoor
