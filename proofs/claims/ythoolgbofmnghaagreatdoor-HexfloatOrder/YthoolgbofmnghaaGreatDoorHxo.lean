import Derived.WalkSmall
import Derived.Laws.Concat
import Derived.Test.YthoolgbofmnghaaGreatDoorJ14
namespace Go.Proofs.YthoolgbofmnghaaGreatDoor
open Go.RowKit Go.Shelf
set_option maxRecDepth 20000
set_option maxHeartbeats 0
theorem dv_cong2 {x y : Int} {a b : Int} (k : Nat) (ha : -4194304 ≤ a) (hab : b = a + k) (h : x = y * ((2 ^ k : Nat) : Int)) : dv x a = dv y b := by
  rw [hab, dv_up k ha, h]
theorem point_ok {f p m le : Int} {S I H sd Q : Nat} {Be : Int} (h : Hf f p m le S I H sd Be Q) {a b E F G U : List UInt8} {e : Int} (ha : ∀ c ∈ a, hexd c = true) (hb : ∀ c ∈ b, hexd c = true) (hab : a ++ b ≠ []) (hl : a.length + b.length ≤ 3970) (he : -32768 ≤ e ∧ e ≤ 32767)
    (hE : ExT E e) (hEl : E.length ≤ 7) (hF : ExT F (e - 4 * ((b.length : Nat) : Int))) (hFl : F.length ≤ 7) (hG : ExT G (e - 4 * ((b.length : Nat) : Int) - 8)) (hGl : G.length ≤ 7) (hU : U = (a ++ b).map upc) :
    ∃ X, parseF le sd Be S I Q (48 :: 120 :: (a ++ 46 :: (b ++ 112 :: E))) = (X, 0) ∧ parseF le sd Be S I Q (43 :: 48 :: 88 :: 48 :: 48 :: (a ++ (b ++ 46 :: 48 :: 48 :: 48 :: 80 :: F))) = (X, 0) ∧ parseF le sd Be S I Q (48 :: 120 :: (U ++ 48 :: 48 :: 112 :: G)) = (X, 0) := by
  have hc : ∀ c ∈ a ++ b, hexd c = true := fun c hc => by rw [List.mem_append] at hc; exact hc.elim (ha c) (hb c)
  obtain ⟨V, hV⟩ : ∃ V, V = hexF 0 (a ++ b) := ⟨_, rfl⟩
  obtain ⟨k, hk⟩ : ∃ k : Int, k = e - 4 * ((b.length : Nat) : Int) := ⟨_, rfl⟩
  rw [← hk] at hF hG
  have hkb : -50000 ≤ k ∧ k ≤ 50000 := ⟨by omega, by omega⟩
  have hUl : U.length = a.length + b.length := by rw [hU, List.length_map, List.length_append]
  refine ⟨rnp le sd Be S I (V : Int) k, ?_, ?_, ?_⟩
  · have hn := numF_point (x := 120) (p := 112) (.inl rfl) (.inl rfl) ha hb hab hE
    rw [parseF_of (neg := false) (r := 48 :: 120 :: (a ++ 46 :: (b ++ 112 :: E))) (by simp only [List.length_cons, List.length_append]; omega) (minus_0 _) hn, hexF_trim, ← hV, ← hk]; rfl
  · have hn := numF_point (x := 88) (p := 80) (A := 48 :: 48 :: (a ++ b)) (B := [48, 48, 48]) (.inr rfl) (.inr rfl) (fun c hc2 => by
      rcases List.mem_cons.1 hc2 with rfl | h2
      · decide
      rcases List.mem_cons.1 h2 with rfl | h3
      · decide
      exact hc c h3) (by decide) (by simp) hF
    have ht : 48 :: 88 :: ((48 :: 48 :: (a ++ b)) ++ 46 :: ([48, 48, 48] ++ 80 :: F)) = 48 :: 88 :: 48 :: 48 :: (a ++ (b ++ 46 :: 48 :: 48 :: 48 :: 80 :: F)) := by simp
    rw [ht] at hn
    rw [parseF_of (neg := false) (by simp only [List.length_cons, List.length_append]; omega) (minus_p _) hn, hexF_trim]
    have hv : hexF 0 ((48 :: 48 :: (a ++ b)) ++ [48, 48, 48]) = V * 4096 := by
      rw [hexF_app]
      show hexF (hexF (16 * (16 * 0 + hexv 48) + hexv 48) (a ++ b)) [48, 48, 48] = _
      rw [show 16 * (16 * 0 + hexv 48) + hexv 48 = 0 by decide, ← hV]
      show 16 * (16 * (16 * V + hexv 48) + hexv 48) + hexv 48 = _
      rw [show hexv 48 = 0 by decide]; omega
    rw [hv]
    refine congrArg (fun x => (x, (0 : Int))) (rnp_same h.j (by omega) (by omega) (by show (-4194304 : Int) ≤ k - 4 * ((3 : Nat) : Int); omega) (by omega) ?_)
    exact dv_cong2 12 (by show (-4194304 : Int) ≤ k - 4 * ((3 : Nat) : Int); omega) (by show k = k - 4 * ((3 : Nat) : Int) + 12; omega) (by rw [Int.natCast_mul])
  · have hn := numF_plain (x := 120) (p := 112) (A := U ++ [48, 48]) (.inl rfl) (.inl rfl) (fun c hc2 => by
      rw [List.mem_append] at hc2
      rcases hc2 with h2 | h2
      · rw [hU, List.mem_map] at h2
        obtain ⟨d, hd, rfl⟩ := h2
        exact (upc_hex (hc d hd)).1
      · exact (by decide : ∀ c ∈ ([48, 48] : List UInt8), hexd c = true) c h2) (by simp) hG
    have ht : 48 :: 120 :: ((U ++ [48, 48]) ++ 112 :: G) = 48 :: 120 :: (U ++ 48 :: 48 :: 112 :: G) := by simp
    rw [ht] at hn
    rw [parseF_of (neg := false) (by simp only [List.length_cons, List.length_append]; omega) (minus_0 _) hn, hexF_trim]
    have hv : hexF 0 (U ++ [48, 48]) = V * 256 := by
      rw [hexF_app, hU, hexF_up _ _ hc, ← hV]
      show 16 * (16 * V + hexv 48) + hexv 48 = _
      rw [show hexv 48 = 0 by decide]; omega
    rw [hv]
    refine congrArg (fun x => (x, (0 : Int))) (rnp_same h.j (by omega) (by omega) (by show (-4194304 : Int) ≤ k - 8 - 4 * ((0 : Nat) : Int); omega) (by omega) ?_)
    exact dv_cong2 8 (by show (-4194304 : Int) ≤ k - 8 - 4 * ((0 : Nat) : Int); omega) (by show k = k - 8 - 4 * ((0 : Nat) : Int) + 8; omega) (by rw [Int.natCast_mul])
theorem itoa7 {n : Int} (h0 : -90000 ≤ n) (h1 : n ≤ 90000) : (Lib.itoa n).length ≤ 7 := by
  have hu : ∀ u : Nat, u ≤ 90000 → Lib.nDigits u ≤ 6 := by
    intro u hu
    by_cases a1 : u < 10
    · rw [Lib.nDigits_small a1]; omega
    rw [Lib.nDigits_big a1]
    by_cases a2 : u / 10 < 10
    · rw [Lib.nDigits_small a2]; omega
    rw [Lib.nDigits_big a2]
    by_cases a3 : u / 10 / 10 < 10
    · rw [Lib.nDigits_small a3]; omega
    rw [Lib.nDigits_big a3]
    by_cases a4 : u / 10 / 10 / 10 < 10
    · rw [Lib.nDigits_small a4]; omega
    rw [Lib.nDigits_big a4, Lib.nDigits_small (by omega)]; omega
  unfold Lib.itoa
  split
  · rw [List.length_cons, Lib.decDigits_length]; have := hu n.natAbs (by omega); omega
  · rw [Lib.decDigits_length]; have := hu n.toNat (by omega); omega
theorem hexfloatPoint_x {f : Int} (h1 : f ≠ 32) (h2 : f ≠ 64) (a b : List UInt8) {e : Int} {w : World} (hw : Wd w) :
    Calls Tryz.prog 4 #[.int .i64 f, .string (bs a), .string (bs b), .int .i16 e] w fun en w' => en = .returned (.bool true) ∧ Below w.heap.size w w' := by
  have HF : Hid (f ≠ 32 ∧ f ≠ 64) := ⟨h1, h2⟩
  clear h1 h2
  have HW : Hid (Wd w) := hw
  clear hw
  go_enter Tryz.func4, Tryz.ntmps4
  go_wp2_with fail
  refine (awake10 HW.out).mono ?_
  rintro en w1 ⟨rfl, hb1⟩
  have HB : Hid (Below w.heap.size w w1) := hb1
  clear hb1
  go_wp2_with fail
  refine (formats_no HF.out.1 HF.out.2 _).mono ?_
  rintro en w2 ⟨rfl, rfl⟩
  go_wp2_with fail
  go_ret
  exact ⟨rfl, HB.out⟩
theorem hexfloatPoint_p {f : Int} (hf : f = 32 ∨ f = 64) {a b : List UInt8} (ha : a.all hexd = false) (hla : a.length ≤ 140737488351232) (hlb : b.length ≤ 140737488351232) {e : Int} {w : World} (hw : Wd w) :
    Calls Tryz.prog 4 #[.int .i64 f, .string (bs a), .string (bs b), .int .i16 e] w fun en w' => en = .returned (.bool true) ∧ Below w.heap.size w w' := by
  have HF : Hid (f = 32 ∨ f = 64) := hf
  have HL : Hid (a.length ≤ 140737488351232 ∧ b.length ≤ 140737488351232) := ⟨hla, hlb⟩
  have hsa : (bs a).size = a.length := bs_size a
  have hsb : (bs b).size = b.length := bs_size b
  clear hf hla hlb
  have HA : Hid (a.all hexd = false) := ha
  clear ha
  have HW : Hid (Wd w) := hw
  clear hw
  go_enter Tryz.func4, Tryz.ntmps4
  go_wp2_with fail
  refine (awake10 HW.out).mono ?_
  rintro en w1 ⟨rfl, hb1⟩
  have HB : Hid (Below w.heap.size w w1) := hb1
  clear hb1
  go_wp2_with fail
  refine (formats_yes HF.out _).mono ?_
  rintro en w2 ⟨rfl, rfl⟩
  go_wp2_with fail
  refine (hexes_c a (by have := HL.out; omega) _).mono ?_
  rintro en w3 ⟨rfl, rfl⟩
  rw [HA.out]
  go_wp2_with fail
  go_ret
  exact ⟨rfl, HB.out⟩
theorem hexfloatPoint_q {f : Int} (hf : f = 32 ∨ f = 64) {a b : List UInt8} (ha : a.all hexd = true) (hb : b.all hexd = false) (hla : a.length ≤ 140737488351232) (hlb : b.length ≤ 140737488351232) {e : Int} {w : World} (hw : Wd w) :
    Calls Tryz.prog 4 #[.int .i64 f, .string (bs a), .string (bs b), .int .i16 e] w fun en w' => en = .returned (.bool true) ∧ Below w.heap.size w w' := by
  have HF : Hid (f = 32 ∨ f = 64) := hf
  have HL : Hid (a.length ≤ 140737488351232 ∧ b.length ≤ 140737488351232) := ⟨hla, hlb⟩
  have hsa : (bs a).size = a.length := bs_size a
  have hsb : (bs b).size = b.length := bs_size b
  clear hf hla hlb
  have HA : Hid (a.all hexd = true) := ha
  have HBB : Hid (b.all hexd = false) := hb
  clear ha hb
  have HW : Hid (Wd w) := hw
  clear hw
  go_enter Tryz.func4, Tryz.ntmps4
  go_wp2_with fail
  refine (awake10 HW.out).mono ?_
  rintro en w1 ⟨rfl, hb1⟩
  have HB : Hid (Below w.heap.size w w1) := hb1
  clear hb1
  go_wp2_with fail
  refine (formats_yes HF.out _).mono ?_
  rintro en w2 ⟨rfl, rfl⟩
  go_wp2_with fail
  refine (hexes_c a (by have := HL.out; omega) _).mono ?_
  rintro en w3 ⟨rfl, rfl⟩
  rw [HA.out]
  go_wp2_with fail
  refine (hexes_c b (by have := HL.out; omega) _).mono ?_
  rintro en w4 ⟨rfl, rfl⟩
  rw [HBB.out]
  go_wp2_with fail
  go_ret
  exact ⟨rfl, HB.out⟩
theorem hexfloatPoint_n {f : Int} (hf : f = 32 ∨ f = 64) {a b : List UInt8} (ha : a.all hexd = true) (hb : b.all hexd = true) (ha0 : a = []) (hb0 : b = []) (hla : a.length ≤ 140737488351232) (hlb : b.length ≤ 140737488351232) {e : Int} {w : World} (hw : Wd w) :
    Calls Tryz.prog 4 #[.int .i64 f, .string (bs a), .string (bs b), .int .i16 e] w fun en w' => en = .returned (.bool true) ∧ Below w.heap.size w w' := by
  have HF : Hid (f = 32 ∨ f = 64) := hf
  have HL : Hid (a.length ≤ 140737488351232 ∧ b.length ≤ 140737488351232) := ⟨hla, hlb⟩
  have hsa : (bs a).size = a.length := bs_size a
  have hsb : (bs b).size = b.length := bs_size b
  clear hf hla hlb
  have HA : Hid (a.all hexd = true) := ha
  have HBB : Hid (b.all hexd = true) := hb
  have hea : (bs a).toList.isEmpty = true := by rw [ha0]; exact emp0
  have heb : (bs b).toList.isEmpty = true := by rw [hb0]; exact emp0
  clear ha hb ha0 hb0
  have HW : Hid (Wd w) := hw
  clear hw
  go_enter Tryz.func4, Tryz.ntmps4
  go_wp2_with fail
  refine (awake10 HW.out).mono ?_
  rintro en w1 ⟨rfl, hb1⟩
  have HB : Hid (Below w.heap.size w w1) := hb1
  clear hb1
  go_wp2_with fail
  refine (formats_yes HF.out _).mono ?_
  rintro en w2 ⟨rfl, rfl⟩
  go_wp2_with fail
  refine (hexes_c a (by have := HL.out; omega) _).mono ?_
  rintro en w3 ⟨rfl, rfl⟩
  rw [HA.out]
  go_wp2_with fail
  refine (hexes_c b (by have := HL.out; omega) _).mono ?_
  rintro en w4 ⟨rfl, rfl⟩
  rw [HBB.out]
  go_wp2_with fail
  go_ret
  exact ⟨rfl, HB.out⟩
theorem hexfloatPoint_g0 {f : Int} (hf : f = 32 ∨ f = 64) {a b : List UInt8} (ha : a.all hexd = true) (hb : b.all hexd = true) (ha0 : a ≠ []) (hlg : 3970 < a.length + b.length) (hla : a.length ≤ 140737488351232) (hlb : b.length ≤ 140737488351232) {e : Int} {w : World} (hw : Wd w) :
    Calls Tryz.prog 4 #[.int .i64 f, .string (bs a), .string (bs b), .int .i16 e] w fun en w' => en = .returned (.bool true) ∧ Below w.heap.size w w' := by
  have hwl : wrap64 ((a.length : Int) + (b.length : Int)) = (a.length : Int) + (b.length : Int) := by simp only [wrap64]; omega
  have hlen : (3970 : Int) < (a.length : Int) + (b.length : Int) := by omega
  have HF : Hid (f = 32 ∨ f = 64) := hf
  have HL : Hid (a.length ≤ 140737488351232 ∧ b.length ≤ 140737488351232) := ⟨hla, hlb⟩
  have hsa : (bs a).size = a.length := bs_size a
  have hsb : (bs b).size = b.length := bs_size b
  clear hf hla hlb
  have HA : Hid (a.all hexd = true) := ha
  have HBB : Hid (b.all hexd = true) := hb
  have hea : (bs a).toList.isEmpty = false := emp1 ha0
  clear ha0
  clear ha hb hlg
  have HW : Hid (Wd w) := hw
  clear hw
  go_enter Tryz.func4, Tryz.ntmps4
  go_wp2_with fail
  refine (awake10 HW.out).mono ?_
  rintro en w1 ⟨rfl, hb1⟩
  have HB : Hid (Below w.heap.size w w1) := hb1
  clear hb1
  go_wp2_with fail
  refine (formats_yes HF.out _).mono ?_
  rintro en w2 ⟨rfl, rfl⟩
  go_wp2_with fail
  refine (hexes_c a (by have := HL.out; omega) _).mono ?_
  rintro en w3 ⟨rfl, rfl⟩
  rw [HA.out]
  go_wp2_with fail
  refine (hexes_c b (by have := HL.out; omega) _).mono ?_
  rintro en w4 ⟨rfl, rfl⟩
  rw [HBB.out]
  go_wp2_with fail
  go_ret
  exact ⟨rfl, HB.out⟩
theorem hexfloatPoint_g1 {f : Int} (hf : f = 32 ∨ f = 64) {a b : List UInt8} (ha : a.all hexd = true) (hb : b.all hexd = true) (ha0 : a = []) (hb0 : b ≠ []) (hlg : 3970 < a.length + b.length) (hla : a.length ≤ 140737488351232) (hlb : b.length ≤ 140737488351232) {e : Int} {w : World} (hw : Wd w) :
    Calls Tryz.prog 4 #[.int .i64 f, .string (bs a), .string (bs b), .int .i16 e] w fun en w' => en = .returned (.bool true) ∧ Below w.heap.size w w' := by
  have hwl : wrap64 ((a.length : Int) + (b.length : Int)) = (a.length : Int) + (b.length : Int) := by simp only [wrap64]; omega
  have hlen : (3970 : Int) < (a.length : Int) + (b.length : Int) := by omega
  have HF : Hid (f = 32 ∨ f = 64) := hf
  have HL : Hid (a.length ≤ 140737488351232 ∧ b.length ≤ 140737488351232) := ⟨hla, hlb⟩
  have hsa : (bs a).size = a.length := bs_size a
  have hsb : (bs b).size = b.length := bs_size b
  clear hf hla hlb
  have HA : Hid (a.all hexd = true) := ha
  have HBB : Hid (b.all hexd = true) := hb
  have hea : (bs a).toList.isEmpty = true := by rw [ha0]; exact emp0
  have heb : (bs b).toList.isEmpty = false := emp1 hb0
  clear ha0 hb0
  clear ha hb hlg
  have HW : Hid (Wd w) := hw
  clear hw
  go_enter Tryz.func4, Tryz.ntmps4
  go_wp2_with fail
  refine (awake10 HW.out).mono ?_
  rintro en w1 ⟨rfl, hb1⟩
  have HB : Hid (Below w.heap.size w w1) := hb1
  clear hb1
  go_wp2_with fail
  refine (formats_yes HF.out _).mono ?_
  rintro en w2 ⟨rfl, rfl⟩
  go_wp2_with fail
  refine (hexes_c a (by have := HL.out; omega) _).mono ?_
  rintro en w3 ⟨rfl, rfl⟩
  rw [HA.out]
  go_wp2_with fail
  refine (hexes_c b (by have := HL.out; omega) _).mono ?_
  rintro en w4 ⟨rfl, rfl⟩
  rw [HBB.out]
  go_wp2_with fail
  go_ret
  exact ⟨rfl, HB.out⟩
theorem hexfloatPoint_m0 {f p m le : Int} {S I H sd Q : Nat} {Be : Int} (h : Hf f p m le S I H sd Be Q) (hf : f = 32 ∨ f = 64) {a b : List UInt8} (ha : a.all hexd = true) (hb : b.all hexd = true) (ha0 : a ≠ []) (hlg : a.length + b.length ≤ 3970) {e : Int} (he : -32768 ≤ e ∧ e ≤ 32767) {w : World} (hw : Wd w) :
    Calls Tryz.prog 4 #[.int .i64 f, .string (bs a), .string (bs b), .int .i16 e] w fun en w' => en = .returned (.bool true) ∧ Below w.heap.size w w' := by
  have HW : Hid (Wd w) := hw
  have HF : Hid (f = 32 ∨ f = 64) := hf
  have HH : Hid (Hf f p m le S I H sd Be Q) := h
  have HL : Hid (a.length + b.length ≤ 3970 ∧ a.length ≤ 140737488351232 ∧ b.length ≤ 140737488351232) := ⟨hlg, by omega, by omega⟩
  have HE : Hid (-32768 ≤ e ∧ e ≤ 32767) := he
  have hwl : wrap64 ((a.length : Int) + (b.length : Int)) = (a.length : Int) + (b.length : Int) := by simp only [wrap64]; omega
  have hwe : wrap64 e = e := by simp only [wrap64]; omega
  have hlen : ¬ (3970 : Int) < (a.length : Int) + (b.length : Int) := by omega
  have hsa : (bs a).size = a.length := bs_size a
  have hsb : (bs b).size = b.length := bs_size b
  have HA : Hid (a.all hexd = true) := ha
  have HBB : Hid (b.all hexd = true) := hb
  have hea : (bs a).toList.isEmpty = false := emp1 ha0
  have HAB : Hid (a ++ b ≠ []) := by intro hn; exact ha0 (List.append_eq_nil_iff.1 hn).1
  clear ha0
  clear ha hb hlg he h hf hw
  go_enter Tryz.func4, Tryz.ntmps4
  go_wp2_with fail
  refine (awake10 HW.out).mono ?_
  rintro en w1 ⟨rfl, hb1⟩
  have HB : Hid (Below w.heap.size w w1) := hb1
  clear hb1
  go_wp2_with fail
  refine (formats_yes HF.out _).mono ?_
  rintro en w2 ⟨rfl, rfl⟩
  go_wp2_with fail
  refine (hexes_c a (by have := HL.out; omega) _).mono ?_
  rintro en w3 ⟨rfl, rfl⟩
  rw [HA.out]
  go_wp2_with fail
  refine (hexes_c b (by have := HL.out; omega) _).mono ?_
  rintro en w4 ⟨rfl, rfl⟩
  rw [HBB.out]
  have hc1 : ∀ W, (Op.stringOp .add ⟨#[48, 120]⟩ (bs a)).run Tryz.prog W = .ok (.string (bs ([48, 120] ++ a))) W := fun W => cat_run [48, 120] a W (by have h1 : [(48 : UInt8), 120].length = 2 := rfl; have := HL.out; omega)
  have hb1 : ¬ ((⟨#[48, 120]⟩ : ByteArray).size + ((bs a) : ByteArray).size > 9223372036854775807) := by show ¬ ((bs [48, 120]).size + (bs a).size > _); rw [bs_size, bs_size]; have h1 : [(48 : UInt8), 120].length = 2 := rfl; have := HL.out; omega
  have hc2 : ∀ W, (Op.stringOp .add (bs (48 :: 120 :: a)) ⟨#[46]⟩).run Tryz.prog W = .ok (.string (bs ((48 :: 120 :: a) ++ [46]))) W := fun W => cat_run (48 :: 120 :: a) [46] W (by have := HL.out; simp only [List.length_cons, List.length_nil]; omega)
  have hb2 : ¬ (((bs (48 :: 120 :: a)) : ByteArray).size + (⟨#[46]⟩ : ByteArray).size > 9223372036854775807) := by show ¬ ((bs (48 :: 120 :: a)).size + (bs [46]).size > _); rw [bs_size, bs_size]; have := HL.out; simp only [List.length_cons, List.length_nil]; omega
  have hc3 : ∀ W, (Op.stringOp .add (bs (48 :: 120 :: (a ++ [46]))) (bs b)).run Tryz.prog W = .ok (.string (bs ((48 :: 120 :: (a ++ [46])) ++ b))) W := fun W => cat_run (48 :: 120 :: (a ++ [46])) b W (by have := HL.out; simp only [List.length_cons, List.length_append, List.length_nil]; omega)
  have hb3 : ¬ (((bs (48 :: 120 :: (a ++ [46]))) : ByteArray).size + ((bs b) : ByteArray).size > 9223372036854775807) := by show ¬ ((bs (48 :: 120 :: (a ++ [46]))).size + (bs b).size > _); rw [bs_size, bs_size]; have := HL.out; simp only [List.length_cons, List.length_append, List.length_nil]; omega
  have hc4 : ∀ W, (Op.stringOp .add (bs (48 :: 120 :: (a ++ 46 :: b))) ⟨#[112]⟩).run Tryz.prog W = .ok (.string (bs ((48 :: 120 :: (a ++ 46 :: b)) ++ [112]))) W := fun W => cat_run (48 :: 120 :: (a ++ 46 :: b)) [112] W (by have := HL.out; simp only [List.length_cons, List.length_append, List.length_nil]; omega)
  have hb4 : ¬ (((bs (48 :: 120 :: (a ++ 46 :: b))) : ByteArray).size + (⟨#[112]⟩ : ByteArray).size > 9223372036854775807) := by show ¬ ((bs (48 :: 120 :: (a ++ 46 :: b))).size + (bs [112]).size > _); rw [bs_size, bs_size]; have := HL.out; simp only [List.length_cons, List.length_append, List.length_nil]; omega
  go_wp2_with fail
  obtain ⟨E, hE⟩ : ∃ E, E = Lib.itoa e := ⟨_, rfl⟩
  obtain ⟨F, hF⟩ : ∃ F, F = Lib.itoa (e - 4 * (b.length : Int)) := ⟨_, rfl⟩
  obtain ⟨G, hG⟩ : ∃ G, G = Lib.itoa (e - 4 * (b.length : Int) - 8) := ⟨_, rfl⟩
  obtain ⟨U, hU⟩ : ∃ U, U = (a ++ b).map upc := ⟨_, rfl⟩
  have hk : -90000 ≤ e - 4 * (b.length : Int) - 8 ∧ e ≤ 32767 ∧ -32768 ≤ e ∧ 0 ≤ (b.length : Int) := by have h1 := HL.out; have h2 := HE.out; omega
  have HQ := hm9 (point_ok (Q := Q) HH.out (List.all_eq_true.1 HA.out) (List.all_eq_true.1 HBB.out) HAB.out HL.out.1 HE.out (hE ▸ (exp_itoa (by omega) (by omega)).1) (by rw [hE]; exact itoa7 (by omega) (by omega)) (hF ▸ (exp_itoa (by omega) (by omega)).1) (by rw [hF]; exact itoa7 (by omega) (by omega)) (hG ▸ (exp_itoa (by omega) (by omega)).1) (by rw [hG]; exact itoa7 (by omega) (by omega)) hU)
  obtain ⟨X, hp1, hp2, hp3⟩ := HQ
  have P1 := hm9 hp1
  have P2 := hm9 hp2
  have P3 := hm9 hp3
  have HEL : Hid (E = Lib.itoa e ∧ E.length ≤ 7) := ⟨hE, by rw [hE]; exact itoa7 (by omega) (by omega)⟩
  have HFL : Hid (F = Lib.itoa (e - 4 * (b.length : Int)) ∧ F.length ≤ 7) := ⟨hF, by rw [hF]; exact itoa7 (by omega) (by omega)⟩
  have HGL : Hid (G = Lib.itoa (e - 4 * (b.length : Int) - 8) ∧ G.length ≤ 7) := ⟨hG, by rw [hG]; exact itoa7 (by omega) (by omega)⟩
  have HUU : Hid (U = (a ++ b).map upc ∧ U.length = a.length + b.length) := ⟨hU, by rw [hU, List.length_map, List.length_append]⟩
  have HK := hm9 hk
  clear hp1 hp2 hp3 hE hF hG hU hk
  refine (itoa_c e (by have := HE.out; omega) (by have := HE.out; omega) _ (HW.out.below HB.out).p).mono ?_
  rintro en w5 ⟨rfl, hb⟩
  rw [← HEL.out.1]
  have HB5 : Hid (Below w.heap.size w w5) := Below.on HB.out hb
  clear hb hb1 hb2 hb3 hb4
  have hc5 : ∀ W, (Op.stringOp .add (bs (48 :: 120 :: (a ++ 46 :: (b ++ [112])))) (bs E)).run Tryz.prog W = .ok (.string (bs ((48 :: 120 :: (a ++ 46 :: (b ++ [112]))) ++ E))) W := fun W => cat_run (48 :: 120 :: (a ++ 46 :: (b ++ [112]))) E W (by have := HL.out; have := HEL.out; have := HFL.out; have := HGL.out; have := HUU.out; simp only [List.length_cons, List.length_append, List.length_nil]; omega)
  have hb5 : ¬ (((bs (48 :: 120 :: (a ++ 46 :: (b ++ [112])))) : ByteArray).size + ((bs E) : ByteArray).size > 9223372036854775807) := by show ¬ ((bs (48 :: 120 :: (a ++ 46 :: (b ++ [112])))).size + (bs E).size > _); rw [bs_size, bs_size]; have := HL.out; have := HEL.out; have := HFL.out; have := HGL.out; have := HUU.out; simp only [List.length_cons, List.length_append, List.length_nil]; omega
  go_wp2_with fail
  refine (HH.out.parse _ (HW.out.below HB5.out) P1.out).mono ?_
  rintro en w6 ⟨rfl, hb⟩
  have HB6 : Hid (Below w.heap.size w w6) := Below.on HB5.out hb
  clear hb hb5
  have hw4 : wrap64 (4 * (b.length : Int)) = 4 * (b.length : Int) := by have := HL.out; simp only [wrap64]; omega
  have hwk : wrap64 (e - 4 * (b.length : Int)) = e - 4 * (b.length : Int) := by have := HL.out; have := HE.out; simp only [wrap64]; omega
  have hwj : wrap64 (e - 4 * (b.length : Int) - 8) = e - 4 * (b.length : Int) - 8 := by have := HL.out; have := HE.out; simp only [wrap64]; omega
  have hc1 : ∀ W, (Op.stringOp .add ⟨#[43, 48, 88, 48, 48]⟩ (bs a)).run Tryz.prog W = .ok (.string (bs ([43, 48, 88, 48, 48] ++ a))) W := fun W => cat_run [43, 48, 88, 48, 48] a W (by have h1 : [(43 : UInt8), 48, 88, 48, 48].length = 5 := rfl; have := HL.out; omega)
  have hb1 : ¬ ((⟨#[43, 48, 88, 48, 48]⟩ : ByteArray).size + ((bs a) : ByteArray).size > 9223372036854775807) := by show ¬ ((bs [43, 48, 88, 48, 48]).size + (bs a).size > _); rw [bs_size, bs_size]; have h1 : [(43 : UInt8), 48, 88, 48, 48].length = 5 := rfl; have := HL.out; omega
  have hc2 : ∀ W, (Op.stringOp .add (bs (43 :: 48 :: 88 :: 48 :: 48 :: a)) (bs b)).run Tryz.prog W = .ok (.string (bs ((43 :: 48 :: 88 :: 48 :: 48 :: a) ++ b))) W := fun W => cat_run (43 :: 48 :: 88 :: 48 :: 48 :: a) b W (by have := HL.out; simp only [List.length_cons]; omega)
  have hb2 : ¬ (((bs (43 :: 48 :: 88 :: 48 :: 48 :: a)) : ByteArray).size + ((bs b) : ByteArray).size > 9223372036854775807) := by show ¬ ((bs (43 :: 48 :: 88 :: 48 :: 48 :: a)).size + (bs b).size > _); rw [bs_size, bs_size]; have := HL.out; simp only [List.length_cons]; omega
  have hc3 : ∀ W, (Op.stringOp .add (bs (43 :: 48 :: 88 :: 48 :: 48 :: (a ++ b))) ⟨#[46, 48, 48, 48, 80]⟩).run Tryz.prog W = .ok (.string (bs ((43 :: 48 :: 88 :: 48 :: 48 :: (a ++ b)) ++ [46, 48, 48, 48, 80]))) W := fun W => cat_run (43 :: 48 :: 88 :: 48 :: 48 :: (a ++ b)) [46, 48, 48, 48, 80] W (by have := HL.out; simp only [List.length_cons, List.length_append, List.length_nil]; omega)
  have hb3 : ¬ (((bs (43 :: 48 :: 88 :: 48 :: 48 :: (a ++ b))) : ByteArray).size + (⟨#[46, 48, 48, 48, 80]⟩ : ByteArray).size > 9223372036854775807) := by show ¬ ((bs (43 :: 48 :: 88 :: 48 :: 48 :: (a ++ b))).size + (bs [46, 48, 48, 48, 80]).size > _); rw [bs_size, bs_size]; have := HL.out; simp only [List.length_cons, List.length_append, List.length_nil]; omega
  go_wp2_with fail
  refine (itoa_c (e - 4 * (b.length : Int)) (by have := HK.out; omega) (by have := HK.out; omega) _ (HW.out.below HB6.out).p).mono ?_
  rintro en w7 ⟨rfl, hb⟩
  rw [← HFL.out.1]
  have HB7 : Hid (Below w.heap.size w w7) := Below.on HB6.out hb
  clear hb hb1 hb2 hb3
  have hc4 : ∀ W, (Op.stringOp .add (bs (43 :: 48 :: 88 :: 48 :: 48 :: (a ++ (b ++ [46, 48, 48, 48, 80])))) (bs F)).run Tryz.prog W = .ok (.string (bs ((43 :: 48 :: 88 :: 48 :: 48 :: (a ++ (b ++ [46, 48, 48, 48, 80]))) ++ F))) W := fun W => cat_run (43 :: 48 :: 88 :: 48 :: 48 :: (a ++ (b ++ [46, 48, 48, 48, 80]))) F W (by have := HL.out; have := HEL.out; have := HFL.out; have := HGL.out; have := HUU.out; simp only [List.length_cons, List.length_append, List.length_nil]; omega)
  have hb4 : ¬ (((bs (43 :: 48 :: 88 :: 48 :: 48 :: (a ++ (b ++ [46, 48, 48, 48, 80])))) : ByteArray).size + ((bs F) : ByteArray).size > 9223372036854775807) := by show ¬ ((bs (43 :: 48 :: 88 :: 48 :: 48 :: (a ++ (b ++ [46, 48, 48, 48, 80])))).size + (bs F).size > _); rw [bs_size, bs_size]; have := HL.out; have := HEL.out; have := HFL.out; have := HGL.out; have := HUU.out; simp only [List.length_cons, List.length_append, List.length_nil]; omega
  go_wp2_with fail
  refine (HH.out.parse _ (HW.out.below HB7.out) P2.out).mono ?_
  rintro en w8 ⟨rfl, hb⟩
  have HB8 : Hid (Below w.heap.size w w8) := Below.on HB7.out hb
  clear hb hb4
  have hc1 : ∀ W, (Op.stringOp .add (bs a) (bs b)).run Tryz.prog W = .ok (.string (bs (a ++ b))) W := fun W => cat_run a b W (by have := HL.out; omega)
  have hb1 : ¬ (((bs a) : ByteArray).size + ((bs b) : ByteArray).size > 9223372036854775807) := by show ¬ ((bs a).size + (bs b).size > _); rw [bs_size, bs_size]; have := HL.out; omega
  go_wp2_with fail
  refine (upper_c (a ++ b) (by have := HL.out; rw [List.length_append]; omega) _).mono ?_
  rintro en w9 ⟨rfl, hb⟩
  rw [← HUU.out.1]
  have HB9 : Hid (Below w.heap.size w w9) := Below.on HB8.out hb
  clear hb hb1
  have hc1 : ∀ W, (Op.stringOp .add ⟨#[48, 120]⟩ (bs U)).run Tryz.prog W = .ok (.string (bs ([48, 120] ++ U))) W := fun W => cat_run [48, 120] U W (by have h1 : [(48 : UInt8), 120].length = 2 := rfl; have := HUU.out; have := HL.out; omega)
  have hb1 : ¬ ((⟨#[48, 120]⟩ : ByteArray).size + ((bs U) : ByteArray).size > 9223372036854775807) := by show ¬ ((bs [48, 120]).size + (bs U).size > _); rw [bs_size, bs_size]; have h1 : [(48 : UInt8), 120].length = 2 := rfl; have := HUU.out; have := HL.out; omega
  have hc2 : ∀ W, (Op.stringOp .add (bs (48 :: 120 :: U)) ⟨#[48, 48, 112]⟩).run Tryz.prog W = .ok (.string (bs ((48 :: 120 :: U) ++ [48, 48, 112]))) W := fun W => cat_run (48 :: 120 :: U) [48, 48, 112] W (by have := HUU.out; have := HL.out; simp only [List.length_cons, List.length_nil]; omega)
  have hb2 : ¬ (((bs (48 :: 120 :: U)) : ByteArray).size + (⟨#[48, 48, 112]⟩ : ByteArray).size > 9223372036854775807) := by show ¬ ((bs (48 :: 120 :: U)).size + (bs [48, 48, 112]).size > _); rw [bs_size, bs_size]; have := HUU.out; have := HL.out; simp only [List.length_cons, List.length_nil]; omega
  go_wp2_with fail
  refine (itoa_c (e - 4 * (b.length : Int) - 8) (by have := HK.out; omega) (by have := HK.out; omega) _ (HW.out.below HB9.out).p).mono ?_
  rintro en w10 ⟨rfl, hb⟩
  rw [← HGL.out.1]
  have HB10 : Hid (Below w.heap.size w w10) := Below.on HB9.out hb
  clear hb hb1 hb2
  have hc3 : ∀ W, (Op.stringOp .add (bs (48 :: 120 :: (U ++ [48, 48, 112]))) (bs G)).run Tryz.prog W = .ok (.string (bs ((48 :: 120 :: (U ++ [48, 48, 112])) ++ G))) W := fun W => cat_run (48 :: 120 :: (U ++ [48, 48, 112])) G W (by have := HL.out; have := HEL.out; have := HFL.out; have := HGL.out; have := HUU.out; simp only [List.length_cons, List.length_append, List.length_nil]; omega)
  have hb3 : ¬ (((bs (48 :: 120 :: (U ++ [48, 48, 112]))) : ByteArray).size + ((bs G) : ByteArray).size > 9223372036854775807) := by show ¬ ((bs (48 :: 120 :: (U ++ [48, 48, 112]))).size + (bs G).size > _); rw [bs_size, bs_size]; have := HL.out; have := HEL.out; have := HFL.out; have := HGL.out; have := HUU.out; simp only [List.length_cons, List.length_append, List.length_nil]; omega
  go_wp2_with fail
  refine (HH.out.parse _ (HW.out.below HB10.out) P3.out).mono ?_
  rintro en w11 ⟨rfl, hb⟩
  have HB11 : Hid (Below w.heap.size w w11) := Below.on HB10.out hb
  clear hb hb3
  go_wp2_with fail
  go_ret
  exact ⟨rfl, HB11.out⟩
theorem hexfloatPoint_m1 {f p m le : Int} {S I H sd Q : Nat} {Be : Int} (h : Hf f p m le S I H sd Be Q) (hf : f = 32 ∨ f = 64) {a b : List UInt8} (ha : a.all hexd = true) (hb : b.all hexd = true) (ha0 : a = []) (hb0 : b ≠ []) (hlg : a.length + b.length ≤ 3970) {e : Int} (he : -32768 ≤ e ∧ e ≤ 32767) {w : World} (hw : Wd w) :
    Calls Tryz.prog 4 #[.int .i64 f, .string (bs a), .string (bs b), .int .i16 e] w fun en w' => en = .returned (.bool true) ∧ Below w.heap.size w w' := by
  have HW : Hid (Wd w) := hw
  have HF : Hid (f = 32 ∨ f = 64) := hf
  have HH : Hid (Hf f p m le S I H sd Be Q) := h
  have HL : Hid (a.length + b.length ≤ 3970 ∧ a.length ≤ 140737488351232 ∧ b.length ≤ 140737488351232) := ⟨hlg, by omega, by omega⟩
  have HE : Hid (-32768 ≤ e ∧ e ≤ 32767) := he
  have hwl : wrap64 ((a.length : Int) + (b.length : Int)) = (a.length : Int) + (b.length : Int) := by simp only [wrap64]; omega
  have hwe : wrap64 e = e := by simp only [wrap64]; omega
  have hlen : ¬ (3970 : Int) < (a.length : Int) + (b.length : Int) := by omega
  have hsa : (bs a).size = a.length := bs_size a
  have hsb : (bs b).size = b.length := bs_size b
  have HA : Hid (a.all hexd = true) := ha
  have HBB : Hid (b.all hexd = true) := hb
  have hea : (bs a).toList.isEmpty = true := by rw [ha0]; exact emp0
  have heb : (bs b).toList.isEmpty = false := emp1 hb0
  have HAB : Hid (a ++ b ≠ []) := by intro hn; exact hb0 (List.append_eq_nil_iff.1 hn).2
  clear ha0 hb0
  clear ha hb hlg he h hf hw
  go_enter Tryz.func4, Tryz.ntmps4
  go_wp2_with fail
  refine (awake10 HW.out).mono ?_
  rintro en w1 ⟨rfl, hb1⟩
  have HB : Hid (Below w.heap.size w w1) := hb1
  clear hb1
  go_wp2_with fail
  refine (formats_yes HF.out _).mono ?_
  rintro en w2 ⟨rfl, rfl⟩
  go_wp2_with fail
  refine (hexes_c a (by have := HL.out; omega) _).mono ?_
  rintro en w3 ⟨rfl, rfl⟩
  rw [HA.out]
  go_wp2_with fail
  refine (hexes_c b (by have := HL.out; omega) _).mono ?_
  rintro en w4 ⟨rfl, rfl⟩
  rw [HBB.out]
  have hc1 : ∀ W, (Op.stringOp .add ⟨#[48, 120]⟩ (bs a)).run Tryz.prog W = .ok (.string (bs ([48, 120] ++ a))) W := fun W => cat_run [48, 120] a W (by have h1 : [(48 : UInt8), 120].length = 2 := rfl; have := HL.out; omega)
  have hb1 : ¬ ((⟨#[48, 120]⟩ : ByteArray).size + ((bs a) : ByteArray).size > 9223372036854775807) := by show ¬ ((bs [48, 120]).size + (bs a).size > _); rw [bs_size, bs_size]; have h1 : [(48 : UInt8), 120].length = 2 := rfl; have := HL.out; omega
  have hc2 : ∀ W, (Op.stringOp .add (bs (48 :: 120 :: a)) ⟨#[46]⟩).run Tryz.prog W = .ok (.string (bs ((48 :: 120 :: a) ++ [46]))) W := fun W => cat_run (48 :: 120 :: a) [46] W (by have := HL.out; simp only [List.length_cons, List.length_nil]; omega)
  have hb2 : ¬ (((bs (48 :: 120 :: a)) : ByteArray).size + (⟨#[46]⟩ : ByteArray).size > 9223372036854775807) := by show ¬ ((bs (48 :: 120 :: a)).size + (bs [46]).size > _); rw [bs_size, bs_size]; have := HL.out; simp only [List.length_cons, List.length_nil]; omega
  have hc3 : ∀ W, (Op.stringOp .add (bs (48 :: 120 :: (a ++ [46]))) (bs b)).run Tryz.prog W = .ok (.string (bs ((48 :: 120 :: (a ++ [46])) ++ b))) W := fun W => cat_run (48 :: 120 :: (a ++ [46])) b W (by have := HL.out; simp only [List.length_cons, List.length_append, List.length_nil]; omega)
  have hb3 : ¬ (((bs (48 :: 120 :: (a ++ [46]))) : ByteArray).size + ((bs b) : ByteArray).size > 9223372036854775807) := by show ¬ ((bs (48 :: 120 :: (a ++ [46]))).size + (bs b).size > _); rw [bs_size, bs_size]; have := HL.out; simp only [List.length_cons, List.length_append, List.length_nil]; omega
  have hc4 : ∀ W, (Op.stringOp .add (bs (48 :: 120 :: (a ++ 46 :: b))) ⟨#[112]⟩).run Tryz.prog W = .ok (.string (bs ((48 :: 120 :: (a ++ 46 :: b)) ++ [112]))) W := fun W => cat_run (48 :: 120 :: (a ++ 46 :: b)) [112] W (by have := HL.out; simp only [List.length_cons, List.length_append, List.length_nil]; omega)
  have hb4 : ¬ (((bs (48 :: 120 :: (a ++ 46 :: b))) : ByteArray).size + (⟨#[112]⟩ : ByteArray).size > 9223372036854775807) := by show ¬ ((bs (48 :: 120 :: (a ++ 46 :: b))).size + (bs [112]).size > _); rw [bs_size, bs_size]; have := HL.out; simp only [List.length_cons, List.length_append, List.length_nil]; omega
  go_wp2_with fail
  obtain ⟨E, hE⟩ : ∃ E, E = Lib.itoa e := ⟨_, rfl⟩
  obtain ⟨F, hF⟩ : ∃ F, F = Lib.itoa (e - 4 * (b.length : Int)) := ⟨_, rfl⟩
  obtain ⟨G, hG⟩ : ∃ G, G = Lib.itoa (e - 4 * (b.length : Int) - 8) := ⟨_, rfl⟩
  obtain ⟨U, hU⟩ : ∃ U, U = (a ++ b).map upc := ⟨_, rfl⟩
  have hk : -90000 ≤ e - 4 * (b.length : Int) - 8 ∧ e ≤ 32767 ∧ -32768 ≤ e ∧ 0 ≤ (b.length : Int) := by have h1 := HL.out; have h2 := HE.out; omega
  have HQ := hm9 (point_ok (Q := Q) HH.out (List.all_eq_true.1 HA.out) (List.all_eq_true.1 HBB.out) HAB.out HL.out.1 HE.out (hE ▸ (exp_itoa (by omega) (by omega)).1) (by rw [hE]; exact itoa7 (by omega) (by omega)) (hF ▸ (exp_itoa (by omega) (by omega)).1) (by rw [hF]; exact itoa7 (by omega) (by omega)) (hG ▸ (exp_itoa (by omega) (by omega)).1) (by rw [hG]; exact itoa7 (by omega) (by omega)) hU)
  obtain ⟨X, hp1, hp2, hp3⟩ := HQ
  have P1 := hm9 hp1
  have P2 := hm9 hp2
  have P3 := hm9 hp3
  have HEL : Hid (E = Lib.itoa e ∧ E.length ≤ 7) := ⟨hE, by rw [hE]; exact itoa7 (by omega) (by omega)⟩
  have HFL : Hid (F = Lib.itoa (e - 4 * (b.length : Int)) ∧ F.length ≤ 7) := ⟨hF, by rw [hF]; exact itoa7 (by omega) (by omega)⟩
  have HGL : Hid (G = Lib.itoa (e - 4 * (b.length : Int) - 8) ∧ G.length ≤ 7) := ⟨hG, by rw [hG]; exact itoa7 (by omega) (by omega)⟩
  have HUU : Hid (U = (a ++ b).map upc ∧ U.length = a.length + b.length) := ⟨hU, by rw [hU, List.length_map, List.length_append]⟩
  have HK := hm9 hk
  clear hp1 hp2 hp3 hE hF hG hU hk
  refine (itoa_c e (by have := HE.out; omega) (by have := HE.out; omega) _ (HW.out.below HB.out).p).mono ?_
  rintro en w5 ⟨rfl, hb⟩
  rw [← HEL.out.1]
  have HB5 : Hid (Below w.heap.size w w5) := Below.on HB.out hb
  clear hb hb1 hb2 hb3 hb4
  have hc5 : ∀ W, (Op.stringOp .add (bs (48 :: 120 :: (a ++ 46 :: (b ++ [112])))) (bs E)).run Tryz.prog W = .ok (.string (bs ((48 :: 120 :: (a ++ 46 :: (b ++ [112]))) ++ E))) W := fun W => cat_run (48 :: 120 :: (a ++ 46 :: (b ++ [112]))) E W (by have := HL.out; have := HEL.out; have := HFL.out; have := HGL.out; have := HUU.out; simp only [List.length_cons, List.length_append, List.length_nil]; omega)
  have hb5 : ¬ (((bs (48 :: 120 :: (a ++ 46 :: (b ++ [112])))) : ByteArray).size + ((bs E) : ByteArray).size > 9223372036854775807) := by show ¬ ((bs (48 :: 120 :: (a ++ 46 :: (b ++ [112])))).size + (bs E).size > _); rw [bs_size, bs_size]; have := HL.out; have := HEL.out; have := HFL.out; have := HGL.out; have := HUU.out; simp only [List.length_cons, List.length_append, List.length_nil]; omega
  go_wp2_with fail
  refine (HH.out.parse _ (HW.out.below HB5.out) P1.out).mono ?_
  rintro en w6 ⟨rfl, hb⟩
  have HB6 : Hid (Below w.heap.size w w6) := Below.on HB5.out hb
  clear hb hb5
  have hw4 : wrap64 (4 * (b.length : Int)) = 4 * (b.length : Int) := by have := HL.out; simp only [wrap64]; omega
  have hwk : wrap64 (e - 4 * (b.length : Int)) = e - 4 * (b.length : Int) := by have := HL.out; have := HE.out; simp only [wrap64]; omega
  have hwj : wrap64 (e - 4 * (b.length : Int) - 8) = e - 4 * (b.length : Int) - 8 := by have := HL.out; have := HE.out; simp only [wrap64]; omega
  have hc1 : ∀ W, (Op.stringOp .add ⟨#[43, 48, 88, 48, 48]⟩ (bs a)).run Tryz.prog W = .ok (.string (bs ([43, 48, 88, 48, 48] ++ a))) W := fun W => cat_run [43, 48, 88, 48, 48] a W (by have h1 : [(43 : UInt8), 48, 88, 48, 48].length = 5 := rfl; have := HL.out; omega)
  have hb1 : ¬ ((⟨#[43, 48, 88, 48, 48]⟩ : ByteArray).size + ((bs a) : ByteArray).size > 9223372036854775807) := by show ¬ ((bs [43, 48, 88, 48, 48]).size + (bs a).size > _); rw [bs_size, bs_size]; have h1 : [(43 : UInt8), 48, 88, 48, 48].length = 5 := rfl; have := HL.out; omega
  have hc2 : ∀ W, (Op.stringOp .add (bs (43 :: 48 :: 88 :: 48 :: 48 :: a)) (bs b)).run Tryz.prog W = .ok (.string (bs ((43 :: 48 :: 88 :: 48 :: 48 :: a) ++ b))) W := fun W => cat_run (43 :: 48 :: 88 :: 48 :: 48 :: a) b W (by have := HL.out; simp only [List.length_cons]; omega)
  have hb2 : ¬ (((bs (43 :: 48 :: 88 :: 48 :: 48 :: a)) : ByteArray).size + ((bs b) : ByteArray).size > 9223372036854775807) := by show ¬ ((bs (43 :: 48 :: 88 :: 48 :: 48 :: a)).size + (bs b).size > _); rw [bs_size, bs_size]; have := HL.out; simp only [List.length_cons]; omega
  have hc3 : ∀ W, (Op.stringOp .add (bs (43 :: 48 :: 88 :: 48 :: 48 :: (a ++ b))) ⟨#[46, 48, 48, 48, 80]⟩).run Tryz.prog W = .ok (.string (bs ((43 :: 48 :: 88 :: 48 :: 48 :: (a ++ b)) ++ [46, 48, 48, 48, 80]))) W := fun W => cat_run (43 :: 48 :: 88 :: 48 :: 48 :: (a ++ b)) [46, 48, 48, 48, 80] W (by have := HL.out; simp only [List.length_cons, List.length_append, List.length_nil]; omega)
  have hb3 : ¬ (((bs (43 :: 48 :: 88 :: 48 :: 48 :: (a ++ b))) : ByteArray).size + (⟨#[46, 48, 48, 48, 80]⟩ : ByteArray).size > 9223372036854775807) := by show ¬ ((bs (43 :: 48 :: 88 :: 48 :: 48 :: (a ++ b))).size + (bs [46, 48, 48, 48, 80]).size > _); rw [bs_size, bs_size]; have := HL.out; simp only [List.length_cons, List.length_append, List.length_nil]; omega
  go_wp2_with fail
  refine (itoa_c (e - 4 * (b.length : Int)) (by have := HK.out; omega) (by have := HK.out; omega) _ (HW.out.below HB6.out).p).mono ?_
  rintro en w7 ⟨rfl, hb⟩
  rw [← HFL.out.1]
  have HB7 : Hid (Below w.heap.size w w7) := Below.on HB6.out hb
  clear hb hb1 hb2 hb3
  have hc4 : ∀ W, (Op.stringOp .add (bs (43 :: 48 :: 88 :: 48 :: 48 :: (a ++ (b ++ [46, 48, 48, 48, 80])))) (bs F)).run Tryz.prog W = .ok (.string (bs ((43 :: 48 :: 88 :: 48 :: 48 :: (a ++ (b ++ [46, 48, 48, 48, 80]))) ++ F))) W := fun W => cat_run (43 :: 48 :: 88 :: 48 :: 48 :: (a ++ (b ++ [46, 48, 48, 48, 80]))) F W (by have := HL.out; have := HEL.out; have := HFL.out; have := HGL.out; have := HUU.out; simp only [List.length_cons, List.length_append, List.length_nil]; omega)
  have hb4 : ¬ (((bs (43 :: 48 :: 88 :: 48 :: 48 :: (a ++ (b ++ [46, 48, 48, 48, 80])))) : ByteArray).size + ((bs F) : ByteArray).size > 9223372036854775807) := by show ¬ ((bs (43 :: 48 :: 88 :: 48 :: 48 :: (a ++ (b ++ [46, 48, 48, 48, 80])))).size + (bs F).size > _); rw [bs_size, bs_size]; have := HL.out; have := HEL.out; have := HFL.out; have := HGL.out; have := HUU.out; simp only [List.length_cons, List.length_append, List.length_nil]; omega
  go_wp2_with fail
  refine (HH.out.parse _ (HW.out.below HB7.out) P2.out).mono ?_
  rintro en w8 ⟨rfl, hb⟩
  have HB8 : Hid (Below w.heap.size w w8) := Below.on HB7.out hb
  clear hb hb4
  have hc1 : ∀ W, (Op.stringOp .add (bs a) (bs b)).run Tryz.prog W = .ok (.string (bs (a ++ b))) W := fun W => cat_run a b W (by have := HL.out; omega)
  have hb1 : ¬ (((bs a) : ByteArray).size + ((bs b) : ByteArray).size > 9223372036854775807) := by show ¬ ((bs a).size + (bs b).size > _); rw [bs_size, bs_size]; have := HL.out; omega
  go_wp2_with fail
  refine (upper_c (a ++ b) (by have := HL.out; rw [List.length_append]; omega) _).mono ?_
  rintro en w9 ⟨rfl, hb⟩
  rw [← HUU.out.1]
  have HB9 : Hid (Below w.heap.size w w9) := Below.on HB8.out hb
  clear hb hb1
  have hc1 : ∀ W, (Op.stringOp .add ⟨#[48, 120]⟩ (bs U)).run Tryz.prog W = .ok (.string (bs ([48, 120] ++ U))) W := fun W => cat_run [48, 120] U W (by have h1 : [(48 : UInt8), 120].length = 2 := rfl; have := HUU.out; have := HL.out; omega)
  have hb1 : ¬ ((⟨#[48, 120]⟩ : ByteArray).size + ((bs U) : ByteArray).size > 9223372036854775807) := by show ¬ ((bs [48, 120]).size + (bs U).size > _); rw [bs_size, bs_size]; have h1 : [(48 : UInt8), 120].length = 2 := rfl; have := HUU.out; have := HL.out; omega
  have hc2 : ∀ W, (Op.stringOp .add (bs (48 :: 120 :: U)) ⟨#[48, 48, 112]⟩).run Tryz.prog W = .ok (.string (bs ((48 :: 120 :: U) ++ [48, 48, 112]))) W := fun W => cat_run (48 :: 120 :: U) [48, 48, 112] W (by have := HUU.out; have := HL.out; simp only [List.length_cons, List.length_nil]; omega)
  have hb2 : ¬ (((bs (48 :: 120 :: U)) : ByteArray).size + (⟨#[48, 48, 112]⟩ : ByteArray).size > 9223372036854775807) := by show ¬ ((bs (48 :: 120 :: U)).size + (bs [48, 48, 112]).size > _); rw [bs_size, bs_size]; have := HUU.out; have := HL.out; simp only [List.length_cons, List.length_nil]; omega
  go_wp2_with fail
  refine (itoa_c (e - 4 * (b.length : Int) - 8) (by have := HK.out; omega) (by have := HK.out; omega) _ (HW.out.below HB9.out).p).mono ?_
  rintro en w10 ⟨rfl, hb⟩
  rw [← HGL.out.1]
  have HB10 : Hid (Below w.heap.size w w10) := Below.on HB9.out hb
  clear hb hb1 hb2
  have hc3 : ∀ W, (Op.stringOp .add (bs (48 :: 120 :: (U ++ [48, 48, 112]))) (bs G)).run Tryz.prog W = .ok (.string (bs ((48 :: 120 :: (U ++ [48, 48, 112])) ++ G))) W := fun W => cat_run (48 :: 120 :: (U ++ [48, 48, 112])) G W (by have := HL.out; have := HEL.out; have := HFL.out; have := HGL.out; have := HUU.out; simp only [List.length_cons, List.length_append, List.length_nil]; omega)
  have hb3 : ¬ (((bs (48 :: 120 :: (U ++ [48, 48, 112]))) : ByteArray).size + ((bs G) : ByteArray).size > 9223372036854775807) := by show ¬ ((bs (48 :: 120 :: (U ++ [48, 48, 112]))).size + (bs G).size > _); rw [bs_size, bs_size]; have := HL.out; have := HEL.out; have := HFL.out; have := HGL.out; have := HUU.out; simp only [List.length_cons, List.length_append, List.length_nil]; omega
  go_wp2_with fail
  refine (HH.out.parse _ (HW.out.below HB10.out) P3.out).mono ?_
  rintro en w11 ⟨rfl, hb⟩
  have HB11 : Hid (Below w.heap.size w w11) := Below.on HB10.out hb
  clear hb hb3
  go_wp2_with fail
  go_ret
  exact ⟨rfl, HB11.out⟩
theorem hexfloatPoint_h {f p m le : Int} {S I H sd Q : Nat} {Be : Int} (h : Hf f p m le S I H sd Be Q) (hf : f = 32 ∨ f = 64) {a b : List UInt8} (ha : a.length ≤ 140737488351232) (hb : b.length ≤ 140737488351232) {e : Int} (he : -32768 ≤ e ∧ e ≤ 32767) {w : World} (hw : Wd w) : Calls Tryz.prog 4 #[.int .i64 f, .string (bs a), .string (bs b), .int .i16 e] w fun en w' => en = .returned (.bool true) ∧ Below w.heap.size w w' := by
  cases h1 : a.all hexd with
  | false => exact hexfloatPoint_p hf h1 ha hb hw
  | true =>
    cases h2 : b.all hexd with
    | false => exact hexfloatPoint_q hf h1 h2 ha hb hw
    | true =>
      by_cases ha0 : a = []
      · by_cases hb0 : b = []
        · exact hexfloatPoint_n hf h1 h2 ha0 hb0 ha hb hw
        · by_cases hg : 3970 < a.length + b.length
          · exact hexfloatPoint_g1 hf h1 h2 ha0 hb0 hg ha hb hw
          · exact hexfloatPoint_m1 h hf h1 h2 ha0 hb0 (by omega) he hw
      · by_cases hg : 3970 < a.length + b.length
        · exact hexfloatPoint_g0 hf h1 h2 ha0 hg ha hb hw
        · exact hexfloatPoint_m0 h hf h1 h2 ha0 (by omega) he hw
theorem hexfloatPoint_w (f : Int) {s t : ByteArray} (hs : s.data.toList.length ≤ reachBytes) (ht : t.data.toList.length ≤ reachBytes) {e : Int} (he : -32768 ≤ e ∧ e ≤ 32767) {w : World} (hw : Wd w) : Calls Tryz.prog 4 #[.int .i64 f, .string s, .string t, .int .i16 e] w fun en w' => en = .returned (.bool true) ∧ Below w.heap.size w w' := by
  obtain ⟨a, rfl⟩ : ∃ l, s = bs l := ⟨s.data.toList, rfl⟩
  obtain ⟨b, rfl⟩ : ∃ l, t = bs l := ⟨t.data.toList, rfl⟩
  rw [bs_data] at hs ht
  unfold reachBytes at hs ht
  by_cases h1 : f = 32
  · subst h1; exact hexfloatPoint_h hf_32 (.inl rfl) (by omega) (by omega) he hw
  by_cases h2 : f = 64
  · subst h2; exact hexfloatPoint_h hf_64 (.inr rfl) (by omega) (by omega) he hw
  exact hexfloatPoint_x h1 h2 a b hw
end Go.Proofs.YthoolgbofmnghaaGreatDoor
