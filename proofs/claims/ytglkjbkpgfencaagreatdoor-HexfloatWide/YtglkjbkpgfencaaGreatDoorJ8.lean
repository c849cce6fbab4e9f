import Derived.Shelf.Small.Wraps
import Derived.Shelf.Strings.SlTrimAscii
import Derived.Test.YtglkjbkpgfencaaGreatDoorSmall
import Derived.BigRegion
import Derived.Shelf.Spec.BitsCarry
import Derived.Shelf.Strconv.Itoa0
import Derived.Laws.ResultCell
import Derived.Shelf.Bits.Mul64
import Derived.Lib.SliceRun
import Derived.Sort.Row
import Derived.Deep.RegionWith
import Derived.Deep.DeepCutAuto
import Derived.Test.YtglkjbkpgfencaaGreatDoorMem
import Derived.WalkSmall
import Derived.Maps.AppendAt
import Derived.Deep.AppendLies
import Derived.Laws.Concat
namespace Go.Proofs.YtglkjbkpgfencaaGreatDoor
open Go.RowKit Go.Shelf
set_option maxRecDepth 20000
set_option maxHeartbeats 0
def renS : Ren := ⟨fun x => match x with | 99 => 113 | 103 => 84 | 105 => 83 | 119 => 173 | 120 => 160 | 129 => 47 | 137 => 172 | 151 => 139 | 152 => 161 | 161 => 88 | 162 => 82 | 165 => 114 | 166 => 115 | 169 => 117 | 170 => 116 | 171 => 44 | 197 => 145 | 205 => 170 | 206 => 142 | 210 => 118 | 212 => 112 | 217 => 178 | 224 => 174 | 225 => 175 | 227 => 109 | 228 => 137 | 231 => 120 | 232 => 108 | 233 => 121 | 234 => 110 | 235 => 122 | 236 => 111 | 240 => 143 | 241 => 144 | 243 => 79 | 245 => 127 | 246 => 106 | 260 => 164 | 263 => 140 | 264 => 141 | 266 => 180 | 271 => 138 | 276 => 162 | 277 => 163 | 279 => 150 | 280 => 151 | 281 => 152 | 282 => 153 | 283 => 133 | 284 => 134 | 285 => 135 | 286 => 136 | 287 => 126 | 316 => 169 | 317 => 156 | 318 => 157 | 319 => 158 | 320 => 159 | 321 => 148 | 322 => 149 | 337 => 171 | 338 => 60 | n => n, fun x => match x with | 0 => 0 | 1 => 1 | 2 => 2 | 3 => 3 | 4 => 4 | 5 => 5 | 6 => 6 | 7 => 7 | 8 => 8 | 9 => 9 | 10 => 10 | 11 => 11 | 12 => 12 | 13 => 13 | 14 => 14 | 15 => 15 | 16 => 16 | 17 => 17 | 18 => 18 | 19 => 19 | 20 => 20 | 21 => 21 | 22 => 166 | 23 => 129 | 24 => 82 | 25 => 132 | 26 => 130 | 27 => 227 | 31 => 131 | 37 => 168 | 40 => 226 | 41 => 191 | 46 => 128 | 47 => 212 | 51 => 118 | 52 => 224 | 53 => 25 | 54 => 96 | 55 => 225 | 63 => 194 | 64 => 213 | 69 => 134 | 70 => 167 | 71 => 169 | 72 => 170 | 73 => 171 | 74 => 140 | 75 => 141 | 76 => 172 | 77 => 173 | 80 => 174 | 81 => 100 | 83 => 94 | 84 => 156 | 104 => 58 | 105 => 192 | 106 => 193 | 108 => 223 | 109 => 164 | 110 => 165 | 111 => 211 | 114 => 107 | 115 => 158 | 116 => 159 | 117 => 160 | 118 => 161 | 119 => 228 | 122 => 157 | 123 => 162 | 124 => 163 | 127 => 199 | 128 => 182 | 137 => 229 | 138 => 230 | 139 => 231 | 143 => 234 | 144 => 235 | 145 => 236 | 146 => 195 | 147 => 196 | 148 => 197 | 149 => 198 | 164 => 214 | 165 => 215 | 166 => 216 | 167 => 201 | 168 => 203 | 169 => 204 | 170 => 205 | 171 => 187 | 172 => 188 | 173 => 189 | 174 => 190 | 175 => 142 | 176 => 143 | 209 => 221 | 210 => 222 | 211 => 208 | 212 => 209 | 213 => 210 | 214 => 202 | 220 => 49 | 232 => 237 | 233 => 144 | 238 => 239 | 239 => 240 | 240 => 241 | 241 => 242 | 242 => 243 | 243 => 244 | 244 => 245 | 245 => 246 | 246 => 247 | 247 => 248 | 248 => 249 | 249 => 250 | n => n, fun x => match x with | 1 => 4 | 3 => 5 | 4 => 6 | 15 => 2 | 16 => 3 | 17 => 1 | 18 => 7 | 19 => 0 | n => n⟩
theorem laysn103 : Lays.n103 Tryz.prog renS :=
  { mixed := by kernel_rfl, f103 := Tryz.func84.trans (congrArg some (by kernel_rfl)), f206 := Tryz.func142.trans (congrArg some (by kernel_rfl)), f210 := Tryz.func118.trans (congrArg some (by kernel_rfl)), t3 := Tryz.underlying3, a3 := Tryz.isAgg3, z3 := Tryz.sizeOf3, v3 := Tryz.zeroValue3, t4 := Tryz.underlying4, a4 := Tryz.isAgg4, z4 := Tryz.sizeOf4, v4 := Tryz.zeroValue4, t9 := Tryz.underlying9, a9 := Tryz.isAgg9, z9 := Tryz.sizeOf9, v9 := Tryz.zeroValue9, t24 := Tryz.underlying82, a24 := Tryz.isAgg82, z24 := Tryz.sizeOf82, v24 := Tryz.zeroValue82 }
theorem laysn161 : Lays.n161 Tryz.prog renS :=
  { mixed := by kernel_rfl, f119 := Tryz.func173.trans (congrArg some (by kernel_rfl)), f137 := Tryz.func172.trans (congrArg some (by kernel_rfl)), f151 := Tryz.func139.trans (congrArg some (by kernel_rfl)), f152 := Tryz.func161.trans (congrArg some (by kernel_rfl)), f161 := Tryz.func88.trans (congrArg some (by kernel_rfl)), f197 := Tryz.func145.trans (congrArg some (by kernel_rfl)), f217 := Tryz.func178.trans (congrArg some (by kernel_rfl)), f224 := Tryz.func174.trans (congrArg some (by kernel_rfl)), f225 := Tryz.func175.trans (congrArg some (by kernel_rfl)), f227 := Tryz.func109.trans (congrArg some (by kernel_rfl)), f228 := Tryz.func137.trans (congrArg some (by kernel_rfl)), f231 := Tryz.func120.trans (congrArg some (by kernel_rfl)), f233 := Tryz.func121.trans (congrArg some (by kernel_rfl)), f235 := Tryz.func122.trans (congrArg some (by kernel_rfl)), f260 := Tryz.func164.trans (congrArg some (by kernel_rfl)), f266 := Tryz.func180.trans (congrArg some (by kernel_rfl)), t0 := Tryz.underlying0, a0 := Tryz.isAgg0, z0 := Tryz.sizeOf0, v0 := Tryz.zeroValue0, t3 := Tryz.underlying3, a3 := Tryz.isAgg3, z3 := Tryz.sizeOf3, v3 := Tryz.zeroValue3, t4 := Tryz.underlying4, a4 := Tryz.isAgg4, z4 := Tryz.sizeOf4, v4 := Tryz.zeroValue4, t5 := Tryz.underlying5, a5 := Tryz.isAgg5, z5 := Tryz.sizeOf5, v5 := Tryz.zeroValue5, t9 := Tryz.underlying9, a9 := Tryz.isAgg9, z9 := Tryz.sizeOf9, v9 := Tryz.zeroValue9, t21 := Tryz.underlying21, a21 := Tryz.isAgg21, z21 := Tryz.sizeOf21, v21 := Tryz.zeroValue21, t46 := Tryz.underlying128, a46 := Tryz.isAgg128, z46 := Tryz.sizeOf128, v46 := Tryz.zeroValue128, t105 := Tryz.underlying192, a105 := Tryz.isAgg192, z105 := Tryz.sizeOf192, v105 := Tryz.zeroValue192, t116 := Tryz.underlying159, a116 := Tryz.isAgg159, z116 := Tryz.sizeOf159, t117 := Tryz.underlying160, a117 := Tryz.isAgg160, z117 := Tryz.sizeOf160, v117 := Tryz.zeroValue160, t119 := Tryz.underlying228, a119 := Tryz.isAgg228, z119 := Tryz.sizeOf228, t124 := Tryz.underlying163, a124 := Tryz.isAgg163, z124 := Tryz.sizeOf163, v124 := Tryz.zeroValue163, t138 := Tryz.underlying230, a138 := Tryz.isAgg230, z138 := Tryz.sizeOf230, v138 := Tryz.zeroValue230, t139 := Tryz.underlying231, a139 := Tryz.isAgg231, z139 := Tryz.sizeOf231, v139 := Tryz.zeroValue231, g3 := by kernel_rfl, g4 := by kernel_rfl }
end Go.Proofs.YtglkjbkpgfencaaGreatDoor
namespace Go.Proofs.YtglkjbkpgfencaaGreatDoor
open Go.RowKit
set_option maxRecDepth 20000
set_option maxHeartbeats 0
def cutOff (off n k : Nat) : Nat := if k = n then off else off + k
theorem cutOff_lt {off n k : Nat} (h : k < n) : cutOff off n k = off + k := if_neg (by omega)
theorem cutOff_eq {off n k : Nat} (h : k = n) : cutOff off n k = off := if_pos h

theorem ret_cut {v : Value} {g o o' m m' : Nat} (h : o = o') (hm : m = m') : Ending.returned (.tuple #[v, .slice (some ⟨g, o, none⟩) m m]) = .returned (.tuple #[v, .slice (some ⟨g, o', none⟩) m' m']) := by rw [h, hm]
theorem cut_row (g off n c k : Nat) (w : World) (hnc : n ≤ c) (hk : k ≤ n) :
    Calls Tryz.prog 165 #[.slice (some ⟨g, off, none⟩) n c, .int .i64 k] w fun e w' =>
      e = .returned (.tuple #[.slice (some ⟨g, off, none⟩) k k, .slice (some ⟨g, cutOff off n k, none⟩) (n - k) (n - k)]) ∧ ∃ r, w' = w.drewN r := by
  obtain ⟨o, ho⟩ : ∃ o, o = cutOff off n k := ⟨_, rfl⟩
  rw [← ho]
  by_cases hkn : k = n
  · have HO : Hid (o = off) := ho.trans (cutOff_eq hkn)
    subst hkn
    clear ho
    go_enter Tryz.func165, Tryz.ntmps165
    go_wp2
    go_quiet (fail)
    go_wp2
    go_ret2
    exact ⟨ret_cut HO.out.symm (Nat.sub_self k).symm, _, rfl⟩
  · have HO : Hid (o = off + k) := ho.trans (cutOff_lt (by omega))
    have hlt : k < n := by omega
    clear ho
    go_enter Tryz.func165, Tryz.ntmps165
    go_wp2
    go_quiet (fail)
    go_wp2
    go_ret2
    exact ⟨ret_cut HO.out.symm rfl, _, rfl⟩
theorem fitted_any {g n c : Nat} {xs : List Nat} {w : World} (h : At w (some ⟨g, 0, none⟩) n c xs) :
    Calls Tryz.prog 177 #[.slice (some ⟨g, 0, none⟩) n c] w fun e w' =>
      ((trimL xs).length ≤ 8192 ∧ (∃ p' m, e = .returned (.tuple #[.slice p' m m, .int .i64 0]) ∧ m = (trimL xs).length ∧ (m ≠ 0 → p' = some ⟨g, 0, none⟩)) ∧ w' = w) ∨
      (8192 < (trimL xs).length ∧ e = .returned (.tuple #[.slice none 0 0, .int .i64 5]) ∧ w' = w) := by
  go_enter Tryz.func177, Tryz.ntmps177
  go_wp2_with (go_at_call 94; refine (trim_any h).mono ?_; rintro e w' ⟨p', m, rfl, hm, hp, rfl⟩; have HM : Hid (m = (trimL xs).length) := hm; clear hm)
  · go_ret2
    have := HM.out
    exact .inr ⟨by omega, rfl, rfl⟩
  · go_ret2
    have := HM.out
    exact .inl ⟨by omega, ⟨_, _, rfl, this, hp⟩, rfl⟩
theorem add64_ex (x y c : Nat) (hx : x < B64) (hy : y < B64) (hc : c ≤ 1) : ∃ s d, (∀ w : World, (callFunc 179 #[U x, U y, U c]).run Tryz.prog w = .ok (.value (.tuple #[U s, U d])) w) ∧ x + y + c = s + B64 * d ∧ s < B64 ∧ d ≤ 1 := by
  refine ⟨(x + y + c) % 18446744073709551616, (x + y + c) / 18446744073709551616, fun w => ?_, ?_, ?_, ?_⟩
  · rw [run_callFunc_extern Tryz.func179 (by kernel_rfl) (by kernel_rfl) (by kernel_rfl) (e := add64Entry) (by kernel_rfl), run_add64 x y c (by omega) (by omega) (by omega) (by omega)]
    simp only [Result.andThen]
    congr 5 <;> omega
  · rw [B64_eq]; omega
  · rw [B64_eq]; omega
  · rw [B64_eq] at hx hy; omega

structure AddRel (w : World) (g off n : Nat) (zs ys : List Nat) (k cy : Nat) (dk : List Nat) (wr : World) : Prop where
  wrs : Wr g off n w wr
  row : Row wr g off n dk
  hi : dk.drop k = zs.drop k
  car : cy ≤ 1
  sum : valB B64 (dk.take k) + B64 ^ k * cy = valB B64 (zs.take k) + valB B64 (ys.take k)

theorem valB_take_any (b : Nat) (xs : List Nat) (k : Nat) : valB b (xs.take (k + 1)) = valB b (xs.take k) + b ^ k * xs.getD k 0 := by
  by_cases h : k < xs.length
  · exact valB_take_succ b xs k h
  · rw [List.take_of_length_le (by omega), List.take_of_length_le (by omega), List.getD_eq_getElem?_getD, List.getElem?_eq_none (by omega)]; simp
theorem drop_set_lt (dk : List Nat) (k y : Nat) : (dk.set k y).drop (k + 1) = dk.drop (k + 1) := by
  rw [List.drop_set]; simp
theorem take_set_succ (dk : List Nat) (k y : Nat) (hk : k < dk.length) : (dk.set k y).take (k + 1) = dk.take k ++ [y] := by
  rw [take_succ_getD _ k (by simpa using hk), getD_set dk k y k hk, if_pos rfl, List.take_set]
  congr 1
  rw [List.set_eq_of_length_le (by simp; omega)]
theorem drop_succ_of_drop {dk zs : List Nat} {k : Nat} (h : dk.drop k = zs.drop k) : dk.drop (k + 1) = zs.drop (k + 1) := by
  have := congrArg (List.drop 1) h
  rw [List.drop_drop, List.drop_drop] at this
  exact this
theorem getD_of_drop {dk zs : List Nat} {k : Nat} (h : dk.drop k = zs.drop k) : dk.getD k 0 = zs.getD k 0 := by
  have := congrArg (fun l : List Nat => l[0]?) h
  simp only [List.getElem?_drop, Nat.add_zero] at this
  rw [List.getD_eq_getElem?_getD, List.getD_eq_getElem?_getD, this]

theorem AddRel.step {w : World} {g off n : Nat} {zs ys : List Nat} {k cy : Nat} {dk : List Nat} {wr : World} (h : AddRel w g off n zs ys k cy dk wr) (hk : k < n)
    {x y s d : Nat} (hx : x = dk.getD k 0) (hy : y = ys.getD k 0) (hs : x + y + cy = s + B64 * d) (hsl : s < B64) (hd : d ≤ 1) (q : Nat) :
    AddRel w g off n zs ys (k + 1) d (dk.set k s) ((wr.setCell ⟨g, off + k, none⟩ (U s)).drewN q) := by
  have hl := h.row.len
  refine ⟨(h.wrs.setCell (off + k) ⟨by omega, by omega⟩ _).drewN q, (h.row.set k s hk hsl).drewN q, ?_, hd, ?_⟩
  · rw [drop_set_lt]; exact drop_succ_of_drop h.hi
  · have hxz : x = zs.getD k 0 := hx.trans (getD_of_drop h.hi)
    rw [take_set_succ dk k s (by omega), valB_snoc, List.length_take, hl, Nat.min_eq_left (by omega), valB_take_any _ zs k, valB_take_any _ ys k, ← hxz, ← hy, Nat.pow_succ]
    have e1 := h.sum
    have e2 : B64 ^ k * (x + y + cy) = B64 ^ k * (s + B64 * d) := by rw [hs]
    rw [Nat.mul_add, Nat.mul_add, Nat.mul_add, ← Nat.mul_assoc] at e2
    omega
theorem AddRel.fin {w : World} {g off n : Nat} {zs ys : List Nat} {k cy : Nat} {dk : List Nat} {wr : World} (h : AddRel w g off n zs ys k cy dk wr) (hz : zs.length = n) (hy : ys.length ≤ k) (hk : k ≤ n) (hf : cy = 0 ∨ k = n) :
    valB B64 dk + B64 ^ n * cy = valB B64 zs + valB B64 ys := by
  have hl := h.row.len
  have e1 := h.sum
  rw [List.take_of_length_le hy] at e1
  rw [valB_split B64 dk k (by omega), valB_split B64 zs k (by omega), h.hi]
  rcases hf with rfl | rfl
  · omega
  · rw [List.drop_of_length_le (by omega)]; simp only [valB_nil]; omega

theorem ladd_any (g off n c : Nat) (zs : List Nat) (p : Option Addr) (m d : Nat) (ys : List Nat) (w : World) (hz : Row w g off n zs) (hnc : n ≤ c) (hbig : c ≤ 9223372036854775807)
    (ha : At w p m d ys) (hmn : m ≤ n) (hap : ∀ g2 off2, 0 < m → p = some ⟨g2, off2, none⟩ → g2 ≠ g ∨ off2 + m ≤ off ∨ off + n ≤ off2) :
    Calls Tryz.prog 176 #[.slice (some ⟨g, off, none⟩) n c, .slice p m d] w fun e w' =>
      ∃ cy zs', e = .returned (U cy) ∧ cy ≤ 1 ∧ Wr g off n w w' ∧ Row w' g off n zs' ∧ valB B64 zs' + B64 ^ n * cy = valB B64 zs + valB B64 ys := by
  have hl := hz.len; have al := ha.len; have acap := ha.cap; have abig := ha.big
  unfold maxLen at abig
  go_enter Tryz.func176, Tryz.ntmps176
  go_wp2_with (go_at_call 165; refine (cut_row g off n c m _ hnc hmn).mono ?_; rintro e w' ⟨rfl, r0, rfl⟩)
  go_loopw [7, 8, 19] (fun cv _ i wr => ∃ (k cy : Nat) (dk : List Nat), k ≤ m ∧ i = .int .i64 k ∧ cv = U cy ∧ AddRel w g off n zs ys k cy dk wr) (fun _ _ i _ => m - (intOf i).toNat)
  case atStart => exact ⟨0, 0, zs, Nat.zero_le _, rfl, rfl, ⟨(Wr.refl _ _ _ _).drewN _, hz.drewN _, rfl, by omega, by simp [valB]⟩⟩
  case round =>
    obtain ⟨k, cy, dk, hk, rfl, rfl, hR⟩ := hrel
    by_cases hlt : k < m
    · obtain ⟨g2, off2, rfl, hc2⟩ := ha.cells.resolve_left (by omega)
      obtain ⟨x, hx⟩ : ∃ x, x = dk.getD k 0 := ⟨_, rfl⟩
      obtain ⟨y, hy⟩ : ∃ y, y = ys.getD k 0 := ⟨_, rfl⟩
      have hcx : wr.cell? ⟨g, off + k, none⟩ = some (U x) := by rw [hx]; exact hR.row.cell k (by omega)
      have hfx : wr.frozen? ⟨g, off + k, none⟩ = false := hR.row.frozen k (by omega)
      have hcy : wr.cell? ⟨g2, off2 + k, none⟩ = some (U y) := by
        rw [hy, hR.wrs.cell g2 (off2 + k) (by have := hap g2 off2 (by omega) rfl; omega)]; exact hc2 k hlt
      obtain ⟨s, d1, hrun, hsum, hsl, hd1⟩ := add64_ex x y cy (by rw [hx]; exact hR.row.dig.getD B64_pos k) (by rw [hy]; exact ha.dig.getD B64_pos k) hR.car
      have HR : Hid (AddRel w g off n zs ys k cy dk wr) := hR
      have HX : Hid (x = dk.getD k 0) := hx
      have HY : Hid (y = ys.getD k 0) := hy
      have HS : Hid (x + y + cy = s + B64 * d1) := hsum
      clear hR hx hy hsum hc2
      go_wp2
      go_region
      go_wp2
      go_roundw
      case rel => exact ⟨k + 1, d1, dk.set k s, by omega, by go_num, rfl, HR.out.step (by omega) HX.out HY.out HS.out hsl hd1 1⟩
      case measure => simp [intOf]; omega
    · obtain rfl : k = m := by omega
      have HR : Hid (AddRel w g off n zs ys k cy dk wr) := hR
      clear hR
      go_wp2
      go_loopw [7, 9, 41] (fun cv _ i wr => ∃ (j cy : Nat) (dk : List Nat), j ≤ n - k ∧ i = .int .i64 j ∧ cv = U cy ∧ AddRel w g off n zs ys (k + j) cy dk wr) (fun _ _ i _ => n - k - (intOf i).toNat)
      case atStart => exact ⟨0, cy, dk, Nat.zero_le _, rfl, rfl, HR.out⟩
      case round =>
        clear HR
        obtain ⟨j, cy, dk, hj, rfl, rfl, hR⟩ := hrel
        by_cases hlt2 : j < n - k
        · have hco : cutOff off n k = off + k := cutOff_lt (by omega)
          obtain ⟨x, hx⟩ : ∃ x, x = dk.getD (k + j) 0 := ⟨_, rfl⟩
          have hcx : wr.cell? ⟨g, cutOff off n k + j, none⟩ = some (U x) := by rw [hx, hco, Nat.add_assoc]; exact hR.row.cell (k + j) (by omega)
          have hfx : wr.frozen? ⟨g, cutOff off n k + j, none⟩ = false := by rw [hco, Nat.add_assoc]; exact hR.row.frozen (k + j) (by omega)
          obtain ⟨s, d1, hrun0, hsum, hsl, hd1⟩ := add64_ex x 0 cy (by rw [hx]; exact hR.row.dig.getD B64_pos _) B64_pos hR.car
          have HR : Hid (AddRel w g off n zs ys (k + j) cy dk wr) := hR
          have HX : Hid (x = dk.getD (k + j) 0) := hx
          have HS : Hid (x + 0 + cy = s + B64 * d1) := hsum
          have HO : Hid (cutOff off n k = off + k) := hco
          have hrun : ∀ w : World, (callFunc 179 #[U x, .int .u64 0, U cy]).run Tryz.prog w = .ok (.value (.tuple #[U s, U d1])) w := hrun0
          clear hR hx hsum hco hrun0
          by_cases hc0 : cy = 0
          · subst hc0
            go_wp2
            go_ret
            exact ⟨0, dk, rfl, by omega, HR.out.wrs, HR.out.row, HR.out.fin hl (by omega) (by omega) (.inl rfl)⟩
          · have hc0' : ((cy : Int) == 0) = false := by simp; omega
            go_wp2
            go_roundw
            case rel =>
              refine ⟨j + 1, d1, dk.set (k + j) s, by omega, by go_num, rfl, ?_⟩
              have st := HR.out.step (by omega) HX.out (y := 0) (by rw [List.getD_eq_getElem?_getD, List.getElem?_eq_none (by omega)]; rfl) HS.out hsl hd1 0
              rw [← Nat.add_assoc off, ← HO.out] at st
              exact st
            case measure => simp [intOf]; omega
        · have hjn : k + j = n := by omega
          have HR : Hid (AddRel w g off n zs ys (k + j) cy dk wr) := hR
          have HJ : Hid (k + j = n) := hjn
          clear hR hjn
          go_wp2
          go_ret
          exact ⟨cy, dk, rfl, HR.out.car, HR.out.wrs, HR.out.row, HR.out.fin hl (by omega) (by have := HJ.out; omega) (.inr HJ.out)⟩
structure SubRel (w : World) (g off n : Nat) (zs ys : List Nat) (k cy : Nat) (dk : List Nat) (wr : World) : Prop where
  wrs : Wr g off n w wr
  row : Row wr g off n dk
  hi : dk.drop k = zs.drop k
  car : cy ≤ 1
  sum : valB B64 (dk.take k) + valB B64 (ys.take k) = valB B64 (zs.take k) + B64 ^ k * cy

theorem SubRel.step {w : World} {g off n : Nat} {zs ys : List Nat} {k cy : Nat} {dk : List Nat} {wr : World} (h : SubRel w g off n zs ys k cy dk wr) (hk : k < n)
    {x y s d : Nat} (hx : x = dk.getD k 0) (hy : y = ys.getD k 0) (hs : x + B64 * d = s + y + cy) (hsl : s < B64) (hd : d ≤ 1) (q : Nat) :
    SubRel w g off n zs ys (k + 1) d (dk.set k s) ((wr.setCell ⟨g, off + k, none⟩ (U s)).drewN q) := by
  have hl := h.row.len
  refine ⟨(h.wrs.setCell (off + k) ⟨by omega, by omega⟩ _).drewN q, (h.row.set k s hk hsl).drewN q, ?_, hd, ?_⟩
  · rw [drop_set_lt]; exact drop_succ_of_drop h.hi
  · have hxz : x = zs.getD k 0 := hx.trans (getD_of_drop h.hi)
    rw [take_set_succ dk k s (by omega), valB_snoc, List.length_take, hl, Nat.min_eq_left (by omega), valB_take_any _ zs k, valB_take_any _ ys k, ← hxz, ← hy, Nat.pow_succ]
    have e1 := h.sum
    have e2 : B64 ^ k * (x + B64 * d) = B64 ^ k * (s + y + cy) := by rw [hs]
    rw [Nat.mul_add, Nat.mul_add, Nat.mul_add, ← Nat.mul_assoc] at e2
    omega
theorem SubRel.fin {w : World} {g off n : Nat} {zs ys : List Nat} {k cy : Nat} {dk : List Nat} {wr : World} (h : SubRel w g off n zs ys k cy dk wr) (hz : zs.length = n) (hy : ys.length ≤ k) (hk : k ≤ n) (hf : cy = 0 ∨ k = n) :
    valB B64 dk + valB B64 ys = valB B64 zs + B64 ^ n * cy := by
  have hl := h.row.len
  have e1 := h.sum
  rw [List.take_of_length_le hy] at e1
  rw [valB_split B64 dk k (by omega), valB_split B64 zs k (by omega), h.hi]
  rcases hf with rfl | rfl
  · omega
  · rw [List.drop_of_length_le (by omega)]; simp only [valB_nil]; omega
def cmpN (a b : Nat) : Int := if a < b then -1 else if a = b then 0 else 1
theorem cmpN_lt {a b : Nat} (h : a < b) : cmpN a b = -1 := if_pos h
theorem cmpN_gt {a b : Nat} (h : b < a) : cmpN a b = 1 := by unfold cmpN; rw [if_neg (by omega), if_neg (by omega)]
theorem cmpN_eq {a b : Nat} (h : a = b) : cmpN a b = 0 := by unfold cmpN; rw [if_neg (by omega), if_pos h]
theorem drop_step {xs ys : List Nat} {n t : Nat} (lx : xs.length = n) (ly : ys.length = n) (ht : t < n) (hd : xs.drop (t + 1) = ys.drop (t + 1)) (h : xs.getD t 0 = ys.getD t 0) : xs.drop t = ys.drop t := by
  rw [drop_getD xs t (by omega), drop_getD ys t (by omega), h, hd]

theorem drewN_two (w : World) (a b : Nat) : (w.drewN a).drewN b = w.drewN (a + b) := by simp
theorem bDrewN {B : Nat} {a w : World} (h : Below B a w) (q : Nat) : Below B a (w.drewN q) := ⟨h.os, h.tape, h.output, h.size, h.block⟩

theorem dig1 {x : Nat} (h : x < B64) : Dig B64 [x] := Dig.cons h (Dig.nil _)

def LIM : Nat := B64 ^ 8192
theorem LIM_eq (k : Nat) (hk : k = 8192) : LIM = B64 ^ k := by subst hk; unfold LIM; rfl
theorem Nf.lim {xs : List Nat} {n : Nat} (h : Nf B64 xs n) : xs.length ≤ 8192 ↔ n < LIM := by
  have := h.len_le (k := 8192) B64_one
  unfold LIM; exact this

structure Own (B : Nat) (w : World) (p : Option Addr) (m : Nat) (zs : List Nat) : Prop where
  len : zs.length = m
  dig : Dig B64 zs
  mem : m = 0 ∨ ∃ g, p = some ⟨g, 0, none⟩ ∧ B ≤ g ∧ Row w g 0 m zs
theorem Own.at_ {B : Nat} {w : World} {p : Option Addr} {m : Nat} {zs : List Nat} (h : Own B w p m zs) (hm : m ≤ 8192) : At w p m m zs := by
  refine ⟨h.len, Nat.le_refl _, by unfold maxLen; omega, h.dig, ?_⟩
  rcases h.mem with h0 | ⟨g, rfl, _, hr⟩
  · exact .inl h0
  · exact .inr ⟨g, 0, rfl, hr.cell⟩
theorem Row.lt {w : World} {g off n : Nat} {xs : List Nat} (h : Row w g off n xs) (hn : 0 < n) : g < w.heap.size := World.block_lt_of_cell? w _ (h.cell 0 hn)
theorem Own.below {B : Nat} {w w' : World} {p : Option Addr} {m : Nat} {zs : List Nat} (h : Own B w p m zs) (hb : Below w.heap.size w w') : Own B w' p m zs := by
  refine ⟨h.len, h.dig, ?_⟩
  by_cases h0 : m = 0
  · exact .inl h0
  · obtain ⟨g, rfl, hg, hr⟩ := h.mem.resolve_left h0
    exact .inr ⟨g, rfl, hg, hr.below hb (hr.lt (by omega))⟩
theorem Own.mono {B B' : Nat} {w : World} {p : Option Addr} {m : Nat} {zs : List Nat} (h : Own B w p m zs) (hB : B' ≤ B) : Own B' w p m zs := by
  refine ⟨h.len, h.dig, ?_⟩
  rcases h.mem with h0 | ⟨g, hp, hg, hr⟩
  · exact .inl h0
  · exact .inr ⟨g, hp, by omega, hr⟩
theorem Row.take {w : World} {g off n : Nat} {xs : List Nat} (h : Row w g off n xs) (m : Nat) (hm : m ≤ n) : Row w g off m (xs.take m) := by
  refine ⟨by rw [List.length_take, h.len]; omega, h.dig.take m, fun j hj => ?_, fun j hj => h.frozen j (by omega)⟩
  have e : (xs.take m).getD j 0 = xs.getD j 0 := by rw [List.getD_eq_getElem?_getD, List.getD_eq_getElem?_getD, List.getElem?_take, if_pos hj]
  rw [e]; exact h.cell j (by omega)
theorem Row.own {w : World} {g n B : Nat} {xs : List Nat} (h : Row w g 0 n xs) (hB : B ≤ g) {p' : Option Addr} {m : Nat} (hm : m = (trimL xs).length) (hp : m ≠ 0 → p' = some ⟨g, 0, none⟩) : Own B w p' m (trimL xs) := by
  have hle := trimL_length_le xs
  refine ⟨hm.symm, h.dig.trimL, ?_⟩
  by_cases h0 : m = 0
  · exact .inl h0
  · have := h.take m (by have := h.len; omega)
    rw [hm, ← trimL_take, ← hm] at this
    exact .inr ⟨g, hp h0, hB, this⟩
theorem Blk.own {w : World} {g B : Nat} {xs : List Nat} (h : Blk w g xs) (hd : Dig B64 xs) (hB : B ≤ g) : Own B w (some ⟨g, 0, none⟩) xs.length xs :=
  ⟨rfl, hd, .inr ⟨g, rfl, hB, h.row hd⟩⟩
theorem Blk.at_ {w : World} {g : Nat} {xs : List Nat} (h : Blk w g xs) (hd : Dig B64 xs) {n : Nat} (hn : xs.length = n) (hb : n ≤ maxLen) : At w (some ⟨g, 0, none⟩) n n xs := by
  subst hn; exact (h.row hd).at_ (Nat.le_refl _) hb

def Ans (B : Nat) (w' : World) (e : Ending) (n : Nat) : Prop :=
  (n < LIM ∧ ∃ p m zs, e = .returned (.tuple #[.slice p m m, .int .i64 0]) ∧ Own B w' p m zs ∧ Nf B64 zs n ∧ m ≤ 8192) ∨
  (LIM ≤ n ∧ e = .returned (.tuple #[.slice none 0 0, .int .i64 5]))

theorem form_true {p : Option Addr} {n c : Nat} {xs : List Nat} {w : World} (h : At w p n c xs) (hf : formB xs = true) :
    Calls Tryz.prog 123 #[.slice p n c] w fun e w' => e = .returned (.bool true) ∧ w' = w := by
  have := form_any h; rw [hf] at this; exact this
theorem form_false {p : Option Addr} {n c : Nat} {xs : List Nat} {w : World} (h : At w p n c xs) (hf : formB xs = false) :
    Calls Tryz.prog 123 #[.slice p n c] w fun e w' => e = .returned (.bool false) ∧ w' = w := by
  have := form_any h; rw [hf] at this; exact this
theorem Nf.form {xs : List Nat} {n : Nat} (h : Nf B64 xs n) (hl : xs.length ≤ 8192) : formB xs = true := (formB_iff xs).2 ⟨hl, h.top⟩
theorem formB_nf {xs : List Nat} (h : formB xs = true) (hd : Dig B64 xs) : Nf B64 xs (valB B64 xs) ∧ xs.length ≤ 8192 := ⟨⟨hd, ((formB_iff xs).1 h).2, rfl⟩, ((formB_iff xs).1 h).1⟩

def Ap2 (v1 v2 : Value) : Prop := ∀ p1 m1 c1 p2 m2 c2 g, v1 = .slice p1 m1 c1 → v2 = .slice p2 m2 c2 → m1 ≠ 0 → m2 ≠ 0 → p1 = some ⟨g, 0, none⟩ → p2 = some ⟨g, 0, none⟩ → False
theorem Ap2.symm {v1 v2 : Value} (h : Ap2 v1 v2) : Ap2 v2 v1 := fun p1 m1 c1 p2 m2 c2 g e1 e2 h1 h2 q1 q2 => h p2 m2 c2 p1 m1 c1 g e2 e1 h2 h1 q2 q1
theorem dig_pad {xs : List Nat} (h : Dig B64 xs) (n : Nat) : Dig B64 (xs ++ List.replicate n 0) := h.append (Dig.replicate _ _ B64_pos)

theorem add_abs {P Q R A B Z cy : Nat} (hs : Z + Q * cy = A + B) (h1 : A < P) (h2 : B < R) (h3 : R ≤ P) (h5 : P * 2 ≤ Q) : Z = A + B := by
  by_cases hc : cy = 0
  · subst hc; omega
  · have h6 : Q * 1 ≤ Q * cy := Nat.mul_le_mul_left _ (by omega)
    omega
theorem add_fin {n m : Nat} {zs xs ys : List Nat} {a b cy : Nat} (hx : Nf B64 xs a) (hy : Nf B64 ys b) (hlx : xs.length = n) (hly : ys.length = m) (hmn : m ≤ n)
    (hs : valB B64 zs + B64 ^ (n + 1) * cy = valB B64 (xs ++ List.replicate (n + 1 - n) 0) + valB B64 ys) : valB B64 zs = a + b := by
  rw [valB_append_zeros, hx.val, hy.val] at hs
  have h1 := valB_lt B64_pos hx.dig
  have h2 := valB_lt B64_pos hy.dig
  rw [hx.val, hlx] at h1
  rw [hy.val, hly] at h2
  refine add_abs hs h1 h2 (Nat.pow_le_pow_right B64_pos hmn) ?_
  rw [Nat.pow_succ]; exact Nat.mul_le_mul_left _ B64_two

theorem add_ord {p q : Option Addr} {n m c d : Nat} {xs ys : List Nat} {a b : Nat} {w : World} (h : At w p n c xs) (k : At w q m d ys) (hx : Nf B64 xs a) (hy : Nf B64 ys b) (hlx : n ≤ 8192) (hly : m ≤ 8192) :
    Calls Tryz.prog 168 #[.slice p n c, .slice q m d] w fun e w' => Ans w.heap.size w' e (a + b) ∧ Below w.heap.size w w' := by
  have fx := hx.form (by rw [h.len]; exact hlx)
  have fy := hy.form (by rw [k.len]; exact hly)
  have HX : Hid (Nf B64 xs a) := hx
  have HY : Hid (Nf B64 ys b) := hy
  clear hx hy
  go_enter Tryz.func168, Tryz.ntmps168
  go_wp2_with fail
  refine (form_true h fx).mono ?_
  rintro e w' ⟨rfl, hw⟩
  obtain rfl := hw.symm
  clear hw
  go_wp2_with fail
  refine (form_true k fy).mono ?_
  rintro e w' ⟨rfl, hw⟩
  obtain rfl := hw.symm
  clear hw fx fy
  by_cases hlt : n < m
  · go_wp2_with fail
    rw [show ((m : Int) + 1) = ((m + 1 : Nat) : Int) by omega]
    refine (copied_any k (m + 1) (by omega) (by omega)).mono ?_
    rintro e w1 ⟨g, rfl, hg, hblk, hb⟩
    have hd1 := dig_pad HY.out.dig (m + 1 - m)
    have hr := hblk.row hd1
    have hl1 : (ys ++ List.replicate (m + 1 - m) 0).length = m + 1 := by rw [List.length_append, List.length_replicate, k.len]; omega
    rw [hl1] at hr
    have h1 := h.below hb
    go_wp2_with fail
    refine (ladd_any g 0 (m + 1) (m + 1) _ p n c xs _ hr (Nat.le_refl _) (by omega) h1 (by omega) (fun g2 off2 hn hp => .inl (h.fresh hg g2 off2 hn hp))).mono ?_
    rintro e w2 ⟨cy, zs, rfl, _, hwr, hrow, hsum⟩
    have A2 := hrow.at_ (Nat.le_refl _) (by unfold maxLen; omega)
    have hval := add_fin HY.out HX.out k.len h.len (by omega) hsum
    have hN := Nf.trim hrow.dig
    rw [hval] at hN
    have HV : Hid (Nf B64 (trimL zs) (b + a)) := hN
    have hb2 : Below w.heap.size w w2 := hb.trans (hwr.below hg)
    clear hsum hval hN hd1 hl1 hr hblk
    go_wp2_with fail
    refine (fitted_any A2).mono ?_
    rintro e w3 hres
    rcases hres with ⟨hle, ⟨p', m', rfl, hm', hp'⟩, hw⟩ | ⟨hgt, rfl, hw⟩
    · obtain rfl := hw.symm
      have HM : Hid (m' = (trimL zs).length) := hm'
      clear hw hm'
      go_wp2_with fail
      go_ret2
      have e1 := HM.out
      rw [Nat.add_comm a b]
      exact ⟨.inl ⟨HV.out.lim.1 hle, p', m', trimL zs, rfl, hrow.own hg e1 hp', HV.out, by omega⟩, hb2⟩
    · obtain rfl := hw.symm
      clear hw
      go_wp2_with fail
      go_ret2
      rw [Nat.add_comm a b]
      refine ⟨.inr ⟨?_, rfl⟩, hb2⟩
      have := mt HV.out.lim.2 (by omega)
      omega
  · go_wp2_with fail
    rw [show ((n : Int) + 1) = ((n + 1 : Nat) : Int) by omega]
    refine (copied_any h (n + 1) (by omega) (by omega)).mono ?_
    rintro e w1 ⟨g, rfl, hg, hblk, hb⟩
    have hd1 := dig_pad HX.out.dig (n + 1 - n)
    have hr := hblk.row hd1
    have hl1 : (xs ++ List.replicate (n + 1 - n) 0).length = n + 1 := by rw [List.length_append, List.length_replicate, h.len]; omega
    rw [hl1] at hr
    have h1 := k.below hb
    go_wp2_with fail
    refine (ladd_any g 0 (n + 1) (n + 1) _ q m d ys _ hr (Nat.le_refl _) (by omega) h1 (by omega) (fun g2 off2 hn hp => .inl (k.fresh hg g2 off2 hn hp))).mono ?_
    rintro e w2 ⟨cy, zs, rfl, _, hwr, hrow, hsum⟩
    have A2 := hrow.at_ (Nat.le_refl _) (by unfold maxLen; omega)
    have hval := add_fin HX.out HY.out h.len k.len (by omega) hsum
    have hN := Nf.trim hrow.dig
    rw [hval] at hN
    have HV : Hid (Nf B64 (trimL zs) (a + b)) := hN
    have hb2 : Below w.heap.size w w2 := hb.trans (hwr.below hg)
    clear hsum hval hN hd1 hl1 hr hblk
    go_wp2_with fail
    refine (fitted_any A2).mono ?_
    rintro e w3 hres
    rcases hres with ⟨hle, ⟨p', m', rfl, hm', hp'⟩, hw⟩ | ⟨hgt, rfl, hw⟩
    · obtain rfl := hw.symm
      have HM : Hid (m' = (trimL zs).length) := hm'
      clear hw hm'
      go_wp2_with fail
      go_ret2
      have e1 := HM.out
      exact ⟨.inl ⟨HV.out.lim.1 hle, p', m', trimL zs, rfl, hrow.own hg e1 hp', HV.out, by omega⟩, hb2⟩
    · obtain rfl := hw.symm
      clear hw
      go_wp2_with fail
      go_ret2
      refine ⟨.inr ⟨?_, rfl⟩, hb2⟩
      have := mt HV.out.lim.2 (by omega)
      omega
end Go.Proofs.YtglkjbkpgfencaaGreatDoor
namespace Go.Proofs.YtglkjbkpgfencaaGreatDoor
open Go.RowKit Go.Shelf
set_option maxRecDepth 20000
set_option maxHeartbeats 0
def renLen : Ren := ⟨fun x => match x with | 129 => 47 | n => n, fun x => match x with | 53 => 25 | 3 => 3 | 4 => 4 | 46 => 128 | 5 => 5 | 9 => 9 | n => n, fun n => n⟩
theorem laysLen : Lays.n129 Tryz.prog renLen :=
  { mixed := by kernel_rfl, f129 := Tryz.func47.trans (congrArg some (by kernel_rfl)),
    t3 := Tryz.underlying3, a3 := Tryz.isAgg3, z3 := Tryz.sizeOf3, v3 := Tryz.zeroValue3, t4 := Tryz.underlying4, a4 := Tryz.isAgg4, z4 := Tryz.sizeOf4, v4 := Tryz.zeroValue4,
    t5 := Tryz.underlying5, a5 := Tryz.isAgg5, z5 := Tryz.sizeOf5, v5 := Tryz.zeroValue5, t9 := Tryz.underlying9, a9 := Tryz.isAgg9, z9 := Tryz.sizeOf9, v9 := Tryz.zeroValue9,
    t46 := Tryz.underlying128, a46 := Tryz.isAgg128, z46 := Tryz.sizeOf128, v46 := Tryz.zeroValue128, t53 := Tryz.underlying25, a53 := Tryz.isAgg25, z53 := Tryz.sizeOf25, v53 := Tryz.zeroValue25 }

def bitsN (n : Nat) : Nat := if n = 0 then 0 else n.log2 + 1
theorem bitsN_zero : bitsN 0 = 0 := rfl
theorem bitsN_lt (n : Nat) : n < 2 ^ bitsN n := by
  unfold bitsN
  split
  · rename_i h; subst h; decide
  · exact Nat.lt_log2_self
theorem bitsN_le (n : Nat) (h : n ≠ 0) : 2 ^ (bitsN n - 1) ≤ n := by
  unfold bitsN
  rw [if_neg h, Nat.add_sub_cancel]
  exact Nat.log2_self_le h
theorem bitsN_unique {n k : Nat} (h1 : n < 2 ^ k) (h2 : n ≠ 0 → 2 ^ (k - 1) ≤ n) (h3 : n = 0 → k = 0) : bitsN n = k := by
  by_cases h0 : n = 0
  · subst h0; rw [h3 rfl]; rfl
  · have a1 := bitsN_lt n
    have a2 := bitsN_le n h0
    have b2 := h2 h0
    have c1 : bitsN n - 1 < k := (Nat.pow_lt_pow_iff_right (by decide : 1 < 2)).1 (Nat.lt_of_le_of_lt a2 h1)
    have c2 : k - 1 < bitsN n := (Nat.pow_lt_pow_iff_right (by decide : 1 < 2)).1 (Nat.lt_of_le_of_lt b2 a1)
    have c3 : bitsN n ≠ 0 := by unfold bitsN; rw [if_neg h0]; omega
    omega
theorem bitsN_half (n : Nat) (h : n ≠ 0) : bitsN n = 1 + bitsN (n / 2) := by
  refine bitsN_unique ?_ ?_ (fun e => absurd e h)
  · have := bitsN_lt (n / 2)
    rw [Nat.add_comm, Nat.pow_succ]; omega
  · intro _
    by_cases h2 : n / 2 = 0
    · rw [h2]; simp [bitsN]; omega
    · have a := bitsN_le _ h2
      have c3 : bitsN (n / 2) ≠ 0 := by unfold bitsN; rw [if_neg h2]; omega
      have e : 1 + bitsN (n / 2) - 1 = bitsN (n / 2) - 1 + 1 := by omega
      rw [e, Nat.pow_succ]; omega
theorem bitLen_eq : ∀ (k n : Nat), n < 2 ^ k → k ≤ 64 → Lib.bitLen n = bitsN n := by
  intro k
  induction k with
  | zero => intro n h _; have : n = 0 := by simpa using h
            subst this; rfl
  | succ k ih =>
    intro n h hk
    by_cases h0 : n = 0
    · subst h0; rfl
    · rw [Lib.bitLen_half n h0 (Nat.lt_of_lt_of_le h (Nat.pow_le_pow_right (by decide) hk)), bitsN_half n h0, ih (n / 2) (by rw [Nat.pow_succ] at h; omega) (by omega)]

theorem B64_two_pow : B64 = 2 ^ 64 := rfl
theorem B64_pow (k : Nat) : B64 ^ k = 2 ^ (64 * k) := by rw [B64_two_pow, ← Nat.pow_mul]
theorem bitsN_top {lo x k l : Nat} (hlo : lo < 2 ^ k) (h1 : x < 2 ^ l) (h2 : 2 ^ (l - 1) ≤ x) (hl : l ≠ 0) : bitsN (lo + 2 ^ k * x) = k + l := by
  have hx : 0 < x := Nat.lt_of_lt_of_le (Nat.two_pow_pos _) h2
  have hp := Nat.two_pow_pos k
  have hk : 2 ^ k * 1 ≤ 2 ^ k * x := Nat.mul_le_mul_left _ hx
  refine bitsN_unique ?_ (fun _ => ?_) (fun e => by omega)
  · have := Nat.mul_le_mul_left (2 ^ k) (show x + 1 ≤ 2 ^ l from h1)
    rw [Nat.mul_add, ← Nat.pow_add] at this; omega
  · have := Nat.mul_le_mul_left (2 ^ k) h2
    rw [← Nat.pow_add] at this
    rw [show k + l - 1 = k + (l - 1) by omega]; omega
theorem bitsN_list {us : List Nat} {m x : Nat} (hd : Dig B64 us) (ht : Top us) (hl : us.length = m) (hm : m ≠ 0) (hx : x = us.getD (m - 1) 0) : bitsN (valB B64 us) = 64 * (m - 1) + bitsN x := by
  have h1 := valB_lt B64_pos (hd.take (m - 1))
  rw [List.length_take, hl, Nat.min_eq_left (by omega), B64_pow] at h1
  have hx0 : x ≠ 0 := by
    rw [hx]
    refine ht _ ?_
    rw [List.getLast?_eq_getElem?, hl, List.getD_eq_getElem?_getD, List.getElem?_eq_getElem (by omega)]; rfl
  have e : valB B64 us = valB B64 (us.take (m - 1)) + B64 ^ (m - 1) * x := by
    have := valB_take_succ B64 us (m - 1) (by omega)
    rw [show m - 1 + 1 = m by omega, List.take_of_length_le (by omega), ← hx] at this
    exact this
  rw [e, B64_pow]
  exact bitsN_top h1 (bitsN_lt x) (bitsN_le x hx0) (by unfold bitsN; rw [if_neg hx0]; omega)

theorem len_any (x : Nat) (w : World) (hx : x < B64) : Calls Tryz.prog 47 #[U x] w fun e w' => e = .returned (.int .i64 (bitsN x)) ∧ w' = w := by
  rw [B64_eq] at hx
  have h := Any.bits_Len64 laysLen (x : Int) w (by omega) (by omega)
  rw [Int.toNat_natCast, bitLen_eq 64 x hx (Nat.le_refl _)] at h
  exact h

theorem bits_any {p : Option Addr} {n c : Nat} {xs : List Nat} {w : World} (h : At w p n c xs) (hn : n ≤ 17592186044416) :
    Calls Tryz.prog 65 #[.slice p n c] w fun e w' => e = .returned (.int .i64 (bitsN (valB B64 xs))) ∧ w' = w := by
  obtain ⟨res, hres⟩ : ∃ res, res = bitsN (valB B64 xs) := ⟨_, rfl⟩
  rw [← hres]
  have HRES : Hid (res = bitsN (valB B64 (trimL xs))) := by rw [valB_trimL]; exact hres
  clear hres
  go_enter Tryz.func65, Tryz.ntmps65
  go_wp2_with fail
  refine (trim_any h).mono ?_
  rintro e w' ⟨p1, m, rfl, hm, hp, hw⟩
  obtain rfl := hw.symm
  have A := h.trim hm hp
  have tx := Top_trimL xs
  have hle := trimL_length_le xs
  rw [h.len, ← hm] at hle
  clear hw hm hp
  generalize trimL xs = us at *
  by_cases h0 : m = 0
  · subst h0
    have hu : us = [] := List.eq_nil_of_length_eq_zero A.len
    have HR : Hid (res = 0) := by have := HRES.out; rw [hu] at this; exact this
    clear hu
    go_wp2_with fail
    go_ret
    exact ⟨ret_int (by have := HR.out; omega), rfl⟩
  · obtain ⟨g, off, rfl, hc⟩ := A.cells.resolve_left h0
    obtain ⟨x, hx⟩ : ∃ x, x = us.getD (m - 1) 0 := ⟨_, rfl⟩
    have hcx : w.cell? ⟨g, off + (m - 1), none⟩ = some (U x) := by rw [hx]; exact hc _ (by omega)
    have h0' : ((m : Int) == 0) = false := by simp; omega
    have hxb : x < B64 := by rw [hx]; exact A.dig.getD B64_pos _
    have HR : Hid (res = 64 * (m - 1) + bitsN x) := HRES.out.trans (bitsN_list A.dig tx A.len h0 hx)
    have hbx : bitsN x ≤ 64 := by
      have h1 : bitsN x - 1 < 64 ∨ x = 0 := by
        by_cases e : x = 0
        · exact .inr e
        · refine .inl ((Nat.pow_lt_pow_iff_right (by decide : 1 < 2)).1 (Nat.lt_of_le_of_lt (bitsN_le x e) ?_))
          rw [B64_two_pow] at hxb; exact hxb
      rcases h1 with h1 | rfl
      · omega
      · simp [bitsN]
    clear hc hx
    go_wp2_with fail
    refine (len_any x _ hxb).mono ?_
    rintro e w' ⟨rfl, hw⟩
    obtain rfl := hw.symm
    clear hw
    go_wp2_with fail
    go_ret
    exact ⟨ret_int (by have := HR.out; omega), rfl⟩
end Go.Proofs.YtglkjbkpgfencaaGreatDoor
namespace Go.Proofs.YtglkjbkpgfencaaGreatDoor
open Go.RowKit
set_option maxRecDepth 20000
set_option maxHeartbeats 0
theorem sub_abs {P A B Z cy : Nat} (hs : Z + B = A + P * cy) (h1 : Z < P) (hc : cy ≤ 1) (h2 : B ≤ A) : Z = A - B := by
  by_cases h : cy = 0
  · subst h; omega
  · obtain rfl : cy = 1 := by omega
    omega
theorem Ans.ok {B : Nat} {w' : World} {e : Ending} {n : Nat} (h : Ans B w' e n) (hn : n < LIM) : ∃ p m zs, e = .returned (.tuple #[.slice p m m, .int .i64 0]) ∧ Own B w' p m zs ∧ Nf B64 zs n ∧ m ≤ 8192 := by
  rcases h with ⟨_, h⟩ | ⟨h, _⟩
  · exact h
  · omega
theorem Ans.no {B : Nat} {w' : World} {e : Ending} {n : Nat} (h : Ans B w' e n) (hn : LIM ≤ n) : e = .returned (.tuple #[.slice none 0 0, .int .i64 5]) := by
  rcases h with ⟨h, _⟩ | ⟨_, h⟩
  · omega
  · exact h
theorem below1 (w : World) (o : Obj) : Below w.heap.size w (w.alloc o) := (Below.refl _ _).alloc (Nat.le_refl _) o
theorem below2 (w : World) (o o' : Obj) : Below w.heap.size w ((w.alloc o).alloc o') := (below1 w o).alloc (by simp) o'
theorem Below.on {w w1 w2 : World} (h : Below w.heap.size w w1) (k : Below w1.heap.size w1 w2) : Below w.heap.size w w2 := h.trans (k.mono h.size)
theorem nf_one {x : Nat} (h : x < B64) (h0 : x ≠ 0) : Nf B64 [x] x := ⟨dig1 h, by intro y hy; simp at hy; omega, by simp [valB]⟩
theorem word_any (v : Nat) (w : World) (hv : v < B64) :
    Calls Tryz.prog 63 #[U v] w fun e w' => ∃ p m zs, e = .returned (.slice p m m) ∧ Own w.heap.size w' p m zs ∧ Nf B64 zs v ∧ m ≤ 1 ∧ Below w.heap.size w w' := by
  by_cases h0 : v = 0
  · subst h0
    go_enter Tryz.func63, Tryz.ntmps63
    go_wp2_with fail
    go_ret
    exact ⟨none, 0, [], rfl, ⟨rfl, Dig.nil _, .inl rfl⟩, Nf.nil _, by omega, Below.refl _ _⟩
  · have h0' : ((v : Int) == 0) = false := by simp; omega
    go_enter Tryz.func63, Tryz.ntmps63
    go_wp2_with fail
    go_ret
    have hbk : Blk (w.alloc (.cells #[U v] 25)) w.heap.size [v] := heap_alloc_new w _
    exact ⟨_, 1, [v], rfl, hbk.own (dig1 hv) (Nat.le_refl _), nf_one hv h0, by omega, below1 w _⟩
structure Num (w : World) (p : Option Addr) (m c : Nat) (xs : List Nat) (a : Nat) : Prop where
  at_ : At w p m c xs
  nf : Nf B64 xs a
  le : m ≤ 8192
theorem Num.below {w w' : World} {p : Option Addr} {m c : Nat} {xs : List Nat} {a : Nat} (h : Num w p m c xs a) (hb : Below w.heap.size w w') : Num w' p m c xs a := ⟨h.at_.below hb, h.nf, h.le⟩
theorem Num.lim {w : World} {p : Option Addr} {m c : Nat} {xs : List Nat} {a : Nat} (h : Num w p m c xs a) : a < LIM := h.nf.lim.1 (by rw [h.at_.len]; exact h.le)
theorem Num.of {B : Nat} {w : World} {p : Option Addr} {m : Nat} {xs : List Nat} {a : Nat} (ho : Own B w p m xs) (hn : Nf B64 xs a) (hm : m ≤ 8192) : Num w p m m xs a := ⟨ho.at_ hm, hn, hm⟩
end Go.Proofs.YtglkjbkpgfencaaGreatDoor
namespace Go.Proofs.YtglkjbkpgfencaaGreatDoor
open Go.RowKit Go.Shelf
set_option maxRecDepth 20000
set_option maxHeartbeats 0
def iv (s : Bool) (a : Nat) : Int := if s then -(a : Int) else (a : Int)
theorem iv_t (a : Nat) : iv true a = -(a : Int) := rfl
theorem iv_f (a : Nat) : iv false a = (a : Int) := rfl
abbrev ZV (s : Bool) (p : Option Addr) (n c : Nat) : Value := .agg #[.bool s, .slice p n c]
def AnsI (B : Nat) (w' : World) (e : Ending) (z : Int) : Prop :=
  (z.natAbs < LIM ∧ ∃ p m zs, e = .returned (.tuple #[ZV (decide (z < 0)) p m m, .int .i64 0]) ∧ Own B w' p m zs ∧ Nf B64 zs z.natAbs ∧ m ≤ 8192) ∨
  (LIM ≤ z.natAbs ∧ e = .returned (.tuple #[ZV false none 0 0, .int .i64 5]))
theorem AnsI.ok {B : Nat} {w' : World} {e : Ending} {z : Int} (h : AnsI B w' e z) (hz : z.natAbs < LIM) : ∃ p m zs, e = .returned (.tuple #[ZV (decide (z < 0)) p m m, .int .i64 0]) ∧ Own B w' p m zs ∧ Nf B64 zs z.natAbs ∧ m ≤ 8192 := by
  rcases h with ⟨_, h⟩ | ⟨h, _⟩
  · exact h
  · omega
theorem AnsI.no {B : Nat} {w' : World} {e : Ending} {z : Int} (h : AnsI B w' e z) (hz : LIM ≤ z.natAbs) : e = .returned (.tuple #[ZV false none 0 0, .int .i64 5]) := by
  rcases h with ⟨h, _⟩ | ⟨_, h⟩
  · omega
  · exact h
theorem Num.zero {w : World} {p : Option Addr} {m c : Nat} {xs : List Nat} {a : Nat} (h : Num w p m c xs a) : m = 0 ↔ a = 0 := by
  rw [← h.nf.zero_iff B64_one, ← h.at_.len]
  exact ⟨List.eq_nil_of_length_eq_zero, fun e => by rw [e]; rfl⟩

theorem results_cell1 {fn : Func} {p : Tmp} {ty : TypeId} (h : fn.results = #[.cell p ty]) (tmps : Array Value) (P : Program) (w : World) :
    (results fn tmps).run P w = ((asAddr (tmps.getD p undef)).run P w).andThen fun a w₁ => (loadVar ty a).run P w₁ := by
  simp only [results, h]
  simp [Sem.run_bind, Result.andThen]
theorem signed_any (s : Bool) (p : Option Addr) (m c : Nat) (w : World) :
    Calls Tryz.prog 130 #[.bool s, .slice p m c] w fun e w' => e = .returned (ZV (s && decide (0 < m)) p m c) ∧ Below w.heap.size w w' := by
  cases s
  · go_enter Tryz.func130, Tryz.ntmps130
    go_wp2_with fail
    refine bodyPost_ret (v := ZV false p m c) ?_ rfl ⟨rfl, below1 w _⟩
    rw [results_cell1 rfl]
    go_simp
  · by_cases h : 0 < m
    · have hd : decide ((0 : Int) < (m : Int)) = true := decide_eq_true (by omega)
      go_enter Tryz.func130, Tryz.ntmps130
      go_wp2_with fail
      refine bodyPost_ret (v := ZV true p m c) ?_ rfl ⟨by simp [h], below1 w _⟩
      rw [results_cell1 rfl]
      go_simp
    · have hd : decide ((0 : Int) < (m : Int)) = false := decide_eq_false (by omega)
      have hn : ¬ 0 < m := h
      go_enter Tryz.func130, Tryz.ntmps130
      go_wp2_with fail
      refine bodyPost_ret (v := ZV false p m c) ?_ rfl ⟨by simp [h], below1 w _⟩
      rw [results_cell1 rfl]
      go_simp
theorem Row.oth {w : World} {g off n : Nat} {xs : List Nat} (h : Row w g off n xs) (g2 o2 : Nat) (v : Value) (hne : g ≠ g2) : Row (w.setCell ⟨g2, o2, none⟩ v) g off n xs := by
  refine ⟨h.len, h.dig, fun j hj => ?_, fun j hj => by rw [World.frozen?_setCell]; exact h.frozen j hj⟩
  exact (World.cell?_setCell_other _ _ _ _ (by intro e; apply hne; have := congrArg Addr.block e; simp at this; omega)).trans (h.cell j hj)
theorem Own.setOld {B : Nat} {w : World} {p : Option Addr} {m : Nat} {zs : List Nat} (h : Own B w p m zs) (g2 o2 : Nat) (v : Value) (hlt : g2 < B) : Own B (w.setCell ⟨g2, o2, none⟩ v) p m zs := by
  refine ⟨h.len, h.dig, ?_⟩
  rcases h.mem with h0 | ⟨g, hp, hg, hr⟩
  · exact .inl h0
  · exact .inr ⟨g, hp, hg, hr.oth g2 o2 v (by omega)⟩
theorem bSet {B : Nat} {a w : World} (h : Below B a w) (g o : Nat) (v : Value) (hB : B ≤ g) : Below B a (w.setCell ⟨g, o, none⟩ v) :=
  h.trans ((Wr.refl g o 1 w).setCell o ⟨by omega, by omega⟩ v |>.below hB)
theorem below3 (w : World) (o1 o2 o3 : Obj) : Below w.heap.size w (((w.alloc o1).alloc o2).alloc o3) := (below2 w o1 o2).alloc (by simp; omega) o3
theorem Nf.lenpos {zs : List Nat} {n m : Nat} (h : Nf B64 zs n) (hl : zs.length = m) : decide (0 < m) = decide (0 < n) := by
  refine decide_eq_decide.2 ?_
  have := h.zero_iff B64_one
  constructor
  · intro hm
    rcases Nat.eq_zero_or_pos n with e | e
    · have := this.2 e; rw [this] at hl; simp at hl; omega
    · exact e
  · intro hn
    rcases Nat.eq_zero_or_pos m with e | e
    · have := this.1 (List.eq_nil_of_length_eq_zero (by omega)); omega
    · exact e

theorem bDrew1 {B : Nat} {a w : World} (h : Below B a w) : Below B a w.drew := ⟨h.os, h.tape, h.output, h.size, h.block⟩
theorem Row.snoc {w : World} {g off m : Nat} {zs : List Nat} (h : Row w g off m zs) {y : Nat} (hc : w.cell? ⟨g, off + m, none⟩ = some (U y)) (hf : w.frozen? ⟨g, off + m, none⟩ = false) (hy : y < B64) : Row w g off (m + 1) (zs ++ [y]) := by
  have hl := h.len
  refine ⟨by simp; omega, h.dig.append (dig1 hy), fun j hj => ?_, fun j hj => ?_⟩
  · by_cases e : j = m
    · subst e
      rw [List.getD_eq_getElem?_getD, List.getElem?_append_right (by omega)]
      simpa [hl] using hc
    · rw [List.getD_eq_getElem?_getD, List.getElem?_append_left (by omega), ← List.getD_eq_getElem?_getD]
      exact h.cell j (by omega)
  · by_cases e : j = m
    · subst e; exact hf
    · exact h.frozen j (by omega)

structure MulRel (w : World) (g off m : Nat) (zs ys : List Nat) (v k cy : Nat) (dk : List Nat) (wr : World) : Prop where
  wrs : Wr g off m w wr
  row : Row wr g off m dk
  hi : dk.drop k = zs.drop k
  car : cy < B64
  sum : valB B64 (dk.take k) + B64 ^ k * cy = valB B64 (zs.take k) + valB B64 (ys.take k) * v

theorem MulRel.step {w : World} {g off m : Nat} {zs ys : List Nat} {v k cy : Nat} {dk : List Nat} {wr : World} (h : MulRel w g off m zs ys v k cy dk wr) (hk : k < m)
    {x z l d : Nat} (hz : z = dk.getD k 0) (hx : x = ys.getD k 0) (hs : x * v + z + cy = l + B64 * d) (hl : l < B64) (hd : d < B64) :
    MulRel w g off m zs ys v (k + 1) d (dk.set k l) (wr.setCell ⟨g, off + k, none⟩ (U l)) := by
  have hlen := h.row.len
  refine ⟨h.wrs.setCell (off + k) ⟨by omega, by omega⟩ _, h.row.set k l hk hl, ?_, hd, ?_⟩
  · rw [drop_set_lt]; exact drop_succ_of_drop h.hi
  · have hzz : z = zs.getD k 0 := hz.trans (getD_of_drop h.hi)
    rw [take_set_succ dk k l (by omega), valB_snoc, List.length_take, hlen, Nat.min_eq_left (by omega), valB_take_any _ zs k, valB_take_any _ ys k, ← hzz, ← hx, Nat.pow_succ, Nat.add_mul]
    have e1 := h.sum
    have e2 : B64 ^ k * (x * v + z + cy) = B64 ^ k * (l + B64 * d) := by rw [hs]
    rw [Nat.mul_add, Nat.mul_add, Nat.mul_add, ← Nat.mul_assoc] at e2
    have e3 : B64 ^ k * x * v = B64 ^ k * (x * v) := Nat.mul_assoc _ _ _
    have e4 : B64 ^ k * B64 * d = B64 ^ k * (B64 * d) := Nat.mul_assoc _ _ _
    rw [e3, e4]
    rw [← Nat.mul_assoc] at e2
    generalize B64 ^ k * x * v = X0 at *
    generalize B64 ^ k * (x * v) = X1 at *
    generalize B64 ^ k * B64 * d = X2 at *
    generalize B64 ^ k * (B64 * d) = X3 at *
    generalize B64 ^ k * z = X4 at *
    generalize B64 ^ k * cy = X5 at *
    generalize B64 ^ k * l = X6 at *
    omega
end Go.Proofs.YtglkjbkpgfencaaGreatDoor
namespace Go.Proofs.YtglkjbkpgfencaaGreatDoor
open Go.RowKit
set_option maxRecDepth 20000
set_option maxHeartbeats 0
structure Chg (S : Nat → Nat → Prop) (w w' : World) : Prop where
  os : w'.os = w.os
  tape : w'.tape = w.tape
  output : w'.output = w.output
  size : w.heap.size ≤ w'.heap.size
  row : ∀ k cur t fr, w.heap[k]? = some (.cells cur t fr) → ∃ cur', w'.heap[k]? = some (.cells cur' t fr) ∧ cur'.size = cur.size ∧ ∀ j, ¬ S k j → cur'[j]? = cur[j]?
  other : ∀ k, k < w.heap.size → (∀ cur t fr, w.heap[k]? ≠ some (.cells cur t fr)) → w'.heap[k]? = w.heap[k]?

def Rg (g off n : Nat) : Nat → Nat → Prop := fun b o => b = g ∧ off ≤ o ∧ o < off + n
def Dj (g off n g' off' n' : Nat) : Prop := g ≠ g' ∨ off + n ≤ off' ∨ off' + n' ≤ off
theorem Dj.symm {g off n g' off' n' : Nat} (h : Dj g off n g' off' n') : Dj g' off' n' g off n := by unfold Dj at *; omega
theorem Dj.sub {g off n g' off' n' o m : Nat} (h : Dj g off n g' off' n') (h1 : off ≤ o) (h2 : o + m ≤ off + n) : Dj g o m g' off' n' := by unfold Dj at *; omega
theorem Dj.not {g off n g' off' n' j : Nat} (h : Dj g off n g' off' n') (hj : j < n) : ¬ Rg g' off' n' g (off + j) := by unfold Dj Rg at *; omega

theorem Chg.refl (S : Nat → Nat → Prop) (w : World) : Chg S w w := ⟨rfl, rfl, rfl, Nat.le_refl _, fun _ cur _ _ h => ⟨cur, h, rfl, fun _ _ => rfl⟩, fun _ _ _ => rfl⟩
theorem Chg.mono {S S' : Nat → Nat → Prop} {w w' : World} (h : Chg S w w') (hS : ∀ b o, S b o → S' b o) : Chg S' w w' := by
  refine ⟨h.os, h.tape, h.output, h.size, fun k cur t fr hk => ?_, h.other⟩
  obtain ⟨c, h1, h2, h3⟩ := h.row k cur t fr hk
  exact ⟨c, h1, h2, fun j hj => h3 j (fun hs => hj (hS k j hs))⟩
theorem Chg.trans {S : Nat → Nat → Prop} {a b c : World} (h : Chg S a b) (k : Chg S b c) : Chg S a c := by
  refine ⟨k.os.trans h.os, k.tape.trans h.tape, k.output.trans h.output, Nat.le_trans h.size k.size, fun i cur t fr hi => ?_, fun i hi hn => ?_⟩
  · obtain ⟨c1, g1, s1, e1⟩ := h.row i cur t fr hi
    obtain ⟨c2, g2, s2, e2⟩ := k.row i c1 t fr g1
    exact ⟨c2, g2, s2.trans s1, fun j hj => (e2 j hj).trans (e1 j hj)⟩
  · have e1 := h.other i hi hn
    rw [← e1]
    exact k.other i (Nat.lt_of_lt_of_le hi h.size) (by rw [e1]; exact hn)
theorem Wr.chg {g off n : Nat} {w w' : World} (h : Wr g off n w w') : Chg (Rg g off n) w w' := by
  refine ⟨h.os, h.tape, h.output, by rw [h.size]; exact Nat.le_refl _, fun k cur t fr hk => ?_, fun k _ hn => ?_⟩
  · by_cases e : k = g
    · subst e
      obtain ⟨c, h1, h2, h3⟩ := h.row cur t fr hk
      exact ⟨c, h1, h2, fun j hj => h3 j (by unfold Rg at hj; omega)⟩
    · exact ⟨cur, by rw [h.block k e]; exact hk, rfl, fun _ _ => rfl⟩
  · by_cases e : k = g
    · subst e; exact h.other hn
    · exact h.block k e
theorem Chg.drewN {S : Nat → Nat → Prop} {w w' : World} (h : Chg S w w') (q : Nat) : Chg S w (w'.drewN q) := ⟨h.os, h.tape, h.output, h.size, h.row, h.other⟩
theorem Chg.drew {S : Nat → Nat → Prop} {w w' : World} (h : Chg S w w') : Chg S w w'.drew := ⟨h.os, h.tape, h.output, h.size, h.row, h.other⟩
theorem Chg.cell {S : Nat → Nat → Prop} {w w' : World} (h : Chg S w w') {b o : Nat} {v : Value} (hn : ¬ S b o) (hc : w.cell? ⟨b, o, none⟩ = some v) : w'.cell? ⟨b, o, none⟩ = some v := by
  obtain ⟨c, e, fr, hb, hv⟩ := Sort.cells_of_cell? hc
  obtain ⟨c', h1, _, h3⟩ := h.row b c e fr hb
  rw [cell_of_row w' b o c' e fr h1, h3 o hn]; exact hv
theorem Chg.frozen {S : Nat → Nat → Prop} {w w' : World} (h : Chg S w w') {b o : Nat} {v : Value} (hc : w.cell? ⟨b, o, none⟩ = some v) : w'.frozen? ⟨b, o, none⟩ = w.frozen? ⟨b, o, none⟩ := by
  obtain ⟨c, e, fr, hb, hv⟩ := Sort.cells_of_cell? hc
  obtain ⟨c', h1, _, h3⟩ := h.row b c e fr hb
  simp [World.frozen?, hb, h1]
theorem Chg.below {S : Nat → Nat → Prop} {w w' : World} (h : Chg S w w') {B : Nat} (hS : ∀ b o, S b o → B ≤ b) (hB : B ≤ w.heap.size) : Below B w w' := by
  refine ⟨h.os, h.tape, h.output, h.size, fun k hk => ?_⟩
  by_cases hc : ∃ cur t fr, w.heap[k]? = some (.cells cur t fr)
  · obtain ⟨cur, t, fr, hcur⟩ := hc
    obtain ⟨c', h1, h2, h3⟩ := h.row k cur t fr hcur
    have e : c' = cur := by
      apply Array.ext_getElem?
      intro j
      exact h3 j (fun hs => by have := hS k j hs; omega)
    rw [h1, hcur, e]
  · exact h.other k (by omega) (fun cur t fr e => hc ⟨cur, t, fr, e⟩)
theorem Below.chg {w w' : World} (h : Below w.heap.size w w') (S : Nat → Nat → Prop) : Chg S w w' := by
  refine ⟨h.os, h.tape, h.output, h.size, fun k cur t fr hk => ?_, fun k hk _ => h.block k hk⟩
  have hlt : k < w.heap.size := (Array.getElem?_eq_some_iff.1 hk).1
  exact ⟨cur, by rw [h.block k hlt]; exact hk, rfl, fun _ _ => rfl⟩

structure Rd (w : World) (g off n : Nat) (xs : List Nat) : Prop where
  len : xs.length = n
  dig : Dig B64 xs
  cell : ∀ j, j < n → w.cell? ⟨g, off + j, none⟩ = some (U (xs.getD j 0))
theorem Row.rd {w : World} {g off n : Nat} {xs : List Nat} (h : Row w g off n xs) : Rd w g off n xs := ⟨h.len, h.dig, h.cell⟩
theorem Rd.at_ {w : World} {g off n c : Nat} {xs : List Nat} (h : Rd w g off n xs) (hc : n ≤ c) (hb : c ≤ maxLen) : At w (some ⟨g, off, none⟩) n c xs := ⟨h.len, hc, hb, h.dig, .inr ⟨g, off, rfl, h.cell⟩⟩
theorem Rd.chg {w w' : World} {S : Nat → Nat → Prop} {g off n : Nat} {xs : List Nat} (h : Rd w g off n xs) (hc : Chg S w w') (hd : ∀ j, j < n → ¬ S g (off + j)) : Rd w' g off n xs :=
  ⟨h.len, h.dig, fun j hj => hc.cell (hd j hj) (h.cell j hj)⟩
theorem Row.chg {w w' : World} {S : Nat → Nat → Prop} {g off n : Nat} {xs : List Nat} (h : Row w g off n xs) (hc : Chg S w w') (hd : ∀ j, j < n → ¬ S g (off + j)) : Row w' g off n xs :=
  ⟨h.len, h.dig, fun j hj => hc.cell (hd j hj) (h.cell j hj), fun j hj => by rw [hc.frozen (h.cell j hj)]; exact h.frozen j hj⟩
theorem Row.sub {w : World} {g off n : Nat} {xs : List Nat} (h : Row w g off n xs) (k m : Nat) (hkm : k + m ≤ n) : Row w g (off + k) m ((xs.drop k).take m) := by
  have hl := h.len
  refine ⟨by simp; omega, (h.dig.drop k).take m, fun j hj => ?_, fun j hj => by rw [Nat.add_assoc]; exact h.frozen (k + j) (by omega)⟩
  have e : ((xs.drop k).take m).getD j 0 = xs.getD (k + j) 0 := by rw [List.getD_eq_getElem?_getD, List.getD_eq_getElem?_getD, List.getElem?_take, if_pos hj, List.getElem?_drop]
  rw [e, Nat.add_assoc]; exact h.cell (k + j) (by omega)
theorem Rd.sub {w : World} {g off n : Nat} {xs : List Nat} (h : Rd w g off n xs) (k m : Nat) (hkm : k + m ≤ n) : Rd w g (off + k) m ((xs.drop k).take m) := by
  have hl := h.len
  refine ⟨by simp; omega, (h.dig.drop k).take m, fun j hj => ?_⟩
  have e : ((xs.drop k).take m).getD j 0 = xs.getD (k + j) 0 := by rw [List.getD_eq_getElem?_getD, List.getD_eq_getElem?_getD, List.getElem?_take, if_pos hj, List.getElem?_drop]
  rw [e, Nat.add_assoc]; exact h.cell (k + j) (by omega)
theorem Row.join {w : World} {g off n m : Nat} {xs ys : List Nat} (h : Row w g off n xs) (k : Row w g (off + n) m ys) : Row w g off (n + m) (xs ++ ys) := by
  have hl := h.len
  have kl := k.len
  refine ⟨by simp; omega, h.dig.append k.dig, fun j hj => ?_, fun j hj => ?_⟩
  · by_cases e : j < n
    · rw [List.getD_eq_getElem?_getD, List.getElem?_append_left (by omega), ← List.getD_eq_getElem?_getD]; exact h.cell j e
    · rw [List.getD_eq_getElem?_getD, List.getElem?_append_right (by omega), ← List.getD_eq_getElem?_getD, hl]
      have := k.cell (j - n) (by omega)
      rw [Nat.add_assoc, show n + (j - n) = j by omega] at this; exact this
  · by_cases e : j < n
    · exact h.frozen j e
    · have := k.frozen (j - n) (by omega)
      rw [Nat.add_assoc, show n + (j - n) = j by omega] at this; exact this
theorem Wr.setCells {g : Nat} : ∀ (vs : List Value) (off : Nat) (w : World), Wr g off vs.length w (w.setCells g off vs)
  | [], off, w => Wr.refl _ _ _ _
  | v :: r, off, w => by
    have h1 : Wr g off (r.length + 1) w (w.setCell ⟨g, off, none⟩ v) := (Wr.refl g off (r.length + 1) w).setCell off ⟨by omega, by omega⟩ v
    have h2 := Wr.setCells (g := g) r (off + 1) (w.setCell ⟨g, off, none⟩ v)
    exact h1.trans (h2.mono (by omega) (by omega))
structure RowsRel (w : World) (g off n m : Nat) (xs ys : List Nat) (i : Nat) (dk : List Nat) (wr : World) : Prop where
  wrs : Wr g off (n + m) w wr
  row : Row wr g off (n + m) dk
  val : valB B64 dk = valB B64 xs * valB B64 (ys.take i)
  top : dk.drop (i + n) = List.replicate (m - i) 0

theorem rows_val {xs ys dk zs2 : List Nat} {n m k cy y : Nat} (hl : dk.length = n + m) (hk : k < m) (hy : y = ys.getD k 0) (hv : valB B64 dk = valB B64 xs * valB B64 (ys.take k)) (ht : dk.drop (k + n) = List.replicate (m - k) 0)
    (hz : zs2.length = n) (hs : valB B64 zs2 + B64 ^ n * cy = valB B64 ((dk.drop k).take n) + valB B64 xs * y) : valB B64 (dk.take k ++ (zs2 ++ [cy] ++ List.replicate (m - k - 1) 0)) = valB B64 xs * valB B64 (ys.take (k + 1)) := by
  have e1 : valB B64 dk = valB B64 (dk.take k) + B64 ^ k * valB B64 ((dk.drop k).take n) := by
    rw [valB_split B64 dk k (by omega), valB_split B64 (dk.drop k) n (by simp; omega), List.drop_drop, ht, valB_replicate]; simp
  rw [valB_append, List.length_take, Nat.min_eq_left (by omega), valB_append_zeros, valB_snoc, hz, hs, valB_take_any _ ys k, ← hy, Nat.mul_add, Nat.mul_add, ← Nat.add_assoc, ← e1, hv]
  rw [show B64 ^ k * (valB B64 xs * y) = valB B64 xs * (B64 ^ k * y) by rw [← Nat.mul_assoc, ← Nat.mul_assoc, Nat.mul_comm (B64 ^ k)]]
theorem RowsRel.step {w : World} {g off n m : Nat} {xs ys : List Nat} {k : Nat} {dk : List Nat} {wr w2 w3 : World} (h : RowsRel w g off n m xs ys k dk wr) (hk : k < m) {y cy : Nat} (hy : y = ys.getD k 0) {zs2 : List Nat} (hcy : cy < B64)
    (hw2 : Wr g (off + k) n wr.drew w2) (hr2 : Row w2 g (off + k) n zs2) (hs : valB B64 zs2 + B64 ^ n * cy = valB B64 ((dk.drop k).take n) + valB B64 xs * y) (hc : w2.cell? ⟨g, off + (k + n), none⟩ = some (U 0)) (hf : w2.frozen? ⟨g, off + (k + n), none⟩ = false)
    (hw3 : w3 = w2.setCell ⟨g, off + (k + n), none⟩ (U cy)) : RowsRel w g off n m xs ys (k + 1) (dk.take k ++ (zs2 ++ [cy] ++ List.replicate (m - k - 1) 0)) w3 := by
  have hl := h.row.len
  have hW23 : Wr g (off + (k + n)) 1 w2 w3 := by rw [hw3]; exact (Wr.refl g (off + (k + n)) 1 w2).setCell _ ⟨by omega, by omega⟩ _
  have hlen2 : (dk.take k ++ (zs2 ++ [cy] ++ List.replicate (m - k - 1) 0)).length = n + m := by simp [hr2.len]; omega
  have lo : Row w3 g off k (dk.take k) := by
    have h0 := (h.row.take k (by omega)).drew
    exact (h0.chg hw2.chg (fun j hj => by unfold Rg; omega)).chg hW23.chg (fun j hj => by unfold Rg; omega)
  have mid : Row w3 g (off + k) n zs2 := hr2.chg hW23.chg (fun j hj => by unfold Rg; omega)
  have one : Row w3 g (off + k) (n + 1) (zs2 ++ [cy]) := by
    refine mid.snoc ?_ ?_ hcy
    · rw [hw3, Nat.add_assoc]; exact World.cell?_setCell_same _ _ _ hc
    · rw [hw3, Nat.add_assoc, World.frozen?_setCell]; exact hf
  have hi : Row w3 g (off + k + (n + 1)) (m - k - 1) (List.replicate (m - k - 1) 0) := by
    have h0 := (h.row.sub (k + n + 1) (m - k - 1) (by omega)).drew
    have e : (dk.drop (k + n + 1)).take (m - k - 1) = List.replicate (m - k - 1) 0 := by
      rw [← List.drop_drop, h.top, List.drop_replicate, List.take_replicate]; simp
    rw [e] at h0
    have h1 := (h0.chg hw2.chg (fun j hj => by unfold Rg; omega)).chg hW23.chg (fun j hj => by unfold Rg; omega)
    rw [show off + (k + n + 1) = off + k + (n + 1) by omega] at h1; exact h1
  have all := lo.join (one.join hi)
  rw [show k + (n + 1 + (m - k - 1)) = n + m by omega] at all
  have hWd : Wr g off (n + m) w wr.drew := h.wrs.drew
  refine ⟨(hWd.trans (hw2.mono (by omega) (by omega))).trans (hW23.mono (by omega) (by omega)), all, rows_val hl hk hy h.val h.top hr2.len hs, ?_⟩
  rw [show k + 1 + n = k + (n + 1) by omega, List.drop_append, List.drop_eq_nil_of_le (by simp; omega), List.nil_append, List.length_take, hl, Nat.min_eq_left (by omega), Nat.add_sub_cancel_left, List.drop_append, List.drop_eq_nil_of_le (by simp [hr2.len]), List.nil_append]
  simp [hr2.len]; omega
theorem Row.copied {w : World} {g off n : Nat} {zs : List Nat} (h : Row w g off n zs) (xs : List Nat) (hd : Dig B64 xs) (hx : xs.length ≤ n) : Row (w.setCells g off (cellsU xs)) g off n (xs ++ zs.drop xs.length) := by
  have hl := h.len
  refine ⟨by simp; omega, hd.append (h.dig.drop _), fun j hj => ?_, fun j hj => by rw [World.frozen?_setCells]; exact h.frozen j hj⟩
  by_cases e : j < xs.length
  · have h1 := World.cell?_setCells_in g (cellsU xs) off w (fun i hi => by rw [h.cell i (by rw [cellsU_length] at hi; omega)]; rfl) j (by rw [cellsU_length]; exact e)
    rw [h1, List.getD_eq_getElem?_getD, List.getElem?_append_left e, ← List.getD_eq_getElem?_getD]
    have := cellsU_get xs j e
    rw [List.getElem?_eq_getElem (by rw [cellsU_length]; exact e)] at this
    exact this
  · rw [World.cell?_setCells_out g (cellsU xs) off w _ (fun _ _ => .inr (by rw [cellsU_length]; simp; omega)), List.getD_eq_getElem?_getD, List.getElem?_append_right (by omega), List.getElem?_drop, show xs.length + (j - xs.length) = j by omega, ← List.getD_eq_getElem?_getD]
    exact h.cell j hj
theorem nb {P Z A L cy : Nat} (hs : Z + L = A + P * cy) (hz : Z < P) (hle : L ≤ A) (hc : cy ≤ 1) : Z + L = A := by
  by_cases h : cy = 0
  · subst h; omega
  · obtain rfl : cy = 1 := by omega
    omega
theorem At.chg {w w' : World} {S : Nat → Nat → Prop} {p : Option Addr} {n c : Nat} {xs : List Nat} (h : At w p n c xs) (hc : Chg S w w') (hd : ∀ g off, p = some ⟨g, off, none⟩ → ∀ j, j < n → g < w.heap.size → ¬ S g (off + j)) : At w' p n c xs := by
  refine ⟨h.len, h.cap, h.big, h.dig, ?_⟩
  rcases h.cells with h0 | ⟨g, off, rfl, hcl⟩
  · exact .inl h0
  · exact .inr ⟨g, off, rfl, fun j hj => hc.cell (hd g off rfl j hj (World.block_lt_of_cell? w _ (hcl j hj))) (hcl j hj)⟩
theorem Nf.big {us : List Nat} {a n : Nat} (h : Nf B64 us a) (hl : us.length = n) (h0 : 0 < n) : B64 ^ (n - 1) ≤ a := by
  have := mt (h.len_le (k := n - 1) B64_one).2 (by omega)
  omega
theorem Nf.zero {us : List Nat} {a : Nat} (h : Nf B64 us a) (hl : us.length = 0) : a = 0 := by
  obtain rfl := List.eq_nil_of_length_eq_zero hl
  have := h.val; simp [valB] at this; omega
end Go.Proofs.YtglkjbkpgfencaaGreatDoor
namespace Go.Proofs.YtglkjbkpgfencaaGreatDoor
open Go.RowKit Go.Shelf
set_option maxRecDepth 20000
set_option maxHeartbeats 0
structure Box (W : World) (g : Nat) (v0 v1 : Value) : Prop where
  c0 : W.cell? ⟨g, 0, none⟩ = some v0
  c1 : W.cell? ⟨g, 1, none⟩ = some v1
  f0 : W.frozen? ⟨g, 0, none⟩ = false
  f1 : W.frozen? ⟨g, 1, none⟩ = false
theorem Box.below {W W' : World} {g : Nat} {v0 v1 : Value} (h : Box W g v0 v1) (hb : Below W.heap.size W W') : Box W' g v0 v1 := by
  have hl : g < W.heap.size := World.block_lt_of_cell? W _ h.c0
  exact ⟨(hb.cell (p := ⟨g, 0, none⟩) hl).trans h.c0, (hb.cell (p := ⟨g, 1, none⟩) hl).trans h.c1, (hb.frozen (p := ⟨g, 0, none⟩) hl).trans h.f0, (hb.frozen (p := ⟨g, 1, none⟩) hl).trans h.f1⟩

theorem numform_t {p : Option Addr} {n c : Nat} {xs : List Nat} {a : Nat} {w : World} (s : Bool) (h : Num w p n c xs a) (hs : s = true → 0 < a) :
    Calls Tryz.prog 89 #[ZV s p n c] w fun e w' => e = .returned (.bool true) ∧ Below w.heap.size w w' := by
  have fx := h.nf.form (by rw [h.at_.len]; exact h.le)
  have hz := h.zero
  have H : Hid (Num w p n c xs a) := h
  clear h
  cases s
  · clear hs hz
    go_enter Tryz.func89, Tryz.ntmps89
    go_wp2_with fail
    refine (form_true (H.out.at_.alloc _) fx).mono ?_
    rintro e w' ⟨rfl, hw⟩
    obtain rfl := hw.symm
    clear hw fx
    go_wp2_with fail
    go_ret
    exact ⟨rfl, below1 w _⟩
  · have hn0 : n ≠ 0 := by have := hs rfl; intro e; have := hz.1 e; omega
    have hn0' : ((n : Int) == 0) = false := by simp; omega
    clear hs hz
    go_enter Tryz.func89, Tryz.ntmps89
    go_wp2_with fail
    refine (form_true (H.out.at_.alloc _) fx).mono ?_
    rintro e w' ⟨rfl, hw⟩
    obtain rfl := hw.symm
    clear hw fx
    go_wp2_with fail
    go_ret
    exact ⟨rfl, below1 w _⟩

-- the calls
theorem iv_not (t : Bool) (b : Nat) : iv (!t) b = - iv t b := by cases t <;> simp [iv]
theorem Box.new (w : World) (ty : TypeId) (v0 v1 : Value) : Box (w.alloc (.cells #[v0, v1] ty)) w.heap.size v0 v1 := ⟨by go_simp, by go_simp, by go_simp, by go_simp⟩
end Go.Proofs.YtglkjbkpgfencaaGreatDoor
namespace Go.Proofs.YtglkjbkpgfencaaGreatDoor
open Go.RowKit
set_option maxRecDepth 20000
set_option maxHeartbeats 0
variable {P : Program} {md : Region.Mode} {ops : Array Oper} {Q : Exit → Act → World → Prop} {J : World → Prop}

def wpJ (P : Program) (md : Region.Mode) (ops : Array Oper) (Q : Exit → Act → World → Prop) (J : World → Prop) : Nat → Array Bool → Act → World → Prop
  | 0, listed, a, w => Region.ready md ops listed = [] ∧ Q .normal a w
  | fuel + 1, listed, a, w =>
    (Region.ready md ops listed = [] → Q .normal a w) ∧
    ∀ i ∈ Region.ready md ops listed, wpOp P ops Q i (fun a' w' => J w' ∧ wpJ P md ops Q J fuel (listed.setIfInBounds i true) a' w') a w
theorem wpJ_any : ∀ (fuel : Nat) (listed : Array Bool) (a : Act) (w : World), wpJ P md ops Q J fuel listed a w → wpAny P md ops Q fuel listed a w
  | 0, _, _, _, h => h
  | fuel + 1, _, _, _, h => ⟨h.1, fun i hi => wpOp_mono (fun a' w' h' => wpJ_any fuel _ a' w' h'.2) (h.2 i hi)⟩

def YieldsJ (P : Program) (ops : Array Oper) (J : World → Prop) (o : Oper) (v : Value) (a : Act) : Prop :=
  (Region.wanted o (yielded ops a.tmps) = true ∧ ∀ w, J w → (execOp a.eval o).run P w = .ok (.value v) w) ∨ (Region.wanted o (yielded ops a.tmps) = false ∧ v = undef)
theorem YieldsJ.wpOp {i : Nat} {o : Oper} {v : Value} {a : Act} (hi : ops[i]? = some o) (hy : YieldsJ P ops J o v a)
    {K : Act → World → Prop} {w : World} (hJ : J w) (h : K (a.put o.dst v) w) : wpOp P ops Q i K a w := by
  unfold Go.wpOp
  simp only [hi]
  rcases hy with ⟨hw, hv⟩ | ⟨hw, rfl⟩
  · simp only [hw, if_true, Oper.wp, hv w hJ, Oper.upon]
    exact .inl h
  · simp only [hw]
    exact h
theorem YieldsJ.of_same {o : Oper} {v : Value} {a a' : Act} (hy : YieldsJ P ops J o v a) (he : execOp a'.eval o = execOp a.eval o)
    (hw : Region.wanted o (yielded ops a'.tmps) = Region.wanted o (yielded ops a.tmps)) : YieldsJ P ops J o v a' := by
  unfold YieldsJ at *
  rw [he, hw]
  exact hy
theorem wpOpJ_put {j : Nat} {oi oj : Oper} {v : Value} (hj : ops[j]? = some oj) (hap : oi.apart ops oj = true)
    (hsi : ∀ cs b, oi.op ≠ .select cs b) (hsj : ∀ cs b, oj.op ≠ .select cs b)
    (hQ : ∀ c a w, Q (.panic c) (a.put oi.dst v) w → Q (.panic c) a w) {K : Act → World → Prop} {a : Act} {w : World}
    (hy : YieldsJ P ops J oi v a) (h : wpOp P ops Q j K (a.put oi.dst v) w) :
    wpOp P ops Q j (fun a' w' => YieldsJ P ops J oi v a' ∧ K (a'.put oi.dst v) w') a w := by
  obtain ⟨h1, h2, h3⟩ := Oper.apart_spec hap
  have keep : ∀ (a : Act), YieldsJ P ops J oi v a → ∀ u, YieldsJ P ops J oi v (a.put oj.dst u) := fun a hy u =>
    hy.of_same (execOp_put oi hsi a oj.dst u h3) (wanted_put oi a oj.dst u h3)
  have keepD : ∀ d, YieldsJ P ops J oi v { a with defers := d :: a.defers } := fun d => hy.of_same rfl rfl
  unfold wpOp at *
  simp only [hj] at *
  rw [wanted_put oj a oi.dst v h1] at h
  split
  · rename_i hw
    simp only [hw, if_true] at h
    rcases h with h | ⟨hasks, hlets⟩
    case inr => exact .inr ⟨by unfold Oper.asks at *; rw [execOp_put oj hsj a oi.dst v h1] at hasks; exact hasks, hlets⟩
    refine .inl ?_
    unfold Oper.wp at *
    rw [execOp_put oj hsj a oi.dst v h1] at h
    generalize (execOp a.eval oj).run P w = r at *
    cases r with
    | ok n w' =>
      cases n <;> simp only [Oper.upon] at h ⊢
      case value u => exact ⟨keep a hy u, by rw [← Act.put_comm a v u h2]; exact h⟩
      case skip => exact ⟨keep a hy _, by rw [← Act.put_comm a v undef h2]; exact h⟩
      case defer d =>
        refine ⟨keep _ (keepD d) _, ?_⟩
        rw [← Act.put_comm _ v undef h2, ← Act.put_defers]
        exact h
      case enter f args =>
        refine Calls.mono h fun e w'' he => ?_
        cases e with
        | returned u => exact ⟨keep a hy u, by rw [← Act.put_comm a v u h2]; exact he⟩
        | panicked c => exact hQ _ _ _ he
        | outgrown => exact he
      case row row args => exact Rows.mono h fun u w'' he => ⟨keep a hy u, by rw [← Act.put_comm a v u h2]; exact he⟩
    | halt x w' =>
      cases x <;> simp only [Oper.upon] at h ⊢
      case panic u => exact hQ _ _ _ h
  · rename_i hw
    simp only [hw] at h
    exact ⟨keep a hy _, by rw [← Act.put_comm a v undef h2]; exact h⟩

theorem wpJ_first {i : Nat} {oi : Oper} {v : Value} (hi : ops[i]? = some oi) (hsel : ∀ (j : Nat) (o : Oper) cs b, ops[j]? = some o → o.op ≠ .select cs b)
    (hQ : ∀ c a w, Q (.panic c) (a.put oi.dst v) w → Q (.panic c) a w) :
    ∀ (fuel : Nat) (listed : Array Bool) (a : Act) (w : World),
      (∀ j oj, ops[j]? = some oj → j ≠ i → listed.getD j true = false → (∀ e ∈ oj.after, Region.binds md e = true → e.on ≠ i) → oi.apart ops oj = true) →
      i ∈ Region.ready md ops listed → YieldsJ P ops J oi v a → J w →
      wpJ P md ops Q J fuel (listed.setIfInBounds i true) (a.put oi.dst v) w → wpJ P md ops Q J (fuel + 1) listed a w := by
  intro fuel
  induction fuel with
  | zero =>
    intro listed a w _ hr hy hJ H
    refine ⟨fun h => (by rw [h] at hr; cases hr), fun j hj => ?_⟩
    by_cases hji : j = i
    · subst hji; exact hy.wpOp hi hJ ⟨hJ, H⟩
    · have := ready_mono hj hji
      rw [H.1] at this
      cases this
  | succ fuel ih =>
    intro listed a w hfree hr hy hJ H
    refine ⟨fun h => (by rw [h] at hr; cases hr), fun j hj => ?_⟩
    by_cases hji : j = i
    · subst hji; exact hy.wpOp hi hJ ⟨hJ, H⟩
    · have h1 := H.2 j (ready_mono hj hji)
      obtain ⟨hjun, oj, hoj, hall⟩ := mem_ready.1 hj
      have hnot : ∀ e ∈ oj.after, Region.binds md e = true → e.on ≠ i := fun e he hb heq => by
        have h1 := hall e he hb
        have h0 := (mem_ready.1 hr).1
        rw [heq] at h1
        rcases Nat.lt_or_ge i listed.size with h' | h'
        · simp [h'] at h0 h1; rw [h0] at h1; cases h1
        · simp [Array.getElem?_eq_none h'] at h1
      have h2 := wpOpJ_put hoj (hfree j oj hoj hji hjun hnot) (fun cs b => hsel i oi cs b hi) (fun cs b => hsel j oj cs b hoj) hQ hy h1
      have hfree' : ∀ k ok, ops[k]? = some ok → k ≠ i → (listed.setIfInBounds j true).getD k true = false →
          (∀ e ∈ ok.after, Region.binds md e = true → e.on ≠ i) → oi.apart ops ok = true := fun k ok hk hki hun hno => by
        refine hfree k ok hk hki ?_ hno
        by_cases hjk : j = k
        · subst hjk; exact hjun
        · rw [getD_set_ne true hjk] at hun; exact hun
      refine wpOp_mono (fun a' w' h3 => ⟨h3.2.1, ih (listed.setIfInBounds j true) a' w' hfree' (ready_mono hr (Ne.symm hji)) h3.1 h3.2.1 ?_⟩) h2
      rw [Array.setIfInBounds_comm _ _ hji]
      exact h3.2.2

theorem wpJ_take {i : Nat} {oi : Oper} {v : Value} {fuel : Nat} {listed : Array Bool} {a : Act} {w : World} (hi : ops[i]? = some oi)
    (hs : Region.noSelect ops = true) (hf : Region.free md ops listed i = true) (hr : (Region.ready md ops listed).contains i = true)
    (hQ : ∀ c a w, Q (.panic c) (a.put oi.dst v) w → Q (.panic c) a w) (hw : Region.wanted oi (yielded ops a.tmps) = true)
    (hy : ∀ w, J w → (execOp a.eval oi).run P w = .ok (.value v) w) (hJ : J w)
    (h : wpJ P md ops Q J fuel (listed.setIfInBounds i true) (a.put oi.dst v) w) : wpJ P md ops Q J (fuel + 1) listed a w :=
  wpJ_first hi (Region.noSelect_spec hs) hQ fuel listed a w (Region.free_spec hi hf) (by simpa using hr) (.inl ⟨hw, hy⟩) hJ h
theorem wpJ_tk (i : Nat) {oi : Oper} {v : Value} {fuel : Nat} {listed : Array Bool} {a : Act} {w : World} (hi : ops[i]? = some oi)
    (hy : ∀ w, J w → (execOp a.eval oi).run P w = .ok (.value v) w) (hJ : J w)
    (h : wpJ P md ops Q J fuel (listed.setIfInBounds i true) (a.put oi.dst v) w) (hs : Region.noSelect ops = true := by kernel_rfl) (hf : Region.free md ops listed i = true := by kernel_rfl)
    (hr : (Region.ready md ops listed).contains i = true := by kernel_rfl) (hQ : ∀ c a w, Q (.panic c) (a.put oi.dst v) w → Q (.panic c) a w := by exact fun _ _ _ h => h)
    (hw : Region.wanted oi (yielded ops a.tmps) = true := by kernel_rfl) : wpJ P md ops Q J (fuel + 1) listed a w := wpJ_take hi hs hf hr hQ hw hy hJ h
theorem wpJ_tq (i : Nat) {oi : Oper} {v : Value} {fuel : Nat} {listed : Array Bool} {a : Act} {w : World} (hi : ops[i]? = some oi) (hJ : J w)
    (h : wpJ P md ops Q J fuel (listed.setIfInBounds i true) (a.put oi.dst v) w)
    (hy : ∀ w, J w → (execOp a.eval oi).run P w = .ok (.value v) w := by (intro W' hJ; repeat (obtain ⟨_, hJ⟩ := hJ); go_simp; first | done | with_reducible rfl)) (hs : Region.noSelect ops = true := by kernel_rfl) (hf : Region.free md ops listed i = true := by kernel_rfl)
    (hr : (Region.ready md ops listed).contains i = true := by kernel_rfl) (hQ : ∀ c a w, Q (.panic c) (a.put oi.dst v) w → Q (.panic c) a w := by exact fun _ _ _ h => h)
    (hw : Region.wanted oi (yielded ops a.tmps) = true := by kernel_rfl) : wpJ P md ops Q J (fuel + 1) listed a w := wpJ_take hi hs hf hr hQ hw hy hJ h
theorem wpJ_skip {i : Nat} {oi : Oper} {fuel : Nat} {listed : Array Bool} {a : Act} {w : World} (hi : ops[i]? = some oi)
    (hs : Region.noSelect ops = true) (hf : Region.free md ops listed i = true) (hr : (Region.ready md ops listed).contains i = true)
    (hQ : ∀ c a w, Q (.panic c) (a.put oi.dst undef) w → Q (.panic c) a w) (hw : Region.wanted oi (yielded ops a.tmps) = false) (hJ : J w)
    (h : wpJ P md ops Q J fuel (listed.setIfInBounds i true) (a.put oi.dst undef) w) : wpJ P md ops Q J (fuel + 1) listed a w :=
  wpJ_first hi (Region.noSelect_spec hs) hQ fuel listed a w (Region.free_spec hi hf) (by simpa using hr) (.inr ⟨hw, rfl⟩) hJ h
theorem wpJ_sk (i : Nat) {oi : Oper} {fuel : Nat} {listed : Array Bool} {a : Act} {w : World} (hi : ops[i]? = some oi) (hJ : J w) (h : wpJ P md ops Q J fuel (listed.setIfInBounds i true) (a.put oi.dst undef) w)
    (hs : Region.noSelect ops = true := by kernel_rfl) (hf : Region.free md ops listed i = true := by kernel_rfl) (hr : (Region.ready md ops listed).contains i = true := by kernel_rfl)
    (hQ : ∀ c a w, Q (.panic c) (a.put oi.dst undef) w → Q (.panic c) a w := by exact fun _ _ _ h => h) (hw : Region.wanted oi (yielded ops a.tmps) = false := by kernel_rfl) : wpJ P md ops Q J (fuel + 1) listed a w := wpJ_skip hi hs hf hr hQ hw hJ h
theorem wpJ_one {i : Nat} {o : Oper} {fuel : Nat} {listed : Array Bool} {a : Act} {w : World} (hr : Region.ready md ops listed = [i]) (ho : ops[i]? = some o)
    (hw : Region.wanted o (yielded ops a.tmps) = true)
    (h : ∀ K : Act → World → Prop, (∀ a' w', J w' → wpJ P md ops Q J fuel (listed.setIfInBounds i true) a' w' → K a' w') → Oper.wp P o a w K Q) : wpJ P md ops Q J (fuel + 1) listed a w := by
  refine ⟨fun h => (by rw [hr] at h; cases h), fun j hj => ?_⟩
  rw [hr] at hj
  obtain rfl : j = i := by simpa using hj
  unfold wpOp
  simp only [ho, hw, if_true]
  exact .inl (h _ fun a' w' h1 h2 => ⟨h1, h2⟩)
theorem wpJ_on (i : Nat) {o : Oper} {fuel : Nat} {listed : Array Bool} {a : Act} {w : World} (ho : ops[i]? = some o)
    (h : ∀ K : Act → World → Prop, (∀ a' w', J w' → wpJ P md ops Q J fuel (listed.setIfInBounds i true) a' w' → K a' w') → Oper.wp P o a w K Q) (hr : Region.ready md ops listed = [i] := by kernel_rfl)
    (hw : Region.wanted o (yielded ops a.tmps) = true := by kernel_rfl) : wpJ P md ops Q J (fuel + 1) listed a w := wpJ_one hr ho hw h
theorem wpJ_done {listed : Array Bool} {a : Act} {w : World} (hr : Region.ready md ops listed = []) (h : Q .normal a w) : ∀ fuel, wpJ P md ops Q J fuel listed a w
  | 0 => ⟨hr, h⟩
  | _ + 1 => ⟨fun _ => h, by rw [hr]; simp⟩
theorem wp_region_J (J : World → Prop) {id : Nat} {a : Act} {w : World} (hm : P.follows .mixedOrders = true)
    (h : wpJ P .any ops Q J ops.size (Array.replicate ops.size false) a w.drew) : (Code.region id ops true).wp P Q a w :=
  wp_region_any hm (wpJ_any _ _ _ _ h)
variable {P : Program} {md : Region.Mode} {ops : Array Oper} {Q : Exit → Act → World → Prop} {J : World → Prop} {L : Nat}

def ClosedL (md : Region.Mode) (ops : Array Oper) (listed : Array Bool) : Prop :=
  ∀ (k : Nat) (o : Oper), ops[k]? = some o → listed.getD k false = true → ∀ e ∈ o.after, Region.binds md e = true → listed.getD e.on false = true
theorem ClosedL.step {listed : Array Bool} (h : ClosedL md ops listed) {j : Nat} (hj : j ∈ Region.ready md ops listed) : ClosedL md ops (listed.setIfInBounds j true) := by
  intro k o ho hk e he hb
  obtain ⟨h0, oj, hoj, hall⟩ := mem_ready.1 hj
  by_cases hjk : j = k
  · subst hjk
    rw [hoj] at ho
    obtain rfl := Option.some.inj ho
    exact getD_set_true (hall e he hb)
  · rw [getD_set_ne false hjk] at hk
    exact getD_set_true (h k o ho hk e he hb)
end Go.Proofs.YtglkjbkpgfencaaGreatDoor
namespace Go.Proofs.YtglkjbkpgfencaaGreatDoor
open Go.RowKit Go.Shelf
set_option maxRecDepth 20000
set_option maxHeartbeats 0
structure B1t (W : World) (g : Nat) (v0 : Value) : Prop where
  c0 : W.cell? ⟨g, 0, none⟩ = some v0
  f0 : W.frozen? ⟨g, 0, none⟩ = false
theorem B1t.lt {W : World} {g : Nat} {v0 : Value} (h : B1t W g v0) : g < W.heap.size := World.block_lt_of_cell? W _ h.c0
theorem B1t.below {W W' : World} {g : Nat} {v0 : Value} (h : B1t W g v0) (hb : Below W.heap.size W W') : B1t W' g v0 := ⟨(hb.cell (p := ⟨g, 0, none⟩) h.lt).trans h.c0, (hb.frozen (p := ⟨g, 0, none⟩) h.lt).trans h.f0⟩
theorem B1t.new (w : World) (ty : TypeId) (v0 : Value) : B1t (w.alloc (.cells #[v0] ty)) w.heap.size v0 := ⟨by go_simp, by go_simp⟩
theorem B1t.put {W : World} {g : Nat} {v0 : Value} (h : B1t W g v0) (v : Value) : B1t (W.setCell ⟨g, 0, none⟩ v) g v := by
  obtain ⟨c0, f0⟩ := h
  exact ⟨by go_simp, by go_simp⟩
def bs (l : List UInt8) : ByteArray := ⟨l.toArray⟩
theorem bs_data (l : List UInt8) : (bs l).data.toList = l := rfl
theorem cutp_c (l p : List UInt8) (w : World) :
    Calls Tryz.prog 84 #[.string (bs l), .string (bs p)] w fun e w' => e = .returned (.tuple #[.string (bs (Lib.trimPrefix l p)), .bool (Lib.hasPrefix l p)]) ∧ w' = w := Any.strings_CutPrefix laysn103 (bs l) (bs p) w
theorem triml_c (l p : List UInt8) (w : World) (h1 : p.length < 4294967281) (h2 : ∀ (j : Nat) b, p[j]? = some b → b.toNat < 128) :
    Calls Tryz.prog 88 #[.string (bs l), .string (bs p)] w fun e w' => e = .returned (.string (bs (Lib.trimLeftS l p))) ∧ Below w.heap.size w w' := Any.strings_TrimLeft_laid laysn161 (by kernel_rfl) (bs l) (bs p) w h1 h2
theorem bs_beq (l p : List UInt8) : ((bs l).toList == (bs p).toList) = decide (l = p) := by
  rw [Lib.toList_data, Lib.toList_data, bs_data, bs_data]
  by_cases h : l = p
  · subst h; simp
  · simp [h]
def takesF : List (List UInt8) → List UInt8 → Option (List UInt8)
  | [], _ => none
  | p :: ps, l => if Lib.hasPrefix l p then some (l.drop p.length) else takesF ps l
theorem takesF_snoc {ps : List (List UInt8)} {p l : List UInt8} (h : takesF ps l = none) : takesF (ps ++ [p]) l = if Lib.hasPrefix l p then some (l.drop p.length) else none := by
  induction ps with
  | nil => rfl
  | cons q qs ih =>
    unfold takesF at h
    split at h
    · cases h
    · rename_i hq
      show (if Lib.hasPrefix l q then _ else takesF (qs ++ [p]) l) = _
      rw [if_neg hq]; exact ih h
theorem takesF_take {ps : List (List UInt8)} {l r : List UInt8} {i : Nat} (h : takesF (ps.take i) l = some r) : takesF ps l = some r := by
  induction ps generalizing i with
  | nil => simp [takesF] at h
  | cons p qs ih =>
    cases i with
    | zero => simp [takesF] at h
    | succ k =>
      have h1 : (if Lib.hasPrefix l p then some (l.drop p.length) else takesF (qs.take k) l) = some r := h
      show (if Lib.hasPrefix l p then some (l.drop p.length) else takesF qs l) = some r
      split at h1
      · rename_i hp; rw [if_pos hp]; exact h1
      · rename_i hp; rw [if_neg hp]; exact ih h1
theorem is_ok {g : Nat} {l p : List UInt8} {w : World} (h : B1t w g (.string (bs l))) :
    Calls Tryz.prog 21 #[.pointer (some ⟨g, 0, none⟩), .string (bs p)] w fun en w' => en = .returned (.bool (decide (l = p))) ∧ w' = w := by
  obtain ⟨c0, f0⟩ := h
  go_enter Tryz.func21, Tryz.ntmps21
  go_wp2_with fail
  go_ret
  refine ⟨?_, rfl⟩
  show Ending.returned (.bool ((bs l).toList == (bs p).toList)) = _
  rw [bs_beq]
theorem takes_ok {g gw N C : Nat} {l : List UInt8} {ps : List (List UInt8)} {w : World} (h : B1t w g (.string (bs l))) (hc : ∀ j, j < ps.length → w.cell? ⟨gw, j, none⟩ = some (.string (bs (ps.getD j [])))) (hN : N = ps.length) (hN2 : N ≤ 10) :
    Calls Tryz.prog 51 #[.pointer (some ⟨g, 0, none⟩), .slice (some ⟨gw, 0, none⟩) N C] w fun en w' => (takesF ps l = none ∧ en = .returned (.bool false) ∧ w' = w) ∨ (∃ r, takesF ps l = some r ∧ en = .returned (.bool true) ∧ w' = w.setCell ⟨g, 0, none⟩ (.string (bs r))) := by
  have H : Hid (B1t w g (.string (bs l)) ∧ (∀ j, j < ps.length → w.cell? ⟨gw, j, none⟩ = some (.string (bs (ps.getD j [])))) ∧ N = ps.length) := ⟨h, hc, hN⟩
  clear h hc hN
  go_enter Tryz.func51, Tryz.ntmps51
  go_wp2_with fail
  go_loopg [11] N (fun gk iv wr => ∃ (i : Nat), i + gk = N ∧ iv = .int .i64 i ∧ takesF (ps.take i) l = none ∧ wr = w)
  case atStart => exact ⟨0, by omega, rfl, rfl, rfl⟩
  case round =>
    obtain ⟨i, hig, rfl, ht, rfl⟩ := hrel
    cases gk with
    | zero =>
      obtain rfl : i = N := by omega
      have hnk : ¬ (i : Int) < (i : Int) := by omega
      have HT : Hid (takesF ps l = none) := by have h9 := ht; rw [H.out.2.2, List.take_length] at h9; exact h9
      clear ht
      go_wp2_with fail
      go_ret
      exact .inl ⟨HT.out, rfl, rfl⟩
    | succ gi =>
      have hil : (i : Int) < (N : Int) := by omega
      have hi0 : (0 : Int) ≤ (i : Int) ∧ (i : Int) < (N : Int) := by omega
      have HIN : Hid (i < ps.length) := by rw [← H.out.2.2]; show _ < _; omega
      have HTS : Hid (takesF (ps.take (i + 1)) l = if Lib.hasPrefix l (ps.getD i []) then some (l.drop (ps.getD i []).length) else none) := by rw [List.take_succ_eq_append_getElem HIN.out, takesF_snoc ht, List.getD_eq_getElem?_getD, List.getElem?_eq_getElem HIN.out]; rfl
      have HTA : Hid (∀ r, takesF (ps.take (i + 1)) l = some r → takesF ps l = some r) := fun r hr => takesF_take hr
      have hcx := H.out.2.1 i HIN.out
      obtain ⟨c0, f0⟩ := H.out.1
      generalize ps.getD i [] = q at *
      have wi : wrap64 ((i : Int) + 1) = ((i + 1 : Nat) : Int) := by simp only [wrap64]; omega
      clear ht
      go_wp2_with fail
      refine (cutp_c l q _).mono ?_
      rintro e w' ⟨rfl, hw⟩
      obtain rfl := hw.symm
      clear hw
      cases hp : Lib.hasPrefix l q
      · have HX : Hid (takesF (ps.take (i + 1)) l = none) := by have h9 := HTS.out; rw [hp] at h9; exact h9
        clear hp
        go_wp2_with fail
        go_roundg gi
        case measure => omega
        case rel => exact ⟨i + 1, by omega, by go_num, HX.out, rfl⟩
      · have HX : Hid (takesF ps l = some (Lib.trimPrefix l q)) := by have h9 := HTS.out; rw [hp] at h9; refine HTA.out _ (h9.trans ?_); unfold Lib.trimPrefix; rw [hp]; rfl
        clear hp
        go_wp2_with fail
        go_ret
        exact .inr ⟨_, HX.out, rfl, rfl⟩
abbrev FltV (n : Int) : Value := .iface 54 (.agg #[.int .i64 n])
theorem gb {w w' : World} {g : Nat} (h : Below w.heap.size w w') : w.grownBy w' (some g) := ⟨h.os, h.tape, h.output, h.size, fun i hi _ => h.block i hi⟩
theorem gbSet {w w' : World} {g : Nat} (h : w.grownBy w' (some g)) (o : Nat) (v : Value) : w.grownBy (w'.setCell ⟨g, o, none⟩ v) (some g) :=
  ⟨h.os, h.tape, h.output, by simpa [World.setCell] using h.size, fun k hk hne => (RowKit.Below.heap_setCell _ _ _ _ (by intro e; exact hne (by rw [e]))).trans (h.block k hk hne)⟩
theorem gbBelow {w w' : World} {g B : Nat} (h : w.grownBy w' (some g)) (hg : B ≤ g) (hB : B ≤ w.heap.size) : Below B w w' := (Below.refl B w).grown h hB (by intro k e; cases e; exact hg)
def Gave (n : Int) (w w' : World) (en : Ending) (B : Nat) : Prop := en = .panicked [{ v := FltV n, recovered := false }] ∧ Below B w w'
theorem lit_w1 (w : World) (ty : TypeId) (p : List UInt8) : ∀ j, j < [p].length → (w.alloc (.cells #[.string (bs p)] ty)).cell? ⟨w.heap.size, j, none⟩ = some (.string (bs ([p].getD j []))) := by
  intro j hj
  obtain rfl : j = 0 := by have : j < 1 := hj; omega
  exact World.cell?_alloc_new ..
theorem lit_w2 (w : World) (ty : TypeId) (p q : List UInt8) : ∀ j, j < [p, q].length → (w.alloc (.cells #[.string (bs p), .string (bs q)] ty)).cell? ⟨w.heap.size, j, none⟩ = some (.string (bs ([p, q].getD j []))) := by
  intro j hj
  have hj : j < 2 := hj
  have h2 : j = 0 ∨ j = 1 := by omega
  rcases h2 with rfl | rfl <;> exact World.cell?_alloc_new ..
theorem emp0 : (bs ([] : List UInt8)).toList.isEmpty = true := by rw [Lib.toList_data]; rfl
theorem emp1 {l : List UInt8} (h : l ≠ []) : (bs l).toList.isEmpty = false := by
  rw [Lib.toList_data, bs_data]
  cases l with
  | nil => exact absurd rfl h
  | cons _ _ => rfl
theorem trimS_len (l p : List UInt8) : (Lib.trimLeftS l p).length ≤ l.length := by
  unfold Lib.trimLeftS
  exact (List.dropWhile_sublist _).length_le
theorem bs_size (l : List UInt8) : (bs l).size = l.length := List.size_toArray
theorem wsub (n j : Nat) (h : j ≤ n) (hb : n ≤ 9223372036854775807) : IntKind.i64.wrap ((n : Int) - (j : Int)) = ((n - j : Nat) : Int) := by
  simp [IntKind.wrap, IntKind.signed, IntKind.bits]
  omega
theorem bs_take (l : List UInt8) (n : Nat) : (bs l).extract 0 n = bs (l.take n) := by
  apply ByteArray.ext
  apply Array.ext'
  rw [Lib.extract_data, bs_data, bs_data, List.drop_zero, Nat.sub_zero]
theorem takeW (l p : List UInt8) : l.take (l.length - (Lib.trimLeftS l p).length) = l.takeWhile (p.contains ·) := by
  have h := List.takeWhile_append_dropWhile (p := (p.contains ·)) (l := l)
  have hl : l.length = (l.takeWhile (p.contains ·)).length + (l.dropWhile (p.contains ·)).length := by rw [← List.length_append, h]
  unfold Lib.trimLeftS
  rw [show l.length - (l.dropWhile (p.contains ·)).length = (l.takeWhile (p.contains ·)).length by omega]
  have h3 : (l.takeWhile (p.contains ·) ++ l.dropWhile (p.contains ·)).take (l.takeWhile (p.contains ·)).length = l.takeWhile (p.contains ·) := List.take_left
  rwa [h] at h3
def minusF (l : List UInt8) : Bool × List UInt8 := if Lib.hasPrefix l [43] then (false, l.drop 1) else if Lib.hasPrefix l [45] then (true, l.drop 1) else (false, l)
theorem giveUp_ok (w : World) :
    Calls Tryz.prog 86 #[] w fun en w' => Gave 8 w w' en w.heap.size := by
  unfold Gave
  go_enter Tryz.func86, Tryz.ntmps86
  go_wp2_with fail
  exact ⟨rfl, rfl, Below.refl _ _⟩
theorem end_y {g : Nat} {w : World} (h : B1t w g (.string (bs []))) :
    Calls Tryz.prog 56 #[.pointer (some ⟨g, 0, none⟩)] w fun en w' => en = .returned (.tuple #[]) ∧ w' = w := by
  obtain ⟨c0, f0⟩ := h
  have he := emp0
  go_enter Tryz.func56, Tryz.ntmps56
  go_wp2_with fail
  refine bodyPost_end (results_none rfl _ _ _) rfl ?_
  exact ⟨rfl, rfl⟩
theorem end_n {g : Nat} {l : List UInt8} {w : World} (h : B1t w g (.string (bs l))) (hl : l ≠ []) :
    Calls Tryz.prog 56 #[.pointer (some ⟨g, 0, none⟩)] w fun en w' => Gave 8 w w' en w.heap.size := by
  obtain ⟨c0, f0⟩ := h
  have he := emp1 hl
  clear hl
  go_enter Tryz.func56, Tryz.ntmps56
  go_wp2_with fail
  refine (giveUp_ok w).mono ?_
  rintro e w' ⟨rfl, hb⟩
  exact ⟨rfl, rfl, hb⟩
theorem needs_ok {g gw N C : Nat} {l : List UInt8} {ps : List (List UInt8)} {w : World} (h : B1t w g (.string (bs l))) (hc : ∀ j, j < ps.length → w.cell? ⟨gw, j, none⟩ = some (.string (bs (ps.getD j [])))) (hN : N = ps.length) (hN2 : N ≤ 10) :
    Calls Tryz.prog 53 #[.pointer (some ⟨g, 0, none⟩), .slice (some ⟨gw, 0, none⟩) N C] w fun en w' => (takesF ps l = none ∧ Gave 8 w w' en w.heap.size) ∨ (∃ r, takesF ps l = some r ∧ en = .returned (.tuple #[]) ∧ w' = w.setCell ⟨g, 0, none⟩ (.string (bs r))) := by
  have H := takes_ok (C := C) h hc hN hN2
  clear h hc hN hN2
  go_enter Tryz.func53, Tryz.ntmps53
  go_wp2_with fail
  refine H.mono ?_
  rintro e w1 (⟨ht, rfl, rfl⟩ | ⟨r, ht, rfl, rfl⟩)
  · have HT : Hid (takesF ps l = none) := ht
    clear H ht
    go_wp2_with fail
    refine (giveUp_ok _).mono ?_
    rintro e w' ⟨rfl, hb⟩
    exact ⟨rfl, .inl ⟨HT.out, rfl, hb⟩⟩
  · have HT : Hid (takesF ps l = some r) := ht
    clear H ht
    go_wp2_with fail
    refine bodyPost_end (results_none rfl _ _ _) rfl ?_
    exact .inr ⟨r, HT.out, rfl, rfl⟩
theorem minus_ok {g B : Nat} {l : List UInt8} {w : World} (h : B1t w g (.string (bs l))) (hB : B ≤ g) :
    Calls Tryz.prog 23 #[.pointer (some ⟨g, 0, none⟩)] w fun en w' => en = .returned (.bool (minusF l).1) ∧ B1t w' g (.string (bs (minusF l).2)) ∧ w.grownBy w' (some g) := by
  have H : Hid (B1t w g (.string (bs l)) ∧ B ≤ g) := ⟨h, hB⟩
  clear h hB
  go_enter Tryz.func23, Tryz.ntmps23
  go_wp2_with fail
  refine (takes_ok (ps := [[43]]) (H.out.1.below (below1 w (.cells #[.string (bs [43])] 9))) (lit_w1 w 9 [43]) rfl (by decide)).mono ?_
  rintro e w1 (⟨ht, rfl, rfl⟩ | ⟨r, ht, rfl, rfl⟩)
  · have HP : Hid (Lib.hasPrefix l [43] = false) := by cases hp : Lib.hasPrefix l [43] with | false => rfl | true => unfold takesF at ht; rw [hp] at ht; cases ht
    clear ht
    have hb0 : Below w.heap.size w (w.alloc (.cells #[.string (bs [43])] 9)) := below1 w _
    obtain ⟨W0, hW0⟩ : ∃ W0, W0 = (w.alloc (.cells #[.string (bs [43])] 9)) := ⟨_, rfl⟩
    have XT : Hid (B1t W0 g (.string (bs l))) := by rw [hW0]; exact H.out.1.below hb0
    have HB0 : Hid (w.grownBy W0 (some g)) := by rw [hW0]; exact gb hb0
    rw [← hW0]
    clear hW0 hb0
    go_wp2_with fail
    refine (takes_ok (ps := [[45]]) (XT.out.below (below1 W0 (.cells #[.string (bs [45])] 9))) (lit_w1 W0 9 [45]) rfl (by decide)).mono ?_
    rintro e w1 (⟨ht, rfl, rfl⟩ | ⟨r, ht, rfl, rfl⟩)
    · have HP2 : Hid (minusF l = (false, l)) := by cases hp : Lib.hasPrefix l [45] with | false => unfold minusF; rw [HP.out, hp]; rfl | true => unfold takesF at ht; rw [hp] at ht; cases ht
      clear ht
      have hb1 : Below W0.heap.size W0 (W0.alloc (.cells #[.string (bs [45])] 9)) := below1 W0 _
      have XT2 : Hid (B1t (W0.alloc (.cells #[.string (bs [45])] 9)) g (.string (bs l))) := XT.out.below hb1
      have HB1 : Hid (w.grownBy (W0.alloc (.cells #[.string (bs [45])] 9)) (some g)) := HB0.out.trans (gb hb1)
      clear hb1
      go_wp2_with fail
      go_ret
      rw [HP2.out]
      exact ⟨rfl, XT2.out, HB1.out⟩
    · have HP2 : Hid (minusF l = (true, r)) := by cases hp : Lib.hasPrefix l [45] with | true => unfold takesF at ht; rw [hp] at ht; unfold minusF; rw [HP.out, hp]; cases ht; rfl | false => unfold takesF at ht; rw [hp] at ht; cases ht
      clear ht
      have hb1 : Below W0.heap.size W0 (W0.alloc (.cells #[.string (bs [45])] 9)) := below1 W0 _
      have XT2 : Hid (B1t ((W0.alloc (.cells #[.string (bs [45])] 9)).setCell ⟨g, 0, none⟩ (.string (bs r))) g (.string (bs r))) := (XT.out.below hb1).put _
      have HB1 : Hid (w.grownBy ((W0.alloc (.cells #[.string (bs [45])] 9)).setCell ⟨g, 0, none⟩ (.string (bs r))) (some g)) := gbSet (HB0.out.trans (gb hb1)) 0 _
      clear hb1
      go_wp2_with fail
      go_ret
      rw [HP2.out]
      exact ⟨rfl, XT2.out, HB1.out⟩
  · have HP2 : Hid (minusF l = (false, r)) := by cases hp : Lib.hasPrefix l [43] with | true => unfold takesF at ht; rw [hp] at ht; unfold minusF; rw [hp]; cases ht; rfl | false => unfold takesF at ht; rw [hp] at ht; cases ht
    clear ht
    have hb1 : Below w.heap.size w (w.alloc (.cells #[.string (bs [43])] 9)) := below1 w _
    have XT2 : Hid (B1t ((w.alloc (.cells #[.string (bs [43])] 9)).setCell ⟨g, 0, none⟩ (.string (bs r))) g (.string (bs r))) := (H.out.1.below hb1).put _
    have HB1 : Hid (w.grownBy ((w.alloc (.cells #[.string (bs [43])] 9)).setCell ⟨g, 0, none⟩ (.string (bs r))) (some g)) := gbSet (gb hb1) 0 _
    clear hb1
    go_wp2_with fail
    go_ret
    rw [HP2.out]
    exact ⟨rfl, XT2.out, HB1.out⟩
theorem run_ok {g B : Nat} {l p : List UInt8} {w : World} (h : B1t w g (.string (bs l))) (hB : B ≤ g) (h1 : p.length < 4294967281) (h2 : ∀ (j : Nat) b, p[j]? = some b → b.toNat < 128) (hl : l.length ≤ 100000) :
    Calls Tryz.prog 87 #[.pointer (some ⟨g, 0, none⟩), .string (bs p)] w fun en w' => en = .returned (.string (bs (l.takeWhile (p.contains ·)))) ∧ B1t w' g (.string (bs (Lib.trimLeftS l p))) ∧ w.grownBy w' (some g) := by
  have H : Hid (B1t w g (.string (bs l)) ∧ B ≤ g ∧ l.length ≤ 100000) := ⟨h, hB, hl⟩
  have HT := triml_c l p w h1 h2
  clear hB h1 h2 hl
  obtain ⟨c0, f0⟩ := h
  go_enter Tryz.func87, Tryz.ntmps87
  go_wp2_with fail
  refine HT.mono ?_
  rintro e w1 ⟨rfl, hb⟩
  have X1 : Hid (B1t w1 g (.string (bs l))) := H.out.1.below hb
  have HB1 : Hid (w.grownBy w1 (some g)) := gb hb
  clear HT hb c0 f0
  obtain ⟨c0, f0⟩ := X1.out
  go_wp2_with fail
  have hbw : Below w1.heap.size w1 w1 := Below.refl _ _
  have HBl : Hid (B ≤ w1.heap.size) := by have := X1.out.lt; have := H.out.2.1; show _ ≤ _; omega
  have Xt := X1
  clear X1 c0 f0
  have hle := trimS_len l p
  obtain ⟨n, hn⟩ : ∃ n, n = l.length - (Lib.trimLeftS l p).length := ⟨_, rfl⟩
  have hd : IntKind.i64.wrap ((((bs l).size : Nat) : Int) - (((bs (Lib.trimLeftS l p)).size : Nat) : Int)) = ((n : Nat) : Int) := by rw [bs_size, bs_size, hn]; have := H.out.2.2; exact wsub _ _ hle (by omega)
  have hnl : n ≤ (bs l).size := by rw [bs_size, hn]; omega
  have HN : Hid (n = l.length - (Lib.trimLeftS l p).length ∧ (Lib.trimLeftS l p).length ≤ l.length) := ⟨hn, hle⟩
  clear hn hle
  obtain ⟨W2, hW2⟩ : ∃ W1, W1 = w1.drew := ⟨_, rfl⟩
  have hbd : Below w1.heap.size w1 W2 := by rw [hW2]; exact bDrew1 (Below.refl _ _)
  replace Xt : Hid (B1t W2 g (.string (bs l))) := Xt.out.below hbd
  replace hbw := Below.on hbw hbd
  clear hbd
  have HJ : Hid ((fun W' : World => W'.cell? ⟨g, 0, none⟩ = some (.string (bs l))) W2) := Xt.out.c0
  refine wp_region_J (fun W' => W'.cell? ⟨g, 0, none⟩ = some (.string (bs l))) (by kernel_rfl) ?_
  rw [← hW2]
  clear hW2
  refine wpJ_tk 0 (v := ?v1x0) rfl ?hy1x0 HJ.out ?_
  case hy1x0 => (intro W' hJ; have j0 := hJ; go_simp; first | done | with_reducible rfl)
  refine wpJ_tk 1 (v := ?v2x1) rfl ?hy2x1 HJ.out ?_
  case hy2x1 => (intro W' hJ; have j0 := hJ; go_simp; first | done | with_reducible rfl)
  refine wpJ_tk 2 (v := ?v3x2) rfl ?hy3x2 HJ.out ?_
  case hy3x2 => (intro W' hJ; have j0 := hJ; go_simp; first | done | with_reducible rfl)
  refine wpJ_tk 3 (v := ?v4x3) rfl ?hy4x3 HJ.out ?_
  case hy4x3 => (intro W' hJ; have j0 := hJ; go_simp; first | done | with_reducible rfl)
  refine wpJ_tk 4 (v := ?v5x4) rfl ?hy5x4 HJ.out ?_
  case hy5x4 => (intro W' hJ; have j0 := hJ; go_simp; first | done | with_reducible rfl)
  refine wpJ_tk 5 (v := ?v6x5) rfl ?hy6x5 HJ.out ?_
  case hy6x5 => (intro W' hJ; have j0 := hJ; go_simp; first | done | with_reducible rfl)
  refine wpJ_tk 6 (v := ?v7x6) rfl ?hy7x6 HJ.out ?_
  case hy7x6 => (intro W' hJ; have j0 := hJ; go_simp; first | done | with_reducible rfl)
  refine wpJ_tk 7 (v := ?v8x7) rfl ?hy8x7 HJ.out ?_
  case hy8x7 => (intro W' hJ; have j0 := hJ; go_simp; first | done | with_reducible rfl)
  refine wpJ_tk 8 (v := ?v9x8) rfl ?hy9x8 HJ.out ?_
  case hy9x8 => (intro W' hJ; have j0 := hJ; go_simp; first | done | with_reducible rfl)
  refine wpJ_tk 9 (v := ?v10x9) rfl ?hy10x9 HJ.out ?_
  case hy10x9 => (intro W' hJ; have j0 := hJ; go_simp; first | done | with_reducible rfl)
  refine wpJ_tk 10 (v := ?v11x10) rfl ?hy11x10 HJ.out ?_
  case hy11x10 => (intro W' hJ; have j0 := hJ; go_simp; first | done | with_reducible rfl)
  refine wpJ_tk 11 (v := ?v12x11) rfl ?hy12x11 HJ.out ?_
  case hy12x11 => (intro W' hJ; have j0 := hJ; go_simp; first | done | with_reducible rfl)
  refine wpJ_tk 12 (v := ?v13x12) rfl ?hy13x12 HJ.out ?_
  case hy13x12 => (intro W' hJ; have j0 := hJ; go_simp; first | done | with_reducible rfl)
  refine wpJ_tk 13 (v := ?v14x13) rfl ?hy14x13 HJ.out ?_
  case hy14x13 => (intro W' hJ; have j0 := hJ; go_simp; first | done | with_reducible rfl)
  refine wpJ_done (by kernel_rfl) ?_ _
  clear HJ
  obtain ⟨ct0, ft0⟩ := Xt.out
  have hnet : g < W2.heap.size := World.block_lt_of_cell? W2 _ ct0
  go_wp2_with fail
  clear ct0 ft0 hnet
  go_ret
  rw [bs_take, HN.out.1, takeW]
  exact ⟨rfl, Xt.out.put _, gbSet (HB1.out.trans (gb hbw)) 0 _⟩
def digsF (p l : List UInt8) : List UInt8 × Nat × List UInt8 :=
  match takesF [[46]] (Lib.trimLeftS l p) with
  | none => (l.takeWhile (p.contains ·), 0, Lib.trimLeftS l p)
  | some r2 => (l.takeWhile (p.contains ·) ++ r2.takeWhile (p.contains ·), (r2.takeWhile (p.contains ·)).length, Lib.trimLeftS r2 p)
theorem takes_len {ps : List (List UInt8)} {l r : List UInt8} (h : takesF ps l = some r) : r.length ≤ l.length := by
  induction ps with
  | nil => cases h
  | cons p ps ih =>
    unfold takesF at h
    split at h
    · cases h; rw [List.length_drop]; omega
    · exact ih h
theorem tw_len {l d : List UInt8} {f : UInt8 → Bool} {n : Nat} (h : d = l.takeWhile f) (hl : l.length ≤ n) : d.length ≤ n := by
  rw [h]; exact Nat.le_trans (List.takeWhile_sublist _).length_le hl
theorem asc48 : ∀ (j : Nat) b, ([48] : List UInt8)[j]? = some b → b.toNat < 128 := by
  intro j b h
  cases j with
  | zero => cases h; decide
  | succ j => cases h
theorem bs_cat (l p : List UInt8) : bs l ++ bs p = bs (l ++ p) := by
  apply ByteArray.ext
  apply Array.ext'
  rw [ByteArray.data_append]
  simp [bs]
theorem cat_run (l p : List UInt8) (W : World) (h : l.length + p.length ≤ 1000000) : (Op.stringOp .add (bs l) (bs p)).run Tryz.prog W = .ok (.string (bs (l ++ p))) W := by
  rw [run_string_add_sum W _ _ (by rw [bs_size, bs_size]; omega), bs_cat]
theorem open_long {l : List UInt8} {w : World} (hl : 4000 < l.length) :
    Calls Tryz.prog 20 #[.string (bs l)] w fun en w' => Gave 7 w w' en w.heap.size := by
  unfold Gave
  have hd : decide ((4000 : Int) < (((bs l).size : Nat) : Int)) = true := decide_eq_true (by rw [bs_size]; omega)
  clear hl
  go_enter Tryz.func20, Tryz.ntmps20
  go_wp2_with fail
  exact ⟨rfl, rfl, Below.refl _ _⟩
theorem open_ok {l : List UInt8} {w : World} (hl : l.length ≤ 4000) :
    Calls Tryz.prog 20 #[.string (bs l)] w fun en w' => ∃ g, en = .returned (.pointer (some ⟨g, 0, none⟩)) ∧ w.heap.size ≤ g ∧ B1t w' g (.string (bs l)) ∧ Below w.heap.size w w' := by
  have hd : decide ((4000 : Int) < (((bs l).size : Nat) : Int)) = false := decide_eq_false (by rw [bs_size]; omega)
  clear hl
  go_enter Tryz.func20, Tryz.ntmps20
  go_wp2_with fail
  go_ret
  exact ⟨_, rfl, Nat.le_refl _, B1t.new w _ _, below1 w _⟩
theorem digits_ok {g B : Nat} {l p : List UInt8} {w : World} (h : B1t w g (.string (bs l))) (hB : B ≤ g) (h1 : p.length < 4294967281) (h2 : ∀ (j : Nat) b, p[j]? = some b → b.toNat < 128) (hl : l.length ≤ 100000) :
    Calls Tryz.prog 54 #[.pointer (some ⟨g, 0, none⟩), .string (bs p)] w fun en w' => ((digsF p l).1 = [] ∧ Gave 8 w w' en B) ∨ ((digsF p l).1 ≠ [] ∧ en = .returned (.tuple #[.string (bs (Lib.trimLeftS (digsF p l).1 [48])), .int .i64 ((digsF p l).2.1 : Nat)]) ∧ B1t w' g (.string (bs (digsF p l).2.2)) ∧ w.grownBy w' (some g)) := by
  have H : Hid (B1t w g (.string (bs l)) ∧ B ≤ g ∧ l.length ≤ 100000) := ⟨h, hB, hl⟩
  have HP : Hid (p.length < 4294967281 ∧ ∀ (j : Nat) b, p[j]? = some b → b.toNat < 128) := ⟨h1, h2⟩
  clear h hB h1 h2 hl
  go_enter Tryz.func54, Tryz.ntmps54
  go_wp2_with fail
  refine (run_ok H.out.1 H.out.2.1 HP.out.1 HP.out.2 H.out.2.2).mono ?_
  rintro e w1 ⟨rfl, hx, hb⟩
  obtain ⟨d, hd⟩ : ∃ d, d = l.takeWhile (p.contains ·) := ⟨_, rfl⟩
  obtain ⟨r, hr⟩ : ∃ r, r = Lib.trimLeftS l p := ⟨_, rfl⟩
  rw [← hd]
  rw [← hr] at hx
  have HD : Hid (d = l.takeWhile (p.contains ·) ∧ r = Lib.trimLeftS l p ∧ r.length ≤ l.length ∧ d.length ≤ l.length ∧ B ≤ w1.heap.size) := ⟨hd, hr, by rw [hr]; exact trimS_len l p, by rw [hd]; exact (List.takeWhile_sublist _).length_le, by have := hx.lt; have := H.out.2.1; omega⟩
  have X1 : Hid (B1t w1 g (.string (bs r))) := hx
  have HB1 : Hid (w.grownBy w1 (some g)) := hb
  clear hd hr hx hb
  go_wp2_with fail
  refine (takes_ok (ps := [[46]]) (X1.out.below (below1 w1 (.cells #[.string (bs [46])] 9))) (lit_w1 w1 9 [46]) rfl (by decide)).mono ?_
  rintro e w2 (⟨ht, rfl, rfl⟩ | ⟨r2, ht, rfl, rfl⟩)
  · have HV : Hid (digsF p l = (d, 0, r)) := by unfold digsF; rw [← HD.out.1, ← HD.out.2.1, ht]; rfl
    clear ht
    obtain ⟨V0, hV0⟩ : ∃ W0, W0 = (w1.alloc (.cells #[.string (bs [46])] 9)) := ⟨_, rfl⟩
    have X2 : Hid (B1t V0 g (.string (bs r))) := by rw [hV0]; exact X1.out.below (below1 w1 _)
    have HB2 : Hid (w.grownBy V0 (some g) ∧ B ≤ V0.heap.size) := by
      have hb2 : w1.grownBy (w1.alloc (.cells #[.string (bs [46])] 9)) (some g) := gb (below1 w1 _)
      have h3 : w.grownBy V0 (some g) := by rw [hV0]; exact HB1.out.trans hb2
      refine ⟨h3, ?_⟩
      have := X2.out.lt; have := H.out.2.1; omega
    rw [← hV0]
    clear hV0
    clear HB1 X1
    rcases Classical.em (d = []) with hE | hE
    · have HE : Hid (d = []) := hE
      have he : (bs (d)).toList.isEmpty = true := by rw [hE]; exact emp0
      clear hE
      go_wp2_with fail
      refine (giveUp_ok V0).mono ?_
      rintro e w' ⟨rfl, hb⟩
      exact ⟨rfl, .inl ⟨by rw [HV.out]; exact HE.out, rfl, gbBelow (HB2.out.1.trans (gb hb)) H.out.2.1 (by have := H.out.1.lt; have := H.out.2.1; omega)⟩⟩
    · have HE : Hid (d ≠ []) := hE
      have he : (bs (d)).toList.isEmpty = false := emp1 hE
      clear hE
      go_wp2_with fail
      refine (triml_c (d) [48] V0 (by decide) asc48).mono ?_
      rintro e w' ⟨rfl, hb⟩
      go_wp2_with fail
      refine bodyPost_ret (results_tmp2 rfl _ _ _) rfl ?_
      exact .inr ⟨by rw [HV.out]; exact HE.out, by rw [HV.out]; rfl, by rw [HV.out]; exact X2.out.below hb, HB2.out.1.trans (gb hb)⟩
  · have HV : Hid (digsF p l = (d ++ r2.takeWhile (p.contains ·), (r2.takeWhile (p.contains ·)).length, Lib.trimLeftS r2 p)) := by unfold digsF; rw [← HD.out.1, ← HD.out.2.1, ht]; rfl
    have HR2 : Hid (r2.length ≤ r.length) := takes_len ht
    clear ht
    obtain ⟨V0, hV0⟩ : ∃ W0, W0 = ((w1.alloc (.cells #[.string (bs [46])] 9)).setCell ⟨g, 0, none⟩ (.string (bs r2))) := ⟨_, rfl⟩
    have X2 : Hid (B1t V0 g (.string (bs r2))) := by rw [hV0]; exact (X1.out.below (below1 w1 _)).put _
    have HB2 : Hid (w.grownBy V0 (some g) ∧ B ≤ V0.heap.size) := by
      have hb2 : w1.grownBy (w1.alloc (.cells #[.string (bs [46])] 9)) (some g) := gb (below1 w1 _)
      have h3 : w.grownBy V0 (some g) := by rw [hV0]; exact gbSet (HB1.out.trans hb2) 0 _
      refine ⟨h3, ?_⟩
      have := X2.out.lt; have := H.out.2.1; omega
    rw [← hV0]
    clear hV0
    clear HB1 X1
    go_wp2_with fail
    refine (run_ok X2.out H.out.2.1 HP.out.1 HP.out.2 (by have := HR2.out; have := HD.out.2.2.1; have := H.out.2.2; omega)).mono ?_
    rintro e V1 ⟨rfl, hx, hb⟩
    have hb4 := HB2.out.1.trans hb
    have hb5 : B ≤ V1.heap.size := by have := hx.lt; have := H.out.2.1; omega
    clear HB2 X2 hb
    have HB2 : Hid (w.grownBy V1 (some g) ∧ B ≤ V1.heap.size) := ⟨hb4, hb5⟩
    have X2 : Hid (B1t V1 g (.string (bs (Lib.trimLeftS r2 p)))) := hx
    clear hb4 hb5 hx
    obtain ⟨d2, hd2⟩ : ∃ d2, d2 = r2.takeWhile (p.contains ·) := ⟨_, rfl⟩
    have HL2 : Hid (d2.length ≤ 100000) := tw_len hd2 (by have := HR2.out; have := HD.out.2.2.1; have := H.out.2.2; omega)
    rw [← hd2] at HV
    rw [← hd2]
    clear hd2
    have hadd : ∀ W, (Op.stringOp .add (bs d) (bs d2)).run Tryz.prog W = .ok (.string (bs (d ++ d2))) W := fun W => cat_run d d2 W (by have := HL2.out; have := HD.out.2.2.2.1; have := H.out.2.2; omega)
    have hno : ¬ ((bs d).size + (bs d2).size > 9223372036854775807) := by rw [bs_size, bs_size]; have := HL2.out; have := HD.out.2.2.2.1; have := H.out.2.2; omega
    have hsz : (bs d2).size = d2.length := bs_size d2
    rcases Classical.em (d ++ d2 = []) with hE | hE
    · have HE : Hid (d ++ d2 = []) := hE
      have he : (bs (d ++ d2)).toList.isEmpty = true := by rw [hE]; exact emp0
      clear hE
      go_wp2_with fail
      refine (giveUp_ok V1).mono ?_
      rintro e w' ⟨rfl, hb⟩
      exact ⟨rfl, .inl ⟨by rw [HV.out]; exact HE.out, rfl, gbBelow (HB2.out.1.trans (gb hb)) H.out.2.1 (by have := H.out.1.lt; have := H.out.2.1; omega)⟩⟩
    · have HE : Hid (d ++ d2 ≠ []) := hE
      have he : (bs (d ++ d2)).toList.isEmpty = false := emp1 hE
      clear hE
      go_wp2_with fail
      refine (triml_c (d ++ d2) [48] V1 (by decide) asc48).mono ?_
      rintro e w' ⟨rfl, hb⟩
      go_wp2_with fail
      refine bodyPost_ret (results_tmp2 rfl _ _ _) rfl ?_
      exact .inr ⟨by rw [HV.out]; exact HE.out, by rw [HV.out]; rfl, by rw [HV.out]; exact X2.out.below hb, HB2.out.1.trans (gb hb)⟩
abbrev decs : List UInt8 := [48, 49, 50, 51, 52, 53, 54, 55, 56, 57]
theorem decs_asc : ∀ (j : Nat) b, decs[j]? = some b → b.toNat < 128 := by
  intro j b h
  have h1 : b ∈ decs := List.mem_of_getElem? h
  have h2 : ∀ b ∈ decs, b.toNat < 128 := by decide
  exact h2 b h1
def farF : Nat → List UInt8 → Nat
  | n, [] => n
  | n, c :: l => farF (min (10 * n + (c.toNat - 48)) 100000) l
def expF (l : List UInt8) : List UInt8 × Int × List UInt8 :=
  ((minusF l).2.takeWhile (decs.contains ·), (if (minusF l).1 then -((farF 0 ((minusF l).2.takeWhile (decs.contains ·)) : Nat) : Int) else ((farF 0 ((minusF l).2.takeWhile (decs.contains ·)) : Nat) : Int)), Lib.trimLeftS (minusF l).2 decs)
theorem decs_in {l d : List UInt8} (h : d = l.takeWhile (decs.contains ·)) : ∀ c ∈ d, 48 ≤ c.toNat ∧ c.toNat ≤ 57 := by
  intro c hc
  rw [h] at hc
  have h1 : decs.contains c = true := List.all_eq_true.1 (List.all_takeWhile (p := (decs.contains ·)) (l := l)) c hc
  have h2 : c ∈ decs := List.contains_iff_mem.1 h1
  have h3 : ∀ c ∈ decs, 48 ≤ c.toNat ∧ c.toNat ≤ 57 := by decide
  exact h3 c h2
theorem next_dig (w : World) (d : List UInt8) (i : Nat) (h : i < d.length) (hd : ∀ c ∈ d, 48 ≤ c.toNat ∧ c.toNat ≤ 57) : ∃ (c : UInt8) (r : List UInt8), d.drop i = c :: r ∧ d.drop (i + 1) = r ∧ 48 ≤ c.toNat ∧ c.toNat ≤ 57 ∧ ∀ ty, (Instr.next (.pointer (some ⟨w.heap.size, 0, none⟩)) true ty).run Tryz.prog (w.iter (bs d) i) = .ok (.tuple #[.bool true, .int .i64 (i : Nat), .int .i32 (c.toNat : Nat)]) (w.iter (bs d) (i + 1)) := by
  have h1 : i < (bs d).size := by rw [bs_size]; exact h
  have h2 : (bs d)[i]'h1 = d[i] := rfl
  have h3 := hd d[i] (List.getElem_mem h)
  exact ⟨d[i], d.drop (i + 1), List.drop_eq_getElem_cons h, rfl, h3.1, h3.2, fun ty => run_next_ascii w (bs d) i ty h1 (by rw [h2]; omega)⟩
theorem next_no (w : World) (d : List UInt8) (i : Nat) (h : i = d.length) (ty : TypeId) : (Instr.next (.pointer (some ⟨w.heap.size, 0, none⟩)) true ty).run Tryz.prog (w.iter (bs d) i) = .ok (.tuple #[.bool false]) (w.iter (bs d) i) := run_next_end w (bs d) i ty (by rw [bs_size]; omega)
theorem minusF_len (l : List UInt8) : (minusF l).2.length ≤ l.length := by
  unfold minusF
  split
  · rw [List.length_drop]; omega
  · split
    · rw [List.length_drop]; omega
    · exact Nat.le_refl _
theorem bIter (w : World) (s : ByteArray) (p : Nat) : Below w.heap.size w (w.iter s p) := below1 w _
theorem wneg (n : Nat) (h : n ≤ 100000) : IntKind.i64.wrap (-((n : Nat) : Int)) = -((n : Nat) : Int) := by
  simp [IntKind.wrap, IntKind.signed, IntKind.bits]
  omega
theorem wexp (n c : Nat) (hn : n ≤ 100000) (h1 : 48 ≤ c) (h2 : c ≤ 57) : min (wrap64 (wrap64 (10 * (n : Int)) + ((c : Int) - 48))) 100000 = ((min (10 * n + (c - 48)) 100000 : Nat) : Int) := by
  have e1 : wrap64 (10 * (n : Int)) = 10 * (n : Int) := by unfold wrap64; omega
  have e2 : wrap64 (10 * (n : Int) + ((c : Int) - 48)) = 10 * (n : Int) + ((c : Int) - 48) := by unfold wrap64; omega
  rw [e1, e2]
  omega
theorem exponent_ok {g B : Nat} {l : List UInt8} {w : World} (h : B1t w g (.string (bs l))) (hB : B ≤ g) (hl : l.length ≤ 100000) :
    Calls Tryz.prog 55 #[.pointer (some ⟨g, 0, none⟩)] w fun en w' => ((expF l).1 = [] ∧ Gave 8 w w' en B) ∨ ((expF l).1 ≠ [] ∧ en = .returned (.int .i64 (expF l).2.1) ∧ B1t w' g (.string (bs (expF l).2.2)) ∧ w.grownBy w' (some g)) := by
  have H : Hid (B1t w g (.string (bs l)) ∧ B ≤ g ∧ l.length ≤ 100000) := ⟨h, hB, hl⟩
  clear h hB hl
  go_enter Tryz.func55, Tryz.ntmps55
  go_wp2_with fail
  refine (minus_ok H.out.1 H.out.2.1).mono ?_
  rintro e w1 ⟨rfl, hx, hb⟩
  have X1 : Hid (B1t w1 g (.string (bs (minusF l).2))) := hx
  have HB1 : Hid (w.grownBy w1 (some g) ∧ B ≤ w1.heap.size) := ⟨hb, by have := hx.lt; have := H.out.2.1; omega⟩
  obtain ⟨m, hm⟩ : ∃ m, m = (minusF l).1 := ⟨_, rfl⟩
  rw [← hm]
  have HM : Hid (m = (minusF l).1) := hm
  clear hm hx hb
  go_wp2_with fail
  refine (run_ok (p := decs) X1.out H.out.2.1 (by decide) decs_asc (Nat.le_trans (minusF_len l) H.out.2.2)).mono ?_
  rintro e w2 ⟨rfl, hx, hb⟩
  obtain ⟨d, hd⟩ : ∃ d, d = (minusF l).2.takeWhile (decs.contains ·) := ⟨_, rfl⟩
  rw [← hd]
  have X2 : Hid (B1t w2 g (.string (bs (Lib.trimLeftS (minusF l).2 decs)))) := hx
  have HB2 : Hid (w.grownBy w2 (some g) ∧ B ≤ w2.heap.size) := ⟨HB1.out.1.trans hb, by have := hx.lt; have := H.out.2.1; omega⟩
  have HV : Hid (expF l = (d, (if m then -((farF 0 d : Nat) : Int) else ((farF 0 d : Nat) : Int)), Lib.trimLeftS (minusF l).2 decs)) := by unfold expF; rw [← hd, ← HM.out]; rfl
  have HDL : Hid (d.length ≤ 100000 ∧ ∀ c ∈ d, 48 ≤ c.toNat ∧ c.toNat ≤ 57) := ⟨tw_len hd (Nat.le_trans (minusF_len l) H.out.2.2), decs_in hd⟩
  clear hd hx hb X1 HB1
  rcases Classical.em (d = []) with hE | hE
  · have HE : Hid (d = []) := hE
    have he : (bs d).toList.isEmpty = true := by rw [hE]; exact emp0
    clear hE
    go_wp2_with fail
    refine (giveUp_ok w2).mono ?_
    rintro e w' ⟨rfl, hb⟩
    exact ⟨rfl, .inl ⟨by rw [HV.out]; exact HE.out, rfl, gbBelow (HB2.out.1.trans (gb hb)) H.out.2.1 (by have := H.out.1.lt; have := H.out.2.1; omega)⟩⟩
  · have HE : Hid (d ≠ []) := hE
    have he : (bs d).toList.isEmpty = false := emp1 hE
    clear hE
    go_wp2_with fail
    obtain ⟨L, hL⟩ : ∃ L, L = d.length := ⟨_, rfl⟩
    have HLL : Hid (L = d.length) := hL
    clear hL
    go_loopg [5] L (fun gk sv wr => ∃ (i n : Nat), i + gk = L ∧ sv = .int .i64 (n : Nat) ∧ n ≤ 100000 ∧ farF n (d.drop i) = farF 0 d ∧ wr = w2.iter (bs d) i)
    case atStart => exact ⟨0, 0, by omega, rfl, by omega, rfl, rfl⟩
    case round =>
      obtain ⟨i, n, hi, rfl, hn, hf, rfl⟩ := hrel
      have HI : Hid (i + gk = L ∧ n ≤ 100000 ∧ farF n (d.drop i) = farF 0 d) := ⟨hi, hn, hf⟩
      clear hi hn hf
      cases gk with
      | zero =>
        have hnx := next_no w2 d i (by have := HI.out.1; have := HLL.out; omega)
        have HF : Hid (n = farF 0 d) := by have h := HI.out.2.2; rw [List.drop_of_length_le (by have := HI.out.1; have := HLL.out; omega)] at h; exact h
        cases m with
        | false =>
          have HV2 : Hid (expF l = (d, ((n : Nat) : Int), Lib.trimLeftS (minusF l).2 decs)) := by rw [HV.out, HF.out]; rfl
          clear HV HM
          go_wp2_with fail
          go_ret
          exact .inr ⟨by rw [HV2.out]; exact HE.out, by rw [HV2.out]; rfl, by rw [HV2.out]; exact X2.out.below (bIter w2 _ _), HB2.out.1.trans (gb (bIter w2 _ _))⟩
        | true =>
          have HV2 : Hid (expF l = (d, -((n : Nat) : Int), Lib.trimLeftS (minusF l).2 decs)) := by rw [HV.out, HF.out]; rfl
          have hw : IntKind.i64.wrap (-((n : Nat) : Int)) = -((n : Nat) : Int) := wneg n HI.out.2.1
          clear HV HM
          go_wp2_with fail
          go_ret
          exact .inr ⟨by rw [HV2.out]; exact HE.out, by rw [HV2.out]; rfl, by rw [HV2.out]; exact X2.out.below (bIter w2 _ _), HB2.out.1.trans (gb (bIter w2 _ _))⟩
      | succ gi =>
        obtain ⟨c, r, hc1, hc2, hc3, hc4, hnx⟩ := next_dig w2 d i (by have := HI.out.1; have := HLL.out; omega) HDL.out.2
        obtain ⟨k, hk⟩ : ∃ k, k = c.toNat - 48 := ⟨_, rfl⟩
        have HC : Hid (d.drop i = c :: r ∧ d.drop (i + 1) = r ∧ k = c.toNat - 48 ∧ k ≤ 9) := ⟨hc1, hc2, hk, by omega⟩
        obtain ⟨cn, hcn⟩ : ∃ cn, cn = c.toNat := ⟨_, rfl⟩
        rw [← hcn] at hnx
        clear hc1 hc2
        go_wp2_with fail
        go_roundg gi
        case measure => omega
        case rel => exact ⟨i + 1, min (10 * n + k) 100000, by have := HI.out.1; omega, by rw [hk, ← wexp n c.toNat HI.out.2.1 hc3 hc4], by omega, by have h := HI.out.2.2; rw [HC.out.1] at h; rw [HC.out.2.1, HC.out.2.2.1]; exact h, rfl⟩
end Go.Proofs.YtglkjbkpgfencaaGreatDoor
