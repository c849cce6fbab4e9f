import Derived.Shelf.Strings.Repeat
import Derived.Shelf.Strings.Trim
import Derived.Shelf.Strings.Builder1
import Derived.Shelf.Strconv.Itoa3
import Derived.Test.YtpebgjpfgfimgaaGreatDoorSmall
import Derived.Lib.ItoaNum
import Derived.Lib.TrimByte
import Derived.Lib.Repeat
import Derived.Test.YtpebgjpfgfimgaaGreatDoorMem
import Derived.Laws.OwnMore
import Derived.Maps.AppendAt
import Derived.Deep.AppendLies
import Derived.Test.YtpebgjpfgfimgaaGreatDoorCopied
import Derived.Test.YtpebgjpfgfimgaaGreatDoorJ13
import Derived.Test.YtpebgjpfgfimgaaGreatDoorJ9
import Derived.Test.YtpebgjpfgfimgaaGreatDoorJ8
import Derived.Test.YtpebgjpfgfimgaaGreatDoorJ10
import Derived.Test.YtpebgjpfgfimgaaGreatDoorOpenS
import Derived.Deep.Slices
namespace Go.Proofs.YtpebgjpfgfimgaaGreatDoor
open Go.RowKit Go.Shelf
set_option maxRecDepth 100000
set_option maxHeartbeats 0
def renS : Ren := ⟨fun x => match x with | 99 => 70 | 105 => 40 | 119 => 113 | 129 => 33 | 134 => 44 | 137 => 112 | 151 => 66 | 152 => 87 | 161 => 18 | 165 => 71 | 166 => 39 | 169 => 41 | 170 => 72 | 197 => 65 | 206 => 94 | 212 => 69 | 217 => 122 | 224 => 114 | 225 => 115 | 227 => 35 | 228 => 64 | 231 => 34 | 233 => 36 | 235 => 37 | 240 => 68 | 241 => 95 | 260 => 86 | 263 => 93 | 264 => 84 | 266 => 127 | 276 => 92 | 277 => 120 | 283 => 88 | 284 => 89 | 285 => 90 | 286 => 91 | 317 => 116 | 318 => 117 | 319 => 118 | 320 => 119 | 337 => 123 | 338 => 124 | n => n, fun x => match x with | 0 => 0 | 1 => 1 | 2 => 2 | 3 => 3 | 4 => 4 | 5 => 5 | 6 => 6 | 7 => 7 | 8 => 8 | 9 => 9 | 10 => 10 | 11 => 11 | 12 => 12 | 13 => 13 | 14 => 14 | 15 => 15 | 16 => 16 | 17 => 17 | 18 => 18 | 19 => 19 | 20 => 20 | 21 => 21 | 22 => 107 | 23 => 47 | 26 => 80 | 27 => 146 | 37 => 22 | 40 => 144 | 41 => 101 | 46 => 51 | 47 => 150 | 51 => 50 | 52 => 153 | 53 => 34 | 54 => 64 | 55 => 143 | 63 => 104 | 64 => 119 | 70 => 72 | 71 => 73 | 72 => 74 | 73 => 108 | 74 => 76 | 75 => 77 | 76 => 78 | 77 => 79 | 80 => 81 | 81 => 109 | 83 => 120 | 104 => 60 | 105 => 102 | 106 => 103 | 109 => 105 | 110 => 106 | 111 => 149 | 114 => 145 | 115 => 66 | 116 => 67 | 117 => 68 | 118 => 69 | 119 => 139 | 122 => 65 | 123 => 70 | 124 => 71 | 127 => 110 | 137 => 140 | 138 => 141 | 139 => 142 | 143 => 157 | 144 => 170 | 145 => 171 | 146 => 127 | 147 => 128 | 148 => 83 | 149 => 118 | 164 => 125 | 165 => 126 | 166 => 151 | 171 => 121 | 172 => 122 | 173 => 123 | 174 => 124 | 211 => 130 | 212 => 147 | 213 => 148 | 232 => 154 | 233 => 155 | 236 => 30 | 238 => 158 | 239 => 159 | 240 => 160 | 241 => 161 | 242 => 162 | 243 => 163 | 244 => 164 | 245 => 165 | 246 => 166 | 247 => 167 | 248 => 168 | 249 => 169 | n => n, fun x => match x with | 1 => 5 | 3 => 2 | 4 => 3 | 17 => 4 | 18 => 6 | 19 => 7 | n => n⟩
theorem laysn105 : Lays.n105 Tryz.prog renS :=
  { mixed := by kernel_rfl, f99 := Tryz.func70.trans (congrArg some (by kernel_rfl)), f105 := Tryz.func40.trans (congrArg some (by kernel_rfl)), f165 := Tryz.func71.trans (congrArg some (by kernel_rfl)), f166 := Tryz.func39.trans (congrArg some (by kernel_rfl)), f169 := Tryz.func41.trans (congrArg some (by kernel_rfl)), f170 := Tryz.func72.trans (congrArg some (by kernel_rfl)), f206 := Tryz.func94.trans (congrArg some (by kernel_rfl)), f212 := Tryz.func69.trans (congrArg some (by kernel_rfl)), f240 := Tryz.func68.trans (congrArg some (by kernel_rfl)), f241 := Tryz.func95.trans (congrArg some (by kernel_rfl)), f263 := Tryz.func93.trans (congrArg some (by kernel_rfl)), f264 := Tryz.func84.trans (congrArg some (by kernel_rfl)), f276 := Tryz.func92.trans (congrArg some (by kernel_rfl)), f277 := Tryz.func120.trans (congrArg some (by kernel_rfl)), t0 := Tryz.underlying0, a0 := Tryz.isAgg0, z0 := Tryz.sizeOf0, v0 := Tryz.zeroValue0, t3 := Tryz.underlying3, a3 := Tryz.isAgg3, z3 := Tryz.sizeOf3, v3 := Tryz.zeroValue3, t4 := Tryz.underlying4, a4 := Tryz.isAgg4, z4 := Tryz.sizeOf4, v4 := Tryz.zeroValue4, t5 := Tryz.underlying5, a5 := Tryz.isAgg5, z5 := Tryz.sizeOf5, v5 := Tryz.zeroValue5, t9 := Tryz.underlying9, a9 := Tryz.isAgg9, z9 := Tryz.sizeOf9, v9 := Tryz.zeroValue9, t20 := Tryz.underlying20, a20 := Tryz.isAgg20, z20 := Tryz.sizeOf20, v20 := Tryz.zeroValue20, t37 := Tryz.underlying22, a37 := Tryz.isAgg22, z37 := Tryz.sizeOf22, v37 := Tryz.zeroValue22, t46 := Tryz.underlying51, a46 := Tryz.isAgg51, z46 := Tryz.sizeOf51, v46 := Tryz.zeroValue51, t51 := Tryz.underlying50, a51 := Tryz.isAgg50, z51 := Tryz.sizeOf50, v51 := Tryz.zeroValue50, t53 := Tryz.underlying34, a53 := Tryz.isAgg34, z53 := Tryz.sizeOf34, v53 := Tryz.zeroValue34, t70 := Tryz.underlying72, a70 := Tryz.isAgg72, z70 := Tryz.sizeOf72, v70 := Tryz.zeroValue72, t72 := Tryz.underlying74, a72 := Tryz.isAgg74, z72 := Tryz.sizeOf74, v72 := Tryz.zeroValue74, t75 := Tryz.underlying77, a75 := Tryz.isAgg77, z75 := Tryz.sizeOf77, v75 := Tryz.zeroValue77, t76 := Tryz.underlying78, a76 := Tryz.isAgg78, z76 := Tryz.sizeOf78, v76 := Tryz.zeroValue78, t109 := Tryz.underlying105, a109 := Tryz.isAgg105, z109 := Tryz.sizeOf105, v109 := Tryz.zeroValue105, t127 := Tryz.underlying110, a127 := Tryz.isAgg110, z127 := Tryz.sizeOf110, v127 := Tryz.zeroValue110, t146 := Tryz.underlying127, a146 := Tryz.isAgg127, z146 := Tryz.sizeOf127, v146 := Tryz.zeroValue127, t148 := Tryz.underlying83, a148 := Tryz.isAgg83, z148 := Tryz.sizeOf83, v148 := Tryz.zeroValue83, t164 := Tryz.underlying125, a164 := Tryz.isAgg125, z164 := Tryz.sizeOf125, v164 := Tryz.zeroValue125 }
theorem laysn161 : Lays.n161 Tryz.prog renS :=
  { mixed := by kernel_rfl, f119 := Tryz.func113.trans (congrArg some (by kernel_rfl)), f137 := Tryz.func112.trans (congrArg some (by kernel_rfl)), f151 := Tryz.func66.trans (congrArg some (by kernel_rfl)), f152 := Tryz.func87.trans (congrArg some (by kernel_rfl)), f161 := Tryz.func18.trans (congrArg some (by kernel_rfl)), f197 := Tryz.func65.trans (congrArg some (by kernel_rfl)), f217 := Tryz.func122.trans (congrArg some (by kernel_rfl)), f224 := Tryz.func114.trans (congrArg some (by kernel_rfl)), f225 := Tryz.func115.trans (congrArg some (by kernel_rfl)), f227 := Tryz.func35.trans (congrArg some (by kernel_rfl)), f228 := Tryz.func64.trans (congrArg some (by kernel_rfl)), f231 := Tryz.func34.trans (congrArg some (by kernel_rfl)), f233 := Tryz.func36.trans (congrArg some (by kernel_rfl)), f235 := Tryz.func37.trans (congrArg some (by kernel_rfl)), f260 := Tryz.func86.trans (congrArg some (by kernel_rfl)), f266 := Tryz.func127.trans (congrArg some (by kernel_rfl)), t0 := Tryz.underlying0, a0 := Tryz.isAgg0, z0 := Tryz.sizeOf0, v0 := Tryz.zeroValue0, t3 := Tryz.underlying3, a3 := Tryz.isAgg3, z3 := Tryz.sizeOf3, v3 := Tryz.zeroValue3, t4 := Tryz.underlying4, a4 := Tryz.isAgg4, z4 := Tryz.sizeOf4, v4 := Tryz.zeroValue4, t5 := Tryz.underlying5, a5 := Tryz.isAgg5, z5 := Tryz.sizeOf5, v5 := Tryz.zeroValue5, t9 := Tryz.underlying9, a9 := Tryz.isAgg9, z9 := Tryz.sizeOf9, v9 := Tryz.zeroValue9, t21 := Tryz.underlying21, a21 := Tryz.isAgg21, z21 := Tryz.sizeOf21, v21 := Tryz.zeroValue21, t46 := Tryz.underlying51, a46 := Tryz.isAgg51, z46 := Tryz.sizeOf51, v46 := Tryz.zeroValue51, t105 := Tryz.underlying102, a105 := Tryz.isAgg102, z105 := Tryz.sizeOf102, v105 := Tryz.zeroValue102, t116 := Tryz.underlying67, a116 := Tryz.isAgg67, z116 := Tryz.sizeOf67, t117 := Tryz.underlying68, a117 := Tryz.isAgg68, z117 := Tryz.sizeOf68, v117 := Tryz.zeroValue68, t119 := Tryz.underlying139, a119 := Tryz.isAgg139, z119 := Tryz.sizeOf139, t124 := Tryz.underlying71, a124 := Tryz.isAgg71, z124 := Tryz.sizeOf71, v124 := Tryz.zeroValue71, t138 := Tryz.underlying141, a138 := Tryz.isAgg141, z138 := Tryz.sizeOf141, v138 := Tryz.zeroValue141, t139 := Tryz.underlying142, a139 := Tryz.isAgg142, z139 := Tryz.sizeOf142, v139 := Tryz.zeroValue142, g3 := by kernel_rfl, g4 := by kernel_rfl }
theorem laysn166 : Lays.n166 Tryz.prog renS :=
  { mixed := by kernel_rfl, f166 := Tryz.func39.trans (congrArg some (by kernel_rfl)), f240 := Tryz.func68.trans (congrArg some (by kernel_rfl)), f276 := Tryz.func92.trans (congrArg some (by kernel_rfl)), t0 := Tryz.underlying0, a0 := Tryz.isAgg0, z0 := Tryz.sizeOf0, v0 := Tryz.zeroValue0, t3 := Tryz.underlying3, a3 := Tryz.isAgg3, z3 := Tryz.sizeOf3, v3 := Tryz.zeroValue3, t4 := Tryz.underlying4, a4 := Tryz.isAgg4, z4 := Tryz.sizeOf4, v4 := Tryz.zeroValue4, t9 := Tryz.underlying9, a9 := Tryz.isAgg9, z9 := Tryz.sizeOf9, v9 := Tryz.zeroValue9, t20 := Tryz.underlying20, a20 := Tryz.isAgg20, z20 := Tryz.sizeOf20, v20 := Tryz.zeroValue20, t37 := Tryz.underlying22, a37 := Tryz.isAgg22, z37 := Tryz.sizeOf22, v37 := Tryz.zeroValue22, t70 := Tryz.underlying72, a70 := Tryz.isAgg72, z70 := Tryz.sizeOf72, v70 := Tryz.zeroValue72, t72 := Tryz.underlying74, a72 := Tryz.isAgg74, z72 := Tryz.sizeOf74, v72 := Tryz.zeroValue74, t75 := Tryz.underlying77, a75 := Tryz.isAgg77, z75 := Tryz.sizeOf77, v75 := Tryz.zeroValue77, t164 := Tryz.underlying125, a164 := Tryz.isAgg125, z164 := Tryz.sizeOf125, v164 := Tryz.zeroValue125 }
theorem laysn169 : Lays.n169 Tryz.prog renS :=
  { mixed := by kernel_rfl, f169 := Tryz.func41.trans (congrArg some (by kernel_rfl)), t0 := Tryz.underlying0, a0 := Tryz.isAgg0, z0 := Tryz.sizeOf0, v0 := Tryz.zeroValue0, t3 := Tryz.underlying3, a3 := Tryz.isAgg3, z3 := Tryz.sizeOf3, v3 := Tryz.zeroValue3, t9 := Tryz.underlying9, a9 := Tryz.isAgg9, z9 := Tryz.sizeOf9, v9 := Tryz.zeroValue9, t37 := Tryz.underlying22, a37 := Tryz.isAgg22, z37 := Tryz.sizeOf22, v37 := Tryz.zeroValue22, t70 := Tryz.underlying72, a70 := Tryz.isAgg72, z70 := Tryz.sizeOf72, v70 := Tryz.zeroValue72, t72 := Tryz.underlying74, a72 := Tryz.isAgg74, z72 := Tryz.sizeOf74, v72 := Tryz.zeroValue74, t127 := Tryz.underlying110, a127 := Tryz.isAgg110, z127 := Tryz.sizeOf110, v127 := Tryz.zeroValue110 }
theorem laysn283 : Lays.n283 Tryz.prog renS :=
  { mixed := by kernel_rfl, f283 := Tryz.func88.trans (congrArg some (by kernel_rfl)), t3 := Tryz.underlying3, a3 := Tryz.isAgg3, z3 := Tryz.sizeOf3, v3 := Tryz.zeroValue3, t4 := Tryz.underlying4, a4 := Tryz.isAgg4, z4 := Tryz.sizeOf4, v4 := Tryz.zeroValue4, t9 := Tryz.underlying9, a9 := Tryz.isAgg9, z9 := Tryz.sizeOf9, v9 := Tryz.zeroValue9 }
theorem laysn284 : LaysM.n284 Tryz.prog renS :=
  { mixed := by kernel_rfl, f129 := Tryz.func33.trans (congrArg some (by kernel_rfl)), f284 := Tryz.func89.trans (congrArg some (by kernel_rfl)), f317 := Tryz.func116.trans (congrArg some (by kernel_rfl)), f318 := Tryz.func117.trans (congrArg some (by kernel_rfl)), t0 := Tryz.underlying0, a0 := Tryz.isAgg0, z0 := Tryz.sizeOf0, v0 := Tryz.zeroValue0, t3 := Tryz.underlying3, a3 := Tryz.isAgg3, z3 := Tryz.sizeOf3, v3 := Tryz.zeroValue3, t4 := Tryz.underlying4, a4 := Tryz.isAgg4, z4 := Tryz.sizeOf4, v4 := Tryz.zeroValue4, t5 := Tryz.underlying5, a5 := Tryz.isAgg5, z5 := Tryz.sizeOf5, v5 := Tryz.zeroValue5, t9 := Tryz.underlying9, a9 := Tryz.isAgg9, z9 := Tryz.sizeOf9, v9 := Tryz.zeroValue9, t46 := Tryz.underlying51, a46 := Tryz.isAgg51, z46 := Tryz.sizeOf51, v46 := Tryz.zeroValue51, t53 := Tryz.underlying34, a53 := Tryz.isAgg34, z53 := Tryz.sizeOf34, v53 := Tryz.zeroValue34, t212 := Tryz.underlying147, a212 := Tryz.isAgg147, z212 := Tryz.sizeOf147, v212 := Tryz.zeroValue147, g17 := by kernel_rfl, i0 := by kernel_rfl, i3 := by kernel_rfl, i4 := by kernel_rfl, i5 := by kernel_rfl, i9 := by kernel_rfl, i46 := by kernel_rfl, i53 := by kernel_rfl, i212 := by kernel_rfl, m17 := by kernel_rfl }
theorem laysn285 : Lays.n285 Tryz.prog renS :=
  { mixed := by kernel_rfl, f285 := Tryz.func90.trans (congrArg some (by kernel_rfl)), t0 := Tryz.underlying0, a0 := Tryz.isAgg0, z0 := Tryz.sizeOf0, v0 := Tryz.zeroValue0, t3 := Tryz.underlying3, a3 := Tryz.isAgg3, z3 := Tryz.sizeOf3, v3 := Tryz.zeroValue3, t4 := Tryz.underlying4, a4 := Tryz.isAgg4, z4 := Tryz.sizeOf4, v4 := Tryz.zeroValue4, t5 := Tryz.underlying5, a5 := Tryz.isAgg5, z5 := Tryz.sizeOf5, v5 := Tryz.zeroValue5, t9 := Tryz.underlying9, a9 := Tryz.isAgg9, z9 := Tryz.sizeOf9, v9 := Tryz.zeroValue9, t37 := Tryz.underlying22, a37 := Tryz.isAgg22, z37 := Tryz.sizeOf22, v37 := Tryz.zeroValue22, t51 := Tryz.underlying50, a51 := Tryz.isAgg50, z51 := Tryz.sizeOf50, v51 := Tryz.zeroValue50, t53 := Tryz.underlying34, a53 := Tryz.isAgg34, z53 := Tryz.sizeOf34, v53 := Tryz.zeroValue34 }
theorem laysX : Builder.Extra Tryz.prog renS :=
  { sizeBuilder := by kernel_rfl, liesBuilder := by kernel_rfl, t5 := Tryz.underlying5, a5 := Tryz.isAgg5, z5 := Tryz.sizeOf5, v5 := Tryz.zeroValue5, infoByte := by kernel_rfl, cellsByte := by kernel_rfl, sizeByte := by kernel_rfl, neB5 := by decide }
end Go.Proofs.YtpebgjpfgfimgaaGreatDoor
namespace Go.Proofs.YtpebgjpfgfimgaaGreatDoor
open Go.RowKit
set_option maxRecDepth 100000
set_option maxHeartbeats 0
def IsDg (c : UInt8) : Prop := 48 ≤ c.toNat ∧ c.toNat ≤ 57
def dval (l : List UInt8) : Nat := l.foldl (fun a c => a * 10 + (c.toNat - 48)) 0
theorem dval_nil : dval [] = 0 := rfl
theorem dval_snoc (l : List UInt8) (c : UInt8) : dval (l ++ [c]) = dval l * 10 + (c.toNat - 48) := by unfold dval; rw [List.foldl_append]; rfl
theorem dfold (r : List UInt8) : ∀ a, r.foldl (fun a c => a * 10 + (c.toNat - 48)) a = a * 10 ^ r.length + dval r := by
  induction r with
  | nil => intro a; simp [dval]
  | cons c r ih =>
    intro a
    have h1 := ih (a * 10 + (c.toNat - 48))
    have h2 := ih (0 * 10 + (c.toNat - 48))
    have h3 : dval (c :: r) = r.foldl (fun a c => a * 10 + (c.toNat - 48)) (0 * 10 + (c.toNat - 48)) := rfl
    rw [h3, h2, List.foldl_cons, h1, List.length_cons, Nat.pow_succ, Nat.add_mul, Nat.mul_assoc a 10, Nat.mul_comm 10 (10 ^ r.length), Nat.zero_mul, Nat.zero_add]
    omega
theorem dval_app (l r : List UInt8) : dval (l ++ r) = dval l * 10 ^ r.length + dval r := by
  show (l ++ r).foldl _ 0 = _
  rw [List.foldl_append, dfold]; rfl
theorem dval_cons (c : UInt8) (r : List UInt8) : dval (c :: r) = (c.toNat - 48) * 10 ^ r.length + dval r := by
  rw [show c :: r = [c] ++ r from rfl, dval_app]; simp [dval]
theorem dval_rep (n : Nat) : dval (List.replicate n 48) = 0 := by
  induction n with
  | zero => rfl
  | succ n ih => rw [List.replicate_succ, dval_cons, ih]; show (48 - 48) * _ + 0 = 0; omega
theorem dg_nat {d : Nat} (h : d < 10) : (UInt8.ofNat (48 + d)).toNat = 48 + d := by
  rw [UInt8.toNat_ofNat']; omega
theorem dec_big {u : Nat} (h : ¬ u < 10) : Lib.decDigits u = Lib.decDigits (u / 10) ++ [UInt8.ofNat (48 + u % 10)] := by rw [Lib.decDigits, dif_neg h]
theorem dec_dg (u : Nat) : ∀ c, c ∈ Lib.decDigits u → IsDg c := by
  induction u using Nat.strongRecOn with
  | _ u ih =>
    intro c hc
    by_cases h : u < 10
    · rw [Lib.decDigits_one h] at hc
      rw [List.mem_singleton.1 hc]
      unfold IsDg; rw [dg_nat h]; omega
    · rw [dec_big h] at hc
      rcases List.mem_append.1 hc with h1 | h1
      · exact ih (u / 10) (by omega) c h1
      · rw [List.mem_singleton.1 h1]
        unfold IsDg; rw [dg_nat (Nat.mod_lt _ (by decide))]; have := Nat.mod_lt u (by decide : 10 > 0); omega
theorem dval_dec (u : Nat) : dval (Lib.decDigits u) = u := by
  induction u using Nat.strongRecOn with
  | _ u ih =>
    by_cases h : u < 10
    · rw [Lib.decDigits_one h]; show 0 * 10 + ((UInt8.ofNat (48 + u)).toNat - 48) = u; rw [dg_nat h]; omega
    · rw [dec_big h, dval_snoc, ih (u / 10) (by omega), dg_nat (Nat.mod_lt _ (by decide))]; omega
theorem dg_eq {c : UInt8} (h : IsDg c) : UInt8.ofNat (48 + (c.toNat - 48)) = c := by
  unfold IsDg at h
  rw [show 48 + (c.toNat - 48) = c.toNat by omega]; simp
theorem dval_pos {c : UInt8} {r : List UInt8} (h : IsDg c) (h0 : c ≠ 48) : 0 < dval (c :: r) := by
  rw [dval_cons]
  unfold IsDg at h
  have h1 : c.toNat ≠ 48 := fun e => h0 (UInt8.toNat_inj.1 e)
  have h2 : 1 ≤ c.toNat - 48 := by omega
  have h3 : 0 < (10 : Nat) ^ r.length := Nat.pow_pos (by decide)
  have h4 := Nat.mul_le_mul h2 h3
  omega
theorem dec_of : ∀ (n : Nat) (l : List UInt8), l.length = n → (∀ c, c ∈ l → IsDg c) → (∀ c r, l = c :: r → c ≠ 48) → l ≠ [] → Lib.decDigits (dval l) = l
  | 0, l, hn, _, _, h0 => absurd (List.eq_nil_of_length_eq_zero hn) h0
  | n + 1, l, hn, hd, hh, h0 => by
    obtain ⟨l', c, rfl⟩ : ∃ l' c, l = l' ++ [c] := ⟨l.dropLast, l.getLast h0, (List.dropLast_concat_getLast h0).symm⟩
    have hc : IsDg c := hd c (by simp)
    have hlt : c.toNat - 48 < 10 := by unfold IsDg at hc; omega
    rw [dval_snoc]
    cases l' with
    | nil =>
      rw [dval_nil, Nat.zero_mul, Nat.zero_add, Lib.decDigits_one hlt, dg_eq hc]; rfl
    | cons d r =>
      have hd0 : d ≠ 48 := hh d (r ++ [c]) rfl
      have hdd : IsDg d := hd d (by simp)
      have hp := dval_pos (r := r) hdd hd0
      have ih := dec_of n (d :: r) (by simp at hn ⊢; omega) (fun x hx => hd x (List.mem_append.2 (.inl hx))) (fun x y e => by cases e; exact hd0) (by simp)
      rw [dec_big (by omega), show (dval (d :: r) * 10 + (c.toNat - 48)) / 10 = dval (d :: r) by omega, show (dval (d :: r) * 10 + (c.toNat - 48)) % 10 = c.toNat - 48 by omega, ih, dg_eq hc]
theorem trim_dec : ∀ (l : List UInt8), (∀ c, c ∈ l → IsDg c) → dval l ≠ 0 → Lib.trimLeftB l 48 = Lib.decDigits (dval l)
  | [], _, h0 => absurd rfl h0
  | c :: r, hd, h0 => by
    by_cases h : c = 48
    · subst h
      have e : dval (48 :: r) = dval r := by rw [dval_cons]; show (48 - 48) * _ + _ = _; omega
      rw [e] at h0 ⊢
      rw [← trim_dec r (fun x hx => hd x (List.mem_cons_of_mem _ hx)) h0]
      unfold Lib.trimLeftB
      rw [List.dropWhile_cons_of_pos (by decide)]
    · rw [dec_of _ _ rfl hd (fun x y e => by cases e; exact h) (by simp)]
      unfold Lib.trimLeftB
      rw [List.dropWhile_cons_of_neg (by simpa using h)]
def pad19 (v : Nat) : List UInt8 := List.replicate (19 - (Lib.decDigits v).length) 48 ++ Lib.decDigits v
def P19 : Nat := 10000000000000000000
theorem ndig_le : ∀ (n u : Nat), u < 10 ^ (n + 1) → Lib.nDigits u ≤ n + 1
  | 0, u, h => by rw [Lib.nDigits_small (by simpa using h)]; omega
  | n + 1, u, h => by
    by_cases h1 : u < 10
    · rw [Lib.nDigits_small h1]; omega
    · rw [Lib.nDigits_big h1]
      have := ndig_le n (u / 10) (by rw [Nat.pow_succ] at h; omega)
      omega
theorem ndig_le1 {n u : Nat} (hn : 1 ≤ n) (h : u < 10 ^ n) : Lib.nDigits u ≤ n := by
  obtain ⟨k, rfl⟩ : ∃ k, n = k + 1 := ⟨n - 1, by omega⟩
  exact ndig_le k u h
theorem pad_len {v : Nat} (h : v < P19) : (pad19 v).length = 19 ∧ (Lib.decDigits v).length ≤ 19 := by
  have h1 : Lib.nDigits v ≤ 18 + 1 := ndig_le 18 v (Nat.lt_of_lt_of_le h (by decide))
  rw [← Lib.decDigits_length] at h1
  unfold pad19
  rw [List.length_append, List.length_replicate]
  omega
theorem pad_val (v : Nat) : dval (pad19 v) = v := by unfold pad19; rw [dval_app, dval_rep, dval_dec]; omega
theorem pad_dg (v : Nat) : ∀ c, c ∈ pad19 v → IsDg c := by
  intro c hc
  rcases List.mem_append.1 hc with h | h
  · rw [List.eq_of_mem_replicate h]; unfold IsDg; decide
  · exact dec_dg v c h
def pval : List Nat → Nat
  | [] => 0
  | x :: r => x + P19 * pval r
def padT : List Nat → List UInt8
  | [] => []
  | x :: r => padT r ++ pad19 x
theorem pval_snoc (es : List Nat) (x : Nat) : pval (es ++ [x]) = pval es + P19 ^ es.length * x := by
  induction es with
  | nil => show x + P19 * 0 = 0 + P19 ^ 0 * x; rw [Nat.mul_zero, Nat.pow_zero]; omega
  | cons y r ih =>
    show y + P19 * pval (r ++ [x]) = y + P19 * pval r + _
    rw [ih, List.length_cons, Nat.mul_add, Nat.pow_succ, Nat.mul_comm (P19 ^ r.length) P19, Nat.mul_assoc]
    omega
theorem padT_len : ∀ (es : List Nat), (∀ x, x ∈ es → x < P19) → (padT es).length = 19 * es.length
  | [], _ => rfl
  | x :: r, h => by
    show (padT r ++ pad19 x).length = _
    rw [List.length_append, padT_len r (fun y hy => h y (List.mem_cons_of_mem _ hy)), (pad_len (h x (List.mem_cons_self ..))).1, List.length_cons]
    omega
theorem padT_val : ∀ (es : List Nat), (∀ x, x ∈ es → x < P19) → dval (padT es) = pval es
  | [], _ => rfl
  | x :: r, h => by
    show dval (padT r ++ pad19 x) = x + P19 * pval r
    rw [dval_app, (pad_len (h x (List.mem_cons_self ..))).1, pad_val, padT_val r (fun y hy => h y (List.mem_cons_of_mem _ hy)), show (10 : Nat) ^ 19 = P19 from by decide, Nat.mul_comm]
    omega
theorem padT_dg : ∀ (es : List Nat), ∀ c, c ∈ padT es → IsDg c
  | [], c, h => by cases h
  | x :: r, c, h => by
    rcases List.mem_append.1 (show c ∈ padT r ++ pad19 x from h) with h1 | h1
    · exact padT_dg r c h1
    · exact pad_dg x c h1
def TXN : Nat := 4900
def KKN : Nat := 20000
def TXL : Nat := 10 ^ TXN
theorem txl_pos : 0 < TXL := Nat.pow_pos (by decide)
theorem txl_le {a : Nat} (h : a < TXL) : (Lib.decDigits a).length ≤ 4900 := by unfold TXL at h; rw [Lib.decDigits_length]; exact ndig_le1 (n := TXN) (by decide) h
theorem txl_gt {a : Nat} (h : ¬ a < TXL) : 4900 < (Lib.decDigits a).length := by
  rw [Lib.decDigits_length]
  have h1 := Lib.lt_pow_nDigits a
  unfold TXL at h
  exact (Nat.pow_lt_pow_iff_right (a := 10) (n := TXN) (by decide : 1 < 10)).1 (Nat.lt_of_le_of_lt (Nat.not_lt.1 h) h1)
theorem repl1 (n : Nat) : Lib.repeatL [48] n = List.replicate n 48 := by
  induction n with
  | zero => rfl
  | succ n ih => rw [Lib.repeatL, ih, List.replicate_succ]; rfl
end Go.Proofs.YtpebgjpfgfimgaaGreatDoor
namespace Go.Proofs.YtpebgjpfgfimgaaGreatDoor
open Go.RowKit Go.Shelf Go.Sort
set_option maxRecDepth 100000
set_option maxHeartbeats 0
def TbP (w : World) : Prop := Lib.TabIs Tryz.prog w "internal/strconv.uint64pow10" .u64 Lib.pow10Tab
theorem TbP.below {w w' : World} (h : TbP w) (hb : Below w.heap.size w w') : TbP w' := by
  unfold TbP Lib.TabIs World.var? at *
  cases hg : Program.globalNamed Tryz.prog "internal/strconv.uint64pow10" with
  | none => simp [hg] at h
  | some g =>
    simp only [hg, Option.bind_some] at h ⊢
    have hlt : g < w.heap.size := by
      rcases Nat.lt_or_ge g w.heap.size with h1 | h1
      · exact h1
      · rw [Array.getElem?_eq_none h1] at h; simp at h
    rw [hb.block g hlt]
    exact h
theorem small_c (i : Nat) (h : i < 100) (w : World) : Calls Tryz.prog 88 #[.int .i64 i] w fun e w' => e = .returned (.string ⟨(Lib.decDigits i).toArray⟩) ∧ w' = w := Any.internal_strconv_small laysn283 i h w
theorem ndig_c (u : Nat) (h1 : 1 ≤ u) (h2 : u < 18446744073709551616) (w : World) (ht : TbP w) : Calls Tryz.prog 89 #[.int .u64 u] w fun e w' => e = .returned (.int .i64 (Lib.nDigits u)) ∧ w' = w := Any.internal_strconv_numDigits laysn284 u h1 h2 w ht
theorem fmt10_c (blk off cap : Nat) (u : Nat) (d : Array UInt8) (w : World) (hH : Holds (fun (b : UInt8) => Value.int .u8 (b.toNat : Int)) w blk off d) (hu : u < 10 ^ d.size) (hu64 : u < 18446744073709551616) (hsz : d.size < 4611686018427387904) :
    Calls Tryz.prog 90 #[.slice (some ⟨blk, off, none⟩) d.size cap, .int .u64 u] w fun e w' =>
      e = .returned (.tuple #[]) ∧ ∃ (n v' : Nat) (dk : Array UInt8), w' = (putRow (fun (b : UInt8) => Value.int .u8 (b.toNat : Int)) w blk off dk).drewN n ∧ Lib.FmtInv d.size u 0 v' dk := Any.internal_strconv_formatBase10 laysn285 blk off cap u d w hH hu hu64 hsz
theorem repeat_c (s : ByteArray) (c : Nat) (w : World) (hc : c ≤ 9223372036854775807) (hlen : s.size * c ≤ 140737488355328) :
    Calls Tryz.prog 40 #[.string s, .int .i64 c] w fun e w' => e = .returned (.string ⟨(Lib.repeatL s.data.toList c).toArray⟩) ∧ Below w.heap.size w w' := Any.strings_Repeat laysn105 laysX s c w hc hlen
theorem trim_c (s : ByteArray) (c : UInt8) (hc : c.toNat < 128) (w : World) :
    Calls Tryz.prog 18 #[.string s, .string ⟨#[c]⟩] w fun e w' => e = .returned (.string ⟨(Lib.trimLeftB s.data.toList c).toArray⟩) ∧ w' = w := Any.strings_TrimLeft_one laysn161 s c hc w
def BldP (B b : Nat) (l : List UInt8) (w : World) : Prop := Lib.IsBuilder 74 5 B b (Lib.byteCells l) w
theorem wstr_c (B b : Nat) (l : List UInt8) (s : ByteArray) (w : World) (h : BldP B b l w) (hlen : l.length + s.size ≤ 140737488355328) (hBw : B ≤ w.heap.size) :
    Calls Tryz.prog 39 #[.pointer (some ⟨b, 0, none⟩), .string s] w fun e w' => e = .returned (.tuple #[.int .i64 s.size, .nilIface]) ∧ BldP B b (l ++ s.data.toList) w' ∧ Below B w w' := by
  refine (Any.Builder_WriteString laysn166 laysX B b (Lib.byteCells l) s w h (by rw [Lib.byteCells_length]; exact hlen) hBw).mono ?_
  rintro e w' ⟨rfl, h1, h2⟩
  refine ⟨rfl, .inr ?_, h2⟩
  rw [Lib.byteCells_append, ← Lib.strCells_eq]
  exact h1
theorem bstr_c (B b : Nat) (l : List UInt8) (w : World) (h : BldP B b l w) (hBw : B ≤ w.heap.size) :
    Calls Tryz.prog 41 #[.pointer (some ⟨b, 0, none⟩)] w fun e w' => e = .returned (.string ⟨l.toArray⟩) ∧ Below B w w' := Any.Builder_String_any laysn169 laysX B b l w h hBw
theorem bldAt_below {T e : TypeId} {B b : Nat} {p : Value} {bs : List Value} {w w' : World} (h : Lib.BuilderAt T e B b p bs w) (hb : Below w.heap.size w w') : Lib.BuilderAt T e B b p bs w' := by
  obtain ⟨h1, v, h2, h3, h4⟩ := h
  have lt : ∀ {k : Nat} {o : Obj}, w.heap[k]? = some o → k < w.heap.size := fun {k o} hk => by
    rcases Nat.lt_or_ge k w.heap.size with h6 | h6
    · exact h6
    · rw [Array.getElem?_eq_none h6] at hk; cases hk
  refine ⟨h1, v, (hb.block _ (lt h2)).trans h2, ⟨h3.1, ?_⟩, h4⟩
  rcases h3.2 with h5 | ⟨g, cap, cur, h5, h6, h7, h8⟩
  · exact .inl h5
  · exact .inr ⟨g, cap, cur, h5, h6, (hb.block _ (lt h7)).trans h7, h8⟩
theorem BldP.below {B b : Nat} {l : List UInt8} {w w' : World} (h : BldP B b l w) (hb : Below w.heap.size w w') : BldP B b l w' := h.elim (fun x => .inl (bldAt_below x hb)) (fun x => .inr (bldAt_below x hb))
theorem BldP.new (w : World) : BldP w.heap.size w.heap.size [] (w.alloc (.cells #[.pointer none, .slice none 0 0] 74)) :=
  .inl ⟨Nat.le_refl _, .slice none 0 0, by first | (show (w.heap.push _)[w.heap.size]? = _; simp; done) | (rw [World.alloc_eq]; simp), ⟨rfl, .inl ⟨rfl, rfl⟩⟩, by simp [Value.ownBlock]⟩
theorem holds_zero0 (w : World) (T : TypeId) (nd : Nat) (hs : nd ≤ 24) : Holds (fun (b : UInt8) => Value.int .u8 (b.toNat : Int)) (w.alloc (.cells Lib.zeros24 T)) w.heap.size 0 (Array.replicate nd (0 : UInt8)) := fun j hj => by
  have hj' : j < nd := by simpa using hj
  refine ⟨?_, World.frozen?_alloc_new _ _ _ _⟩
  rw [World.cell?_alloc_new, Lib.zeros24_at _ (by omega), getElem!_pos _ j hj]
  simp
theorem fin0 (w : World) (o : Obj) (dk : Array UInt8) (k : Nat) : Below w.heap.size w ((putRow (fun (b : UInt8) => Value.int .u8 (b.toNat : Int)) (w.alloc o) w.heap.size 0 dk).drewN k) := by
  rw [alloc_eq_grow]
  obtain ⟨os', _, e⟩ := putRow_grow_new (fun (b : UInt8) => Value.int .u8 (b.toNat : Int)) w #[o] w.heap.size 0 dk (Nat.le_refl _)
  rw [e]
  exact ⟨rfl, rfl, rfl, by simp [grow, World.drewN], fun j hj => heap_grow_old (w.drewN k) os' hj⟩
theorem fmtu_in (u : Nat) (hu64 : u < 18446744073709551616) (w : World) (htab : TbP w) :
    Calls Tryz.prog 67 #[.int .u64 u, .int .i64 10] w fun e w' => e = .returned (.string ⟨(Lib.decDigits u).toArray⟩) ∧ Below w.heap.size w w' := by
  by_cases hs : u < 100
  · have hw1 : wrap64 (u : Int) = (u : Int) := by unfold wrap64; omega
    have hd1 : decide ((u : Int) < 100) = true := decide_eq_true (by omega)
    have hd2 : decide (u < 100) = true := decide_eq_true hs
    go_enter Tryz.func67, Tryz.ntmps67
    go_wp2_with (refine (small_c u hs _).mono ?_; rintro e w' ⟨rfl, rfl⟩)
    go_ret
    exact ⟨rfl, Below.refl _ _⟩
  · have hu1 : 1 ≤ u := by omega
    have hnd20 : Lib.nDigits u ≤ 20 := by have := Lib.numDigits_eq u hu1 hu64; split at this <;> omega
    have hd1 : decide ((u : Int) < 100) = false := decide_eq_false (by omega)
    have hd2 : decide (u < 100) = false := decide_eq_false hs
    have hal : Program.arrayLen Tryz.prog 121 = 24 := by simp [Program.arrayLen, Tryz.underlying121]
    have hsl1 : ∀ W, (Instr.sliceAt 121 (.pointer (some ⟨w.heap.size, 0, none⟩)) none (some (.int .i64 (Lib.nDigits u : Int))) none).run Tryz.prog W = .ok (.slice (some ⟨w.heap.size, 0, none⟩) (Lib.nDigits u) 24) W := fun W => by
      rw [run_sliceAt_array_h W 121 ⟨w.heap.size, 0, none⟩ (by simp [Program.arrayLen, Program.elem, Tryz.underlying121]) .i64 (Lib.nDigits u : Int) (by omega) (by rw [hal]; omega)]
      go_simp
    have hH0 := holds_zero0 w 121 (Lib.nDigits u) (by omega)
    have hfmt := fmt10_c w.heap.size 0 24 u (Array.replicate (Lib.nDigits u) 0) (w.alloc (.cells Lib.zeros24 121)) hH0 (by rw [Array.size_replicate]; exact Lib.lt_pow_nDigits u) hu64 (by rw [Array.size_replicate]; omega)
    rw [Array.size_replicate] at hfmt
    have HH0 : Hid (Holds (fun (b : UInt8) => Value.int .u8 (b.toNat : Int)) (w.alloc (.cells Lib.zeros24 121)) w.heap.size 0 (Array.replicate (Lib.nDigits u) (0 : UInt8))) := hH0
    clear hH0 hal
    go_enter Tryz.func67, Tryz.ntmps67
    go_wp2_with (go_at_call 89; refine (ndig_c u hu1 hu64 _ (Lib.tabIs_alloc htab _)).mono ?_; rintro e w' ⟨rfl, rfl⟩)
    refine hfmt.mono ?_
    rintro e w' ⟨rfl, k, v', dk, rfl, hF⟩
    have hcv : (convert 22 9 (.slice (some ⟨w.heap.size, 0, none⟩) (Lib.nDigits u) 24)).run Tryz.prog ((putRow (fun (b : UInt8) => Value.int .u8 (b.toNat : Int)) (w.alloc (.cells Lib.zeros24 121)) w.heap.size 0 dk).drewN k) = .ok (.string ⟨(Lib.decDigits u).toArray⟩) ((putRow (fun (b : UInt8) => Value.int .u8 (b.toNat : Int)) (w.alloc (.cells Lib.zeros24 121)) w.heap.size 0 dk).drewN k) := by
      have h := run_convert_bytes_back (P := Tryz.prog) ((putRow (fun (b : UInt8) => Value.int .u8 (b.toNat : Int)) (w.alloc (.cells Lib.zeros24 121)) w.heap.size 0 dk).drewN k) 22 9 5 ⟨w.heap.size, 0, none⟩ 24 (Lib.decDigits u) Tryz.underlying22 Tryz.underlying5 Tryz.underlying9 (fun j hj => by
        rw [Lib.row_is_numeral hF j hj, Lib.add_plain, World.cell?_drewN]
        exact cell?_putRow (fun (b : UInt8) => Value.int .u8 (b.toNat : Int)) _ w.heap.size 0 _ dk HH0.out (by rw [hF.size, Array.size_replicate]) j (by rw [hF.size]; rw [Lib.decDigits_length] at hj; exact hj))
      rw [Lib.decDigits_length] at h
      exact h
    go_wp2
    go_ret
    exact ⟨rfl, fin0 w _ dk k⟩
theorem fmtu_c (u : Nat) (hu64 : u < 18446744073709551616) (w : World) (htab : TbP w) :
    Calls Tryz.prog 38 #[.int .u64 u, .int .i64 10] w fun e w' => e = .returned (.string ⟨(Lib.decDigits u).toArray⟩) ∧ Below w.heap.size w w' := by
  go_enter Tryz.func38, Tryz.ntmps38
  go_wp2_with fail
  refine (fmtu_in u hu64 w htab).mono ?_
  rintro e w' ⟨rfl, hb⟩
  go_wp2_with fail
  go_ret
  exact ⟨rfl, hb⟩
end Go.Proofs.YtpebgjpfgfimgaaGreatDoor
namespace Go.Proofs.YtpebgjpfgfimgaaGreatDoor
open Go.RowKit
set_option maxRecDepth 100000
set_option maxHeartbeats 0
structure OwR (w : World) (hB : Nat) (lv : Value) (k : Nat) (es : List Nat) : Prop where
  row : w.ownsRow hB 34 1 lv k (cellsU es)
theorem OwR.below {w w' : World} {hB k : Nat} {lv : Value} {es : List Nat} (h : OwR w hB lv k es) (hb : Below w.heap.size w w') : OwR w' hB lv k es := by
  refine ⟨⟨h.row.1, ?_⟩⟩
  rcases h.row.2 with h2 | ⟨g, cap, cur, h2, h3, h4, h5⟩
  · exact .inl h2
  · have hg : g < w.heap.size := by
      rcases Nat.lt_or_ge g w.heap.size with h6 | h6
      · exact h6
      · rw [Array.getElem?_eq_none h6] at h4; cases h4
    exact .inr ⟨g, cap, cur, h2, h3, (hb.block _ hg).trans h4, h5⟩
theorem OwR.set {w : World} {hB k : Nat} {lv : Value} {es : List Nat} (h : OwR w hB lv k es) (g o : Nat) (v : Value) (hg : g < hB) : OwR (w.setCell ⟨g, o, none⟩ v) hB lv k es := ⟨ownsRow_setCell_below h.row (a := ⟨g, o, none⟩) hg v⟩
theorem OwR.cells {w : World} {hB k : Nat} {lv : Value} {es : List Nat} (h : OwR w hB lv k es) : ∃ p cap, lv = .slice p k cap ∧ ∀ j, j < k → ∃ g, p = some ⟨g, 0, none⟩ ∧ w.cell? ⟨g, j, none⟩ = some (U (es.getD j 0)) := by
  rcases h.row.2 with ⟨h1, h2⟩ | ⟨g, cap, cur, h1, h2, h3, h4⟩
  · exact ⟨none, 0, by rw [h1, h2], fun j hj => by omega⟩
  · refine ⟨_, cap, h1, fun j hj => ⟨g, rfl, ?_⟩⟩
    have h5 := h.row
    rw [h1] at h5
    rw [h5.cellAt j (by omega)]
    have hl : es.length = k := by have := h.row.1; unfold cellsU at this; rw [List.length_map] at this; omega
    unfold cellsU
    rw [List.getElem?_map, List.getElem?_eq_getElem (by omega), List.getD_eq_getElem?_getD, List.getElem?_eq_getElem (by omega)]
    rfl
theorem OwR.cap {w : World} {hB k c : Nat} {p : Option Addr} {es : List Nat} (h : OwR w hB (.slice p k c) k es) : k ≤ c := by
  rcases h.row.2 with ⟨h1, h2⟩ | ⟨g, cap, cur, h1, h2, h3, h4, _⟩
  · simp only [Value.slice.injEq] at h1; omega
  · simp only [Value.slice.injEq] at h1; omega
theorem OwR.lt {w : World} {hB k : Nat} {lv : Value} {es : List Nat} (h : OwR w hB lv k es) : ∀ b, lv.ownBlock = some b → hB ≤ b ∧ b < w.heap.size := h.row.lt
theorem At.growN {w w' : World} {p : Option Addr} {n c : Nat} {xs : List Nat} {row : Option Nat} (h : At w p n c xs) (hg : w.grownBy w' row) (hne : ∀ g off, p = some ⟨g, off, none⟩ → n ≠ 0 → some g ≠ row) : At w' p n c xs := by
  refine ⟨h.len, h.cap, h.big, h.dig, ?_⟩
  rcases h.cells with h1 | ⟨g', off, h1, h2⟩
  · exact .inl h1
  · by_cases h0 : n = 0
    · exact .inl h0
    · exact .inr ⟨g', off, h1, fun j hj => hg.cell (h2 j hj) (hne g' off h1 h0)⟩
end Go.Proofs.YtpebgjpfgfimgaaGreatDoor
namespace Go.Proofs.YtpebgjpfgfimgaaGreatDoor
open Go.RowKit Go.Shelf
set_option maxRecDepth 100000
set_option maxHeartbeats 0
theorem p19_pow {k a K : Nat} (h : P19 ^ k ≤ a) (hK : a < 2 ^ K) : 63 * k < K := by
  have h1 : (2 ^ 63 : Nat) ^ k ≤ P19 ^ k := Nat.pow_le_pow_left (by decide) k
  rw [← Nat.pow_mul] at h1
  exact (Nat.pow_lt_pow_iff_right (by decide : 1 < 2)).1 (Nat.lt_of_le_of_lt (Nat.le_trans h1 h) hK)
theorem own_blk9 {B : Nat} {w : World} {p : Option Addr} {m : Nat} {zs : List Nat} (h : Own B w p m zs) (h8 : m ≤ 8192) : ∀ g off, p = some ⟨g, off, none⟩ → m ≠ 0 → B ≤ g ∧ g < w.heap.size := fun g off e hm => by
  obtain ⟨g1, e1, h2, h3⟩ := h.mem.resolve_left hm
  rw [e] at e1; simp only [Option.some.injEq, Addr.mk.injEq, and_true] at e1
  refine ⟨by omega, ?_⟩
  have h4 := (h.at_ h8).cells.resolve_left hm
  obtain ⟨g4, o4, e4, hc⟩ := h4
  rw [e] at e4; simp only [Option.some.injEq, Addr.mk.injEq, and_true] at e4
  rw [e4.1]; exact World.block_lt_of_cell? w _ (hc 0 (by omega))
theorem padT_drop {es : List Nat} {k i : Nat} (hl : es.length = k) (hi : i < k) : padT (es.drop (k - i)) ++ pad19 (es.getD (k - 1 - i) 0) = padT (es.drop (k - (i + 1))) := by
  have e : es.drop (k - (i + 1)) = es.getD (k - 1 - i) 0 :: es.drop (k - i) := by
    rw [show k - (i + 1) = k - 1 - i by omega, show k - i = (k - 1 - i) + 1 by omega, List.getD_eq_getElem?_getD, List.getElem?_eq_getElem (by omega), List.drop_eq_getElem_cons (by omega)]; rfl
  rw [e]; rfl
theorem padded_ok {p : Option Addr} {m c a : Nat} {xs : List Nat} {w : World} (h : At w p m c xs) (hx : Nf B64 xs a) (hm : m ≤ 8192) (ha : a < 2 ^ KKN) (ht : TbP w) :
    Calls Tryz.prog 19 #[.slice p m c] w fun en w' => ∃ l : List UInt8, en = .returned (.string ⟨l.toArray⟩) ∧ (∀ c, c ∈ l → IsDg c) ∧ dval l = a ∧ Below w.heap.size w w' := by
  obtain ⟨i0, hi, hz0, hz1, hz2⟩ := info_parts Tryz.infoU64
  obtain ⟨KK, hKK, hK2⟩ : ∃ K : Nat, K = KKN ∧ K = 20000 := ⟨KKN, rfl, rfl⟩
  rw [← hKK] at ha
  have HT : Hid (TbP w) := ht
  have HA : Hid (a < 2 ^ KK ∧ KK = 20000) := ⟨ha, hK2⟩
  have AT0 : Hid (At w p m c xs ∧ Nf B64 xs a ∧ m ≤ 8192) := ⟨h, hx, hm⟩
  have HB : Hid (∀ g off, p = some ⟨g, off, none⟩ → m ≠ 0 → g < w.heap.size) := fun g off e hm0 => by
    obtain ⟨g1, o1, e1, hc⟩ := h.cells.resolve_left hm0
    rw [e] at e1; simp only [Option.some.injEq, Addr.mk.injEq, and_true] at e1
    rw [e1.1]; exact World.block_lt_of_cell? w _ (hc 0 (by omega))
  clear h hx hm ha hKK hK2 ht
  go_enter Tryz.func19, Tryz.ntmps19
  go_wp2_with fail
  have hbw : Below w.heap.size w w := Below.refl _ _
  go_loopg [0, 3] a (fun gk av lv wr => ∃ (x k m1 c1 : Nat) (es xs1 : List Nat) (p1 : Option Addr), gk = x ∧ av = .slice p1 m1 c1 ∧ At wr p1 m1 c1 xs1 ∧ Nf B64 xs1 x ∧ m1 ≤ 8192 ∧ OwR wr w.heap.size lv k es ∧ es.length = k ∧ (∀ y, y ∈ es → y < P19) ∧ pval es + P19 ^ k * x = a ∧ k ≤ 401 ∧ (∀ g off, p1 = some ⟨g, off, none⟩ → m1 ≠ 0 → some g ≠ lv.ownBlock) ∧ Below w.heap.size w wr)
  case atStart => exact ⟨a, 0, m, c, [], xs, p, rfl, rfl, AT0.out.1, AT0.out.2.1, AT0.out.2.2, ⟨⟨rfl, .inl ⟨rfl, rfl⟩⟩⟩, rfl, fun y hy => absurd hy (by simp), by show 0 + P19 ^ 0 * a = a; rw [Nat.pow_zero]; omega, by omega, fun g off _ _ h => (by cases h), hbw⟩
  case round =>
    obtain ⟨x, k, m1, c1, es, xs1, p1, rfl, rfl, xA, xN, xm, xO, xl, xd, xv, xk, xs2, hbr⟩ := hrel
    clear hbw HB AT0
    have hbw := hbr
    have AT1 : Hid (At wr p1 m1 c1 xs1) := xA
    have NF1 : Hid (Nf B64 xs1 gk ∧ m1 ≤ 8192) := ⟨xN, xm⟩
    have OW : Hid (OwR wr w.heap.size u3 k es) := xO
    have HE : Hid (es.length = k ∧ (∀ y, y ∈ es → y < P19) ∧ pval es + P19 ^ k * gk = a ∧ k ≤ 401) := ⟨xl, xd, xv, xk⟩
    have HSP : Hid (∀ g off, p1 = some ⟨g, off, none⟩ → m1 ≠ 0 → some g ≠ u3.ownBlock) := xs2
    have hmx : m1 = 0 ↔ gk = 0 := by rw [← xN.zero_iff B64_one, ← xA.len]; exact List.length_eq_zero_iff
    clear xA xN xO xl xd xv xs2 hbr xm xk
    by_cases hm1 : m1 = 0
    · obtain rfl : gk = 0 := hmx.1 hm1
      clear hmx
      subst hm1
      obtain ⟨pp, cc, rfl, hcl⟩ := OW.out.cells
      have HC : Hid (∀ j, j < k → ∃ g, pp = some ⟨g, 0, none⟩ ∧ wr.cell? ⟨g, j, none⟩ = some (U (es.getD j 0))) := hcl
      clear hcl AT1 HSP NF1 OW
      go_wp2_with fail
      obtain ⟨W0, hW0⟩ : ∃ W0, W0 = (wr.alloc (.cells #[.pointer none, .slice none 0 0] 74)) := ⟨_, rfl⟩
      have BL0 : Hid (BldP wr.heap.size wr.heap.size [] W0) := by rw [hW0]; exact BldP.new wr
      have HB0 : Hid (Below wr.heap.size wr W0) := by rw [hW0]; exact below1 wr _
      rw [← hW0]
      clear hW0
      obtain ⟨gb, hgb⟩ : ∃ g, g = wr.heap.size := ⟨_, rfl⟩
      rw [← hgb] at BL0 HB0
      have HGB : Hid (gb = wr.heap.size) := hgb
      rw [← hgb]
      clear hgb
      obtain ⟨V0, hV0⟩ : ∃ V, V = wr := ⟨_, rfl⟩
      subst hV0
      have HT0 : Hid (TbP V0) := HT.out.below hbw
      clear HT
      have hbw0 := hbw
      clear hbw
      go_loopg [26] k (fun gk iv wr => ∃ (i : Nat), i + gk = k ∧ iv = .int .i64 (i : Int) ∧ BldP gb gb (padT (es.drop (k - i))) wr ∧ Below gb V0 wr)
      case atStart => exact ⟨0, by omega, rfl, by rw [Nat.sub_zero, List.drop_of_length_le (by rw [HE.out.1]; exact Nat.le_refl _)]; exact BL0.out, HB0.out⟩
      case round =>
        obtain ⟨i, hig, rfl, xb, hbr⟩ := hrel
        clear BL0 HB0
        have BL : Hid (BldP gb gb (padT (es.drop (k - i))) wr) := xb
        have hbw := hbr
        clear xb hbr
        by_cases hi2 : i < k
        · obtain ⟨g1, rfl⟩ : ∃ g, gk = g + 1 := ⟨gk - 1, by omega⟩
          obtain ⟨j, hj⟩ : ∃ j, j = k - 1 - i := ⟨_, rfl⟩
          obtain ⟨e, he⟩ : ∃ e, e = es.getD j 0 := ⟨_, rfl⟩
          obtain ⟨gp, rfl, hc0⟩ := HC.out j (by omega)
          have hcj : wr.cell? ⟨gp, j, none⟩ = some (U e) := by rw [he]; exact (hbw.cell (p := ⟨gp, j, none⟩) (by rw [HGB.out]; exact World.block_lt_of_cell? V0 _ hc0)).trans hc0
          have HE2 : Hid (e < P19 ∧ j = k - 1 - i ∧ e = es.getD j 0 ∧ i < k ∧ i + (g1 + 1) = k) := ⟨by rw [he, List.getD_eq_getElem?_getD, List.getElem?_eq_getElem (by rw [HE.out.1]; omega)]; exact HE.out.2.1 _ (List.getElem_mem _), hj, he, hi2, hig⟩
          have hk401 := HE.out.2.2.2
          have hj2 : 0 ≤ (j : Int) ∧ (j : Int) < (k : Int) := by omega
          have hj3 : j < k := by omega
          have wi1 : wrap64 ((k : Int) - 1) = ((k - 1 : Nat) : Int) := by simp only [wrap64]; omega
          have wi2 : wrap64 (((k - 1 : Nat) : Int) - (i : Int)) = (j : Int) := by simp only [wrap64]; omega
          have wi3 : wrap64 ((i : Int) + 1) = ((i + 1 : Nat) : Int) := by simp only [wrap64]; omega
          have hd1 : decide ((i : Int) < (k : Int)) = true := decide_eq_true (by omega)
          have hd2 : decide (i < k) = true := decide_eq_true (by omega)
          have hcj2 : wr.cell? ⟨gp, k - 1 - i, none⟩ = some (U e) := by rw [← hj]; exact hcj
          clear hcj wi1 wi2 hj2 hj3
          clear he hj hc0
          go_wp2_with fail
          clear hd1 hd2 hcj2
          have HSG : Hid (gb ≤ wr.heap.size) := by have := hbw.size; have := HGB.out; show _ ≤ _; omega
          refine (fmtu_c e (by have := HE2.out.1; unfold P19 at this; omega) wr (HT0.out.below (HGB.out ▸ hbw))).mono ?_
          rintro en v1 ⟨rfl, hb1⟩
          have BL1 : Hid (BldP gb gb (padT (es.drop (k - i))) v1) := BL.out.below hb1
          have hbw1 := hbw.trans (hb1.mono HSG.out)
          clear BL hbw
          obtain ⟨ds, hds⟩ : ∃ ds : ByteArray, ds = ⟨(Lib.decDigits e).toArray⟩ := ⟨_, rfl⟩
          rw [← hds]
          obtain ⟨sn, hsn⟩ : ∃ n : Nat, n = 19 - ds.size := ⟨_, rfl⟩
          have hsz : ds.size = (Lib.decDigits e).length := by rw [hds]; rfl
          have hs19 : ds.size ≤ 19 := by rw [hsz]; exact (pad_len HE2.out.1).2
          have wq : wrap64 (19 - (ds.size : Int)) = (sn : Int) := by simp only [wrap64]; omega
          have HD : Hid (ds = ⟨(Lib.decDigits e).toArray⟩ ∧ sn = 19 - ds.size ∧ ds.size ≤ 19 ∧ ds.size = (Lib.decDigits e).length) := ⟨hds, hsn, hs19, hsz⟩
          clear hds hsn hsz hs19
          go_wp2_with fail
          have HSG1 : Hid (gb ≤ v1.heap.size) := by have := HSG.out; have := hb1.size; show _ ≤ _; omega
          refine (repeat_c ⟨#[48]⟩ sn v1 (by have := HD.out.2.1; omega) (by have := HD.out.2.1; show 1 * sn ≤ _; omega)).mono ?_
          rintro en v2 ⟨rfl, hb2⟩
          have BL2 : Hid (BldP gb gb (padT (es.drop (k - i))) v2) := BL1.out.below hb2
          have hbw2 := hbw1.trans (hb2.mono HSG1.out)
          have HSG2 : Hid (gb ≤ v2.heap.size) := by have := HSG1.out; have := hb2.size; show _ ≤ _; omega
          clear BL1 hbw1 hb1 wq
          obtain ⟨rs, hrs⟩ : ∃ rs : ByteArray, rs = ⟨(Lib.repeatL [48] sn).toArray⟩ := ⟨_, rfl⟩
          rw [show (⟨(Lib.repeatL (⟨#[48]⟩ : ByteArray).data.toList sn).toArray⟩ : ByteArray) = rs from hrs.symm]
          have HRS : Hid (rs.data.toList = List.replicate sn 48 ∧ rs.size = sn) := by rw [hrs, repl1]; exact ⟨rfl, by show (List.replicate sn (48 : UInt8)).toArray.size = sn; simp⟩
          clear hrs hb2
          have HPL : Hid ((padT (es.drop (k - i))).length ≤ 7619) := by show _ ≤ _; rw [padT_len _ (fun y hy => HE.out.2.1 y (List.mem_of_mem_drop hy)), List.length_drop, HE.out.1]; omega
          go_wp2_with fail
          refine (wstr_c gb gb (padT (es.drop (k - i))) rs v2 BL2.out (by have := HPL.out; have := HRS.out.2; have := HD.out; omega) HSG2.out).mono ?_
          rintro en v3 ⟨rfl, hB3, hb3⟩
          have BL3 : Hid (BldP gb gb (padT (es.drop (k - i)) ++ rs.data.toList) v3) := hB3
          have HSG3 : Hid (gb ≤ v3.heap.size) := by have := HSG2.out; have := hb3.size; show _ ≤ _; omega
          have hbw3 := hbw2.trans hb3
          clear hB3 hb3 hbw2 BL2
          go_wp2_with fail
          refine (wstr_c gb gb (padT (es.drop (k - i)) ++ rs.data.toList) ds v3 BL3.out (by rw [List.length_append, HRS.out.1, List.length_replicate]; have := HPL.out; have := HD.out; omega) HSG3.out).mono ?_
          rintro en v4 ⟨rfl, hB4, hb4⟩
          have hbw4 := hbw3.trans hb4
          clear hb4 hbw3 BL3
          go_wp2_with fail
          go_roundg g1
          case measure => omega
          case rel =>
            refine ⟨i + 1, by have := HE2.out.2.2.2.2; omega, by first | rfl | go_num, ?_, hbw4⟩
            have h1 := HE2.out
            have h2 := padT_drop HE.out.1 h1.2.2.2.1
            rw [← h1.2.1, ← h1.2.2.1] at h2
            rw [← h2]
            unfold pad19
            rw [← HD.out.2.2.2, ← HD.out.2.1, ← HRS.out.1, ← List.append_assoc]
            have h3 : ds.data.toList = Lib.decDigits e := by rw [HD.out.1]
            rw [h3] at hB4
            exact hB4
        · obtain rfl : i = k := by omega
          have hd1 : decide ((i : Int) < (i : Int)) = false := decide_eq_false (by omega)
          have hd2 : decide (i < i) = false := decide_eq_false (by omega)
          have HSG : Hid (gb ≤ wr.heap.size) := by have := hbw.size; have := HGB.out; show _ ≤ _; omega
          clear hi2 hig
          go_wp2_with fail
          refine (bstr_c gb gb (padT (es.drop (i - i))) wr BL.out HSG.out).mono ?_
          rintro en v1 ⟨rfl, hb1⟩
          have hbw1 := hbw.trans hb1
          clear hbw hb1
          rw [Nat.sub_self, List.drop_zero]
          go_wp2_with fail
          go_ret
          exact ⟨_, rfl, padT_dg es, by rw [padT_val es HE.out.2.1]; have := HE.out.2.2.1; omega, Below.on hbw0 (HGB.out ▸ hbw1)⟩
    · have hx0 : 1 ≤ gk := by omega
      have hk400 : k ≤ 400 := by have h1 := HE.out.2.2.1; have h2 := HA.out; have h3 : P19 ^ k * 1 ≤ P19 ^ k * gk := Nat.mul_le_mul_left _ hx0; have h4 := p19_pow (k := k) (a := a) (K := KK) (by omega) h2.1; omega
      have hd1 : decide ((0 : Int) < (m1 : Int)) = true := decide_eq_true (by omega)
      have hd2 : decide (0 < m1) = true := decide_eq_true (by omega)
      clear hmx hm1
      go_wp2_with fail
      clear hd1 hd2
      have HBK : Hid (∀ b, u3.ownBlock = some b → w.heap.size ≤ b ∧ b < wr.heap.size) := OW.out.lt
      refine (divw_nf AT1.out NF1.out.1 NF1.out.2 10000000000000000000 (by decide) (by decide)).mono ?_
      rintro e v1 ⟨⟨p2, m2, zs, rfl, hO, hN, hm2⟩, hb1⟩
      have AT2 : Hid (Own wr.heap.size v1 p2 m2 zs ∧ Nf B64 zs (gk / P19) ∧ m2 ≤ 8192) := ⟨hO, hN, hm2⟩
      clear hO hN hm2 AT1 NF1 HSP
      have OW1 : Hid (OwR v1 w.heap.size u3 k es) := OW.out.below hb1
      have HS1 : Hid (wr.heap.size ≤ v1.heap.size) := hb1.size
      clear OW
      have hbw1 := Below.on hbw hb1
      clear hbw hb1
      obtain ⟨r, hr⟩ : ∃ r, r = gk % 10000000000000000000 := ⟨_, rfl⟩
      rw [← hr]
      have HR : Hid (r = gk % P19 ∧ 1 ≤ gk) := ⟨hr, hx0⟩
      clear hr hx0
      have OWA : Hid ((v1.alloc (.cells #[U r] 34)).ownsRow w.heap.size 34 1 u3 k (cellsU es)) := OW1.out.row.alloc _
      have HSZ : Hid (w.heap.size ≤ (v1.alloc (.cells #[U r] 34)).heap.size ∧ (v1.alloc (.cells #[U r] 34)).heap.size = v1.heap.size + 1) := ⟨by have := hbw1.size; simp; omega, by simp⟩
      clear OW1
      go_wp2_with (at_builtin; refine wpList_append_own_at _ rfl _ _ 23 rfl w.heap.size 34 i0 (.int .u64 0) 1 8 Tryz.underlying23 hi hz0 hz1 hz2 rfl (by decide) _ _ _ rfl OWA.out ⟨v1.heap.size, 0, none⟩ 1 1 [U r] rfl rfl (cell_one_new _ _ _) (by intro u hu; simp at hu; subst hu; rfl) (by unfold maxLen; omega) (by omega) HSZ.out.1 ?_; intro v6 w6 hown6 hgr6 hnil6 hat6)
      go_roundg (gk / P19)
      case measure => exact Nat.div_lt_self HR.out.2 (by decide)
      case rel =>
        have hb2 := own_blk9 AT2.out.1 AT2.out.2.2
        have hbk := HBK.out
        have hs := HSZ.out
        have hs1 := HS1.out
        have hbwa : Below w.heap.size w (v1.alloc (.cells #[U r] 34)) := Below.on hbw1 (below1 v1 _)
        refine ⟨_, k + 1, m2, m2, es ++ [r], zs, p2, rfl, rfl, ((AT2.out.1.at_ AT2.out.2.2).alloc _).growN hgr6 ?_, AT2.out.2.1, AT2.out.2.2, ⟨?_⟩, by rw [List.length_append, HE.out.1]; rfl, ?_, ?_, ?_, ?_, ?_⟩
        · intro g off e0 hm h; have h1 := hb2 g off e0 hm; have h2 := hbk g h.symm; omega
        · have e0 : cellsU (es ++ [r]) = cellsU es ++ [U r] := by unfold cellsU; rw [List.map_append]; rfl
          rw [e0]; exact hown6
        · intro y hy; rcases List.mem_append.1 hy with h1 | h1
          · exact HE.out.2.1 y h1
          · rw [List.mem_singleton.1 h1, HR.out.1]; exact Nat.mod_lt _ (by decide)
        · rw [pval_snoc, HE.out.1, Nat.pow_succ, HR.out.1, Nat.mul_assoc, Nat.add_assoc, ← Nat.mul_add, Nat.mod_add_div]; exact HE.out.2.2.1
        · omega
        · intro g off e0 hm h; have h1 := hb2 g off e0 hm; rcases hat6 with h3 | h3
          · rw [h3] at h; have h2 := hbk g h.symm; omega
          · rw [h3] at h; simp only [Option.some.injEq] at h; omega
        · exact hbwa.grown hgr6 hbwa.size fun b hb => (hbk b hb).1
def TxA (xs : List Nat) (s : ByteArray) (e : Int) : Prop := (formB xs = true ∧ valB B64 xs < TXL ∧ s = ⟨(Lib.decDigits (valB B64 xs)).toArray⟩ ∧ e = 0) ∨ (formB xs = true ∧ ¬ valB B64 xs < TXL ∧ s = ⟨#[]⟩ ∧ e = 5) ∨ (formB xs = false ∧ s = ⟨#[]⟩ ∧ e = 2)
theorem TxA.uniq {xs : List Nat} {s t : ByteArray} {e f : Int} (h : TxA xs s e) (k : TxA xs t f) : s = t ∧ e = f := by
  rcases h with ⟨h1, h2, rfl, rfl⟩ | ⟨h1, h2, rfl, rfl⟩ | ⟨h1, rfl, rfl⟩ <;> rcases k with ⟨k1, k2, rfl, rfl⟩ | ⟨k1, k2, rfl, rfl⟩ | ⟨k1, rfl, rfl⟩
  · exact ⟨rfl, rfl⟩
  · exact absurd h2 k2
  · rw [h1] at k1; cases k1
  · exact absurd k2 h2
  · exact ⟨rfl, rfl⟩
  · rw [h1] at k1; cases k1
  · rw [h1] at k1; cases k1
  · rw [h1] at k1; cases k1
  · exact ⟨rfl, rfl⟩
theorem txl_bits {a : Nat} (h : 19600 < bitsN a) : ¬ a < TXL := by
  have h0 : a ≠ 0 := fun e => by rw [e, bitsN_zero] at h; omega
  have h1 := bitsN_le a h0
  have h2 : (10 : Nat) ^ TXN ≤ 2 ^ (bitsN a - 1) := ten_pow (by unfold TXN; omega)
  unfold TXL
  omega
theorem bits_kk {a : Nat} (h : ¬ 19600 < bitsN a) : a < 2 ^ KKN := Nat.lt_of_lt_of_le (bitsN_lt a) (Nat.pow_le_pow_right (by decide) (by unfold KKN; omega))
theorem text_ok {p : Option Addr} {m c : Nat} {xs : List Nat} {w : World} (h : At w p m c xs) (ht : TbP w) :
    Calls Tryz.prog 6 #[.slice p m c] w fun en w' => ∃ s er, en = .returned (.tuple #[.string s, .int .i64 er]) ∧ TxA xs s er ∧ Below w.heap.size w w' := by
  have AT : Hid (At w p m c xs ∧ TbP w) := ⟨h, ht⟩
  have hl := h.len
  clear ht
  cases hf : formB xs with
  | false =>
    have HF : Hid (formB xs = false) := hf
    go_enter Tryz.func6, Tryz.ntmps6
    go_wp2_with fail
    refine (form_false AT.out.1 hf).mono ?_
    rintro e w1 ⟨rfl, rfl⟩
    clear h
    go_wp2_with fail
    go_ret2
    exact ⟨_, _, rfl, .inr (.inr ⟨HF.out, rfl, rfl⟩), Below.refl _ _⟩
  | true =>
    have hnf := formB_nf hf h.dig
    have HF : Hid (formB xs = true ∧ Nf B64 xs (valB B64 xs) ∧ xs.length ≤ 8192 ∧ xs.length = m) := ⟨hf, hnf.1, hnf.2, hl⟩
    have hmz : m = 0 ↔ valB B64 xs = 0 := by rw [← hnf.1.zero_iff B64_one, ← hl]; exact List.length_eq_zero_iff
    clear h hnf
    by_cases hm0 : m = 0
    · have HV : Hid (valB B64 xs = 0) := hmz.1 hm0
      subst hm0
      clear hmz
      go_enter Tryz.func6, Tryz.ntmps6
      go_wp2_with fail
      refine (form_true AT.out.1 hf).mono ?_
      rintro e w1 ⟨rfl, rfl⟩
      clear hf
      go_wp2_with fail
      go_ret2
      refine ⟨_, _, rfl, .inl ⟨HF.out.1, by rw [HV.out]; exact txl_pos, ?_, rfl⟩, Below.refl _ _⟩
      rw [HV.out, Lib.decDigits_one (by decide)]; rfl
    · have hm1 : ((m : Int) == 0) = false := by simp; omega
      obtain ⟨bn, hbn⟩ : ∃ b, b = bitsN (valB B64 xs) := ⟨_, rfl⟩
      have HBN : Hid (bn = bitsN (valB B64 xs)) := hbn
      have HVZ : Hid (valB B64 xs ≠ 0) := fun e => hm0 (hmz.2 e)
      clear hmz
      go_enter Tryz.func6, Tryz.ntmps6
      go_wp2_with fail
      refine (form_true AT.out.1 hf).mono ?_
      rintro e w1 ⟨rfl, rfl⟩
      clear hf
      go_wp2_with fail
      refine (bits_any AT.out.1 (by have := HF.out; omega)).mono ?_
      rintro e w1 ⟨rfl, rfl⟩
      rw [← hbn]
      clear hbn
      by_cases hb : 19600 < bn
      · have hd1 : decide ((19600 : Int) < (bn : Int)) = true := decide_eq_true (by omega)
        have hd2 : decide (19600 < bn) = true := decide_eq_true hb
        have HNL : Hid (¬ valB B64 xs < TXL) := txl_bits (HBN.out ▸ hb)
        go_wp2_with fail
        go_ret2
        exact ⟨_, _, rfl, .inr (.inl ⟨HF.out.1, HNL.out, rfl, rfl⟩), Below.refl _ _⟩
      · have hd1 : decide ((19600 : Int) < (bn : Int)) = false := decide_eq_false (by omega)
        have hd2 : decide (19600 < bn) = false := decide_eq_false hb
        have HKK : Hid (valB B64 xs < 2 ^ KKN) := bits_kk (HBN.out ▸ hb)
        clear hb
        go_wp2_with fail
        clear hd1 hd2
        refine (padded_ok AT.out.1 HF.out.2.1 (by have := HF.out; omega) HKK.out AT.out.2).mono ?_
        rintro e v1 ⟨l, rfl, hdg, hdv, hb1⟩
        have HL : Hid ((∀ c, c ∈ l → IsDg c) ∧ dval l = valB B64 xs) := ⟨hdg, hdv⟩
        clear hdg hdv
        go_wp2_with fail
        refine (trim_c ⟨l.toArray⟩ 48 (by decide) v1).mono ?_
        rintro e v2 ⟨rfl, rfl⟩
        have htr : Lib.trimLeftB (⟨l.toArray⟩ : ByteArray).data.toList 48 = Lib.decDigits (valB B64 xs) := by have h1 := trim_dec l HL.out.1 (by rw [HL.out.2]; exact HVZ.out); rw [HL.out.2] at h1; exact h1
        rw [htr]
        clear htr
        obtain ⟨ds, hds⟩ : ∃ ds : ByteArray, ds = ⟨(Lib.decDigits (valB B64 xs)).toArray⟩ := ⟨_, rfl⟩
        rw [← hds]
        have hsz : ds.size = (Lib.decDigits (valB B64 xs)).length := by rw [hds]; rfl
        have HD : Hid (ds = ⟨(Lib.decDigits (valB B64 xs)).toArray⟩) := hds
        clear hds
        by_cases hlt : valB B64 xs < TXL
        · have hs : ds.size ≤ 4900 := by rw [hsz]; exact txl_le hlt
          have hd1 : decide ((4900 : Int) < (ds.size : Int)) = false := decide_eq_false (by omega)
          have hd2 : decide (4900 < ds.size) = false := decide_eq_false (by omega)
          have HLT : Hid (valB B64 xs < TXL) := hlt
          clear hsz hlt hs
          go_wp2_with fail
          go_ret2
          exact ⟨_, _, rfl, .inl ⟨HF.out.1, HLT.out, HD.out, rfl⟩, hb1⟩
        · have hs : 4900 < ds.size := by rw [hsz]; exact txl_gt hlt
          have hd1 : decide ((4900 : Int) < (ds.size : Int)) = true := decide_eq_true (by omega)
          have hd2 : decide (4900 < ds.size) = true := decide_eq_true hs
          have HLT : Hid (¬ valB B64 xs < TXL) := hlt
          clear hsz hlt hs
          go_wp2_with fail
          go_ret2
          exact ⟨_, _, rfl, .inr (.inl ⟨HF.out.1, HLT.out, rfl, rfl⟩), hb1⟩
theorem rdivsmall3 {p : Option Addr} {n c : Nat} {xs : List Nat} {w : World} (h : At32 w p n c xs) (hn : n ≤ 1099511627776) (d : Nat) (hd : 1 ≤ d) (hdb : d < B32) :
    Calls Tryz.prog 103 #[.slice p n c, .int .u32 d] w fun e w' => ∃ g m' zs r, e = .returned (.tuple #[.slice (some ⟨g, 0, none⟩) m' m', .int .u32 r]) ∧ w.heap.size ≤ g ∧ g < w'.heap.size ∧ At32 w' (some ⟨g, 0, none⟩) m' m' zs ∧ Nf B32 zs (valB B32 xs / d) ∧ m' ≤ n ∧ r = ((valB B32 xs % d : Nat) : Int) ∧ Below w.heap.size w w' := by
  obtain ⟨i0, hi, hz0, hz1, hz2⟩ := info_parts Tryz.infoU32
  have HLX : Hid (xs.length = n) := h.len
  have hcap := h.cap; have hbig := h.big
  unfold maxLen at hbig
  have hd0 : ((d : Int) == 0) = false := by simp; omega
  have HDB : Hid (1 ≤ d ∧ d < B32) := ⟨hd, hdb⟩
  have hdw : IntKind.u64.wrap (d : Int) = (d : Int) := wrap_mod _ _ (by rw [B32_eq] at hdb; omega)
  clear hdb
  go_enter Tryz.func103, Tryz.ntmps103
  go_wp2_with (at_make; refine wpList_make_full _ rfl _ _ 30 rfl w.heap.size 50 i0 (.int .u32 0) 1 Tryz.underlying30 hi hz0 hz1 _ _ _ _ n rfl rfl (by omega) (by omega) (by rw [hz2]; omega) (by unfold maxLen; omega) (Nat.le_refl _) ?_; intro w1 hown hgrow; have hb := made_blk32 hown hgrow; clear hown hgrow)
  have HO : Hid (DSm w w.heap.size n d xs n 0 (List.replicate n 0) w1) := by
    have hr := hb.1.row (Dig.replicate B32 n B32_pos)
    rw [List.length_replicate] at hr
    refine ⟨hb.2, hr, by omega, ?_⟩
    rw [List.drop_of_length_le (by rw [List.length_replicate]; exact Nat.le_refl _), List.drop_of_length_le (by rw [HLX.out]; exact Nat.le_refl _)]
    simp [valB]
  clear hb
  go_loopg [7, 8] n (fun gk lv iv wr => ∃ (L : Nat) (z : Int) (qs : List Nat), lv = U L ∧ iv = .int .i64 z ∧ z = (gk : Int) - 1 ∧ gk ≤ n ∧ Hid (DSm w w.heap.size n d xs gk L qs wr))
  case atStart => exact ⟨0, (n : Int) - 1, _, rfl, rfl, rfl, Nat.le_refl _, HO⟩
  case round =>
    obtain ⟨L, z, qs, rfl, rfl, hz, hgn, HR⟩ := hrel
    cases gk with
    | zero =>
      obtain rfl : z = -1 := by omega
      have hR := HR.out
      have A32 : At32 wr (some ⟨w.heap.size, 0, none⟩) n n qs := hR.row.at_ (Nat.le_refl _) (by unfold maxLen; omega)
      have hv := hR.val
      rw [List.drop_zero, List.drop_zero] at hv
      have HV : Hid (valB B32 qs = valB B32 xs / d) := by
        show _ = _
        have h1 := hR.lt
        rw [← hv, Nat.mul_comm, Nat.mul_add_div (by omega), Nat.div_eq_of_lt h1, Nat.add_zero]
      have HRM : Hid (L = valB B32 xs % d) := by
        show _ = _
        have h1 := hR.lt
        rw [← hv, Nat.mul_comm, Nat.mul_add_mod, Nat.mod_eq_of_lt h1]
      have HNF : Hid (Nf B32 (trimL qs) (valB B32 xs / d)) := by
        have := Nf.trim hR.row.dig
        rw [HV.out] at this; exact this
      have hle := trimL_length_le qs
      have HLE : Hid ((trimL qs).length ≤ n) := by have := hR.row.len; show _ ≤ _; omega
      have hLw : IntKind.u32.wrap (L : Int) = (L : Int) := wrap32 L (by have := hR.lt; have := HDB.out.2; omega)
      have hbx := hR.bel
      clear hR hv hle hz HR
      go_wp2_with fail
      refine (rnorm_any A32 (by omega)).mono ?_
      rintro e w5 ⟨g5, rfl, hg5, hblk5, hb5⟩
      have hd5 := HNF.out.dig
      generalize trimL qs = us at *
      go_wp2_with fail
      go_ret2
      exact ⟨_, _, us, _, rfl, Nat.le_trans hbx.size hg5, hblk5.lt, hblk5.at_ hd5 rfl (by have := HLE.out; unfold maxLen; omega), HNF.out, HLE.out, by rw [← HRM.out], Below.on hbx hb5⟩
    | succ j =>
      obtain rfl : z = (j : Int) := by omega
      obtain ⟨g, off, rfl, hc⟩ := h.cells.resolve_left (by omega)
      obtain ⟨x, hx⟩ : ∃ x, x = xs.getD j 0 := ⟨_, rfl⟩
      have hcx0 : w.cell? ⟨g, off + j, none⟩ = some (V x) := by rw [hx]; exact hc j (by omega)
      have hcx : wr.cell? ⟨g, off + j, none⟩ = some (V x) := (HR.out.bel.cell (p := ⟨g, off + j, none⟩) (World.block_lt_of_cell? w _ hcx0)).trans hcx0
      have hxb : x < B32 := by rw [hx]; exact h.dig.getD B32_pos j
      have hjn : j < n := by omega
      have hct : wr.cell? ⟨w.heap.size, j, none⟩ = some (V (qs.getD j 0)) := by
        have := HR.out.row.cell j hjn
        rw [Nat.zero_add] at this; exact this
      have hft : wr.frozen? ⟨w.heap.size, j, none⟩ = false := by
        have := HR.out.row.frozen j hjn
        rw [Nat.zero_add] at this; exact this
      have hL := HR.out.lt
      have hdB := HDB.out.2
      rw [B32_eq] at hdB hxb
      obtain ⟨T, hT⟩ : ∃ T, T = L * 4294967296 + x := ⟨_, rfl⟩
      obtain ⟨lh, hlh⟩ : ∃ lh, lh = L * 4294967296 := ⟨_, rfl⟩
      have f1 : IntKind.u64.wrap ((L : Int) * 4294967296) = (lh : Int) := wrap_mod _ _ (by omega)
      have f2 : IntKind.u64.wrap ((lh : Int) + (x : Int)) = (T : Int) := wrap_mod _ _ (by omega)
      have fx : IntKind.u64.wrap (x : Int) = (x : Int) := wrap_mod _ _ (by omega)
      obtain ⟨Q, hQ⟩ : ∃ Q, Q = T / d := ⟨_, rfl⟩
      obtain ⟨R, hRr⟩ : ∃ R, R = T % d := ⟨_, rfl⟩
      have q1 : (T : Int).tdiv (d : Int) = (Q : Int) := by rw [hQ, Int.tdiv_eq_ediv_of_nonneg (Int.natCast_nonneg T)]; norm_cast
      have q2 : (T : Int) / (d : Int) = (Q : Int) := by rw [hQ]; norm_cast
      have r1 : (T : Int).tmod (d : Int) = (R : Int) := by rw [hRr, Int.tmod_eq_emod_of_nonneg (Int.natCast_nonneg T)]; norm_cast
      have r2 : (T : Int) % (d : Int) = (R : Int) := by rw [hRr]; norm_cast
      have hRd : R < d := by rw [hRr]; exact Nat.mod_lt _ hd
      have hQB : Q < B32 := by
        rw [hQ, B32_eq]
        refine Nat.div_lt_of_lt_mul ?_
        have : L * 4294967296 + 4294967296 ≤ d * 4294967296 := by
          have := Nat.mul_le_mul_right 4294967296 (show L + 1 ≤ d by omega)
          rw [Nat.add_mul] at this; omega
        omega
      have fq : IntKind.u32.wrap (Q : Int) = (Q : Int) := wrap32 Q hQB
      have fq2 : IntKind.u64.wrap (Q : Int) = (Q : Int) := wrap_mod _ _ (by rw [B32_eq] at hQB; omega)
      have fq3 : (Q : Int) % 4294967296 = (Q : Int) := by rw [B32_eq] at hQB; omega
      have hQR : L * B32 + x = Q * d + R := by rw [B32_eq, ← hT, hQ, hRr, Nat.mul_comm]; exact (Nat.div_add_mod T d).symm
      have HS : Hid (DSm w w.heap.size n d xs j R (qs.set j Q) (wr.setCell ⟨w.heap.size, j, none⟩ (V Q))) := by
        have hR := HR.out
        have hs := hR.row.set j Q hjn hQB
        rw [Nat.zero_add] at hs
        refine ⟨bSet0 hR.bel _ _ _ (Nat.le_refl _), hs, hRd, ?_⟩
        rw [drop_set_self qs j Q (by rw [hR.row.len]; exact hjn), valB_cons, valB_drop B32 xs j (by rw [HLX.out]; exact hjn), ← hx]
        exact divsmall_abs hR.val hQR
      clear hz HR hc hx hcx0 hQ hRr hT hlh hQR hL hdB hxb hRd hQB
      go_wp2_with fail
      go_roundg j
      case measure => omega
      case rel => exact ⟨R, (j : Int) - 1, qs.set j Q, rfl, rfl, rfl, by omega, HS⟩
theorem At32.growN {w w' : World} {p : Option Addr} {n c : Nat} {xs : List Nat} {row : Option Nat} (h : At32 w p n c xs) (hg : w.grownBy w' row) (hne : ∀ g off, p = some ⟨g, off, none⟩ → n ≠ 0 → some g ≠ row) : At32 w' p n c xs := by
  refine ⟨h.len, h.cap, h.big, h.dig, ?_⟩
  rcases h.cells with h1 | ⟨g', off, h1, h2⟩
  · exact .inl h1
  · by_cases h0 : n = 0
    · exact .inl h0
    · exact .inr ⟨g', off, h1, fun j hj => hg.cell (h2 j hj) (hne g' off h1 h0)⟩
theorem Tryz.infoU8 : (Tryz.prog.info? 5).map (fun i => (i.zero, i.size, i.bytes)) = some (some (.int .u8 0), 1, 1) := by kernel_rfl
structure OwB8 (w : World) (hB : Nat) (lv : Value) (k : Nat) (l : List UInt8) : Prop where
  row : w.ownsRow hB 5 1 lv k (Lib.byteCells l)
theorem OwB8.below {w w' : World} {hB k : Nat} {lv : Value} {l : List UInt8} (h : OwB8 w hB lv k l) (hb : Below w.heap.size w w') : OwB8 w' hB lv k l := by
  refine ⟨⟨h.row.1, ?_⟩⟩
  rcases h.row.2 with h2 | ⟨g, cap, cur, h2, h3, h4, h5⟩
  · exact .inl h2
  · have hg : g < w.heap.size := by
      rcases Nat.lt_or_ge g w.heap.size with h6 | h6
      · exact h6
      · rw [Array.getElem?_eq_none h6] at h4; cases h4
    exact .inr ⟨g, cap, cur, h2, h3, (hb.block _ hg).trans h4, h5⟩
theorem OwB8.len {w : World} {hB k : Nat} {lv : Value} {l : List UInt8} (h : OwB8 w hB lv k l) : l.length = k := by
  have h1 := h.row.1
  rw [Lib.byteCells_length] at h1; omega
theorem OwB8.cells {w : World} {hB k : Nat} {lv : Value} {l : List UInt8} (h : OwB8 w hB lv k l) : ∃ p cap, lv = .slice p k cap ∧ k ≤ cap ∧ cap ≤ maxLen ∧ ∀ j, j < k → ∃ g, p = some ⟨g, 0, none⟩ ∧ w.cell? ⟨g, j, none⟩ = some (.int .u8 ((l.getD j 0).toNat : Int)) := by
  rcases h.row.2 with ⟨h1, h2⟩ | ⟨g, cap, cur, h1, h2, h3, h4, h4b, h5⟩
  · exact ⟨none, 0, by rw [h1, h2], by omega, by unfold maxLen; omega, fun j hj => by omega⟩
  · refine ⟨_, cap, h1, h4, h4b, fun j hj => ⟨g, rfl, ?_⟩⟩
    have h6 := h.row
    have hl := h.len
    rw [h1] at h6
    rw [h6.cellAt j (by omega)]
    unfold Lib.byteCells
    rw [List.getElem?_map, List.getElem?_eq_getElem (by omega), List.getD_eq_getElem?_getD, List.getElem?_eq_getElem (by omega)]
    rfl
theorem ten_lt {k a K : Nat} (h : 10 ^ k ≤ a) (hK : a < 2 ^ K) : k < K := by
  have h1 : (2 : Nat) ^ k ≤ 10 ^ k := Nat.pow_le_pow_left (by decide) k
  exact (Nat.pow_lt_pow_iff_right (by decide : 1 < 2)).1 (Nat.lt_of_le_of_lt (Nat.le_trans h1 h) hK)
theorem takeB (l : List UInt8) (n : Nat) (h : n < l.length) : l.take (n + 1) = l.take n ++ [l.getD n 0] := by
  rw [List.take_add_one, List.getD_eq_getElem?_getD, List.getElem?_eq_getElem h]; rfl
theorem dropB (l : List UInt8) (n g : Nat) (h : g < n) (hn : n ≤ l.length) : ((l.take n).drop g).reverse = ((l.take n).drop (g + 1)).reverse ++ [l.getD g 0] := by
  have hl : g < (l.take n).length := by rw [List.length_take]; omega
  rw [List.drop_eq_getElem_cons hl, List.reverse_cons, List.getD_eq_getElem?_getD, List.getElem?_eq_getElem (by omega), List.getElem_take]; rfl
theorem dstep {T r U s a : Nat} (h : s + T * (r + 10 * U) = a) : r % 10 * T + s + T * 10 * (r / 10 + U) = a := by
  have e : r + 10 * U = r % 10 + 10 * (r / 10 + U) := by omega
  rw [e, Nat.mul_add, ← Nat.mul_assoc] at h
  rw [Nat.mul_comm (r % 10) T]
  omega
theorem rev_snoc (l : List UInt8) (c : UInt8) : dval (l ++ [c]).reverse = (c.toNat - 48) * 10 ^ l.length + dval l.reverse := by
  rw [List.reverse_append, List.reverse_singleton, List.singleton_append, dval_cons, List.length_reverse]
theorem digits_ok {p : Option Addr} {m c a K : Nat} {zs : List Nat} {w : World} (h : At32 w p m c zs) (hN : Nf B32 zs a) (h0 : a ≠ 0) (hm : m ≤ 100000) (hK : K ≤ 100000) (ha : a < 2 ^ K) :
    Calls Tryz.prog 82 #[.slice p m c] w fun en w' => en = .returned (.string ⟨(Lib.decDigits a).toArray⟩) ∧ Below w.heap.size w w' := by
  obtain ⟨i0, hi, hz0, hz1, hz2⟩ := info_parts Tryz.infoU8
  have hm0 : m ≠ 0 := fun e => h0 (by rw [← hN.zero_iff B32_one, ← List.length_eq_zero_iff, h.len, e])
  have hm1 : ((m : Int) == 0) = false := by simp; omega
  have HA : Hid (a ≠ 0 ∧ m ≤ 100000 ∧ K ≤ 100000 ∧ a < 2 ^ K) := ⟨h0, hm, hK, ha⟩
  have AT0 : Hid (At32 w p m c zs ∧ Nf B32 zs a) := ⟨h, hN⟩
  clear h hN h0 hm hK ha
  go_enter Tryz.func82, Tryz.ntmps82
  go_wp2_with fail
  clear hm1 hm0
  refine (rnorm_any AT0.out.1 (by have := HA.out; omega)).mono ?_
  rintro e v1 ⟨g5, rfl, hg5, hblk, hb1⟩
  have hN5 := Nf.trim AT0.out.1.dig
  rw [AT0.out.2.val] at hN5
  have hl5 := trimL_length_le zs
  rw [AT0.out.1.len] at hl5
  have hA5 : At32 v1 (some ⟨g5, 0, none⟩) (trimL zs).length (trimL zs).length (trimL zs) := hblk.at_ hN5.dig rfl (by have := HA.out; unfold maxLen; omega)
  generalize trimL zs = us at *
  obtain ⟨mu, hmu⟩ : ∃ m, m = us.length := ⟨_, rfl⟩
  rw [← hmu] at hl5 hA5
  rw [← hmu]
  have AT1 : Hid (At32 v1 (some ⟨g5, 0, none⟩) mu mu us ∧ Nf B32 us a ∧ mu ≤ 100000 ∧ g5 < v1.heap.size) := ⟨hA5, hN5, by have := HA.out; omega, hblk.lt⟩
  clear hblk hN5 hl5 hA5 hmu hg5 AT0
  go_wp2_with fail
  have hbw := hb1
  clear hb1
  go_loopg [3, 4] a (fun gk lowv dv wr => ∃ (g m1 k : Nat) (l : List UInt8) (zs1 : List Nat), dv = .slice (some ⟨g, 0, none⟩) m1 m1 ∧ At32 wr (some ⟨g, 0, none⟩) m1 m1 zs1 ∧ Nf B32 zs1 gk ∧ m1 ≤ 100000 ∧ OwB8 wr w.heap.size lowv k l ∧ (∀ c, c ∈ l → IsDg c) ∧ dval l.reverse + 10 ^ k * gk = a ∧ k ≤ 100100 ∧ some g ≠ lowv.ownBlock ∧ g < wr.heap.size ∧ Below w.heap.size w wr)
  case atStart => exact ⟨g5, mu, 0, [], us, rfl, AT1.out.1, AT1.out.2.1, AT1.out.2.2.1, ⟨⟨rfl, .inl ⟨rfl, rfl⟩⟩⟩, fun c hc => absurd hc (by simp), by show 0 + 10 ^ 0 * a = a; rw [Nat.pow_zero]; omega, by omega, fun h => (by cases h), AT1.out.2.2.2, hbw⟩
  case round =>
    obtain ⟨g, m1, k, l, zs1, rfl, xA, xN, xm, xO, xd, xv, xk, xs2, xg, hbr⟩ := hrel
    clear hbw AT1
    have hbw := hbr
    have AT1 : Hid (At32 wr (some ⟨g, 0, none⟩) m1 m1 zs1 ∧ Nf B32 zs1 gk ∧ m1 ≤ 100000) := ⟨xA, xN, xm⟩
    have OW : Hid (OwB8 wr w.heap.size u3 k l) := xO
    have HE : Hid ((∀ c, c ∈ l → IsDg c) ∧ dval l.reverse + 10 ^ k * gk = a ∧ k ≤ 100100) := ⟨xd, xv, xk⟩
    have hmx : m1 = 0 ↔ gk = 0 := by rw [← xN.zero_iff B32_one, ← xA.len]; exact List.length_eq_zero_iff
    clear xA xN xO xd xv xs2 hbr xm xk xg
    by_cases hm1 : m1 = 0
    · obtain rfl : gk = 0 := hmx.1 hm1
      clear hmx
      subst hm1
      obtain ⟨pp, cc, rfl, hcc, hcm, hcl⟩ := OW.out.cells
      have HC : Hid (∀ j, j < k → ∃ g, pp = some ⟨g, 0, none⟩ ∧ wr.cell? ⟨g, j, none⟩ = some (.int .u8 ((l.getD j 0).toNat : Int))) := hcl
      have HLL : Hid (l.length = k ∧ k ≤ cc ∧ cc ≤ maxLen) := ⟨OW.out.len, hcc, hcm⟩
      clear hcl AT1 OW hcc hcm
      go_wp2_with fail
      obtain ⟨V0, hV0⟩ : ∃ V, V = wr := ⟨_, rfl⟩
      subst hV0
      have hbw0 := hbw
      clear hbw
      go_loopg [3] k (fun gk lowv wr => lowv = .slice pp gk cc ∧ gk ≤ k ∧ dval (l.take gk).reverse = a ∧ wr = V0)
      case atStart => exact ⟨rfl, Nat.le_refl _, by rw [List.take_of_length_le (by rw [HLL.out.1]; exact Nat.le_refl _)]; have := HE.out.2.1; omega, rfl⟩
      case round =>
        obtain ⟨rfl, hgk, hval, rfl⟩ := hrel
        have hg0 : gk ≠ 0 := fun e => HA.out.1 (by rw [← hval, e]; rfl)
        obtain ⟨g1, rfl⟩ : ∃ g, gk = g + 1 := ⟨gk - 1, by omega⟩
        obtain ⟨gl, rfl, hcj⟩ := HC.out g1 (by omega)
        obtain ⟨cb, hcb⟩ : ∃ c, c = l.getD g1 0 := ⟨_, rfl⟩
        rw [← hcb] at hcj
        have hdcb : IsDg cb := by rw [hcb, List.getD_eq_getElem?_getD, List.getElem?_eq_getElem (by rw [HLL.out.1]; omega)]; exact HE.out.1 _ (List.getElem_mem _)
        have hvt : dval (l.take (g1 + 1)).reverse = (cb.toNat - 48) * 10 ^ g1 + dval (l.take g1).reverse := by rw [takeB l g1 (by rw [HLL.out.1]; omega), rev_snoc, ← hcb, List.length_take, HLL.out.1, Nat.min_eq_left (by omega)]
        have HVT : Hid (dval (l.take (g1 + 1)).reverse = a ∧ dval (l.take (g1 + 1)).reverse = (cb.toNat - 48) * 10 ^ g1 + dval (l.take g1).reverse ∧ IsDg cb ∧ cb = l.getD g1 0) := ⟨hval, hvt, hdcb, hcb⟩
        have hcc2 : g1 + 1 ≤ cc := by have := HLL.out; omega
        have hcc3 : cc ≤ 9223372036854775807 := HLL.out.2.2
        obtain ⟨tb, htb⟩ : ∃ t, t = cb.toNat := ⟨_, rfl⟩
        rw [← htb] at hcj
        have hk100 := HE.out.2.2
        clear hvt hval hdcb hg0 hcb
        by_cases h48 : tb = 48
        · have hq : ((tb : Int) == 48) = true := by simp; omega
          have hq2 : (tb == 48) = true := by simp; omega
          have H48 : Hid (tb = 48 ∧ tb = cb.toNat) := ⟨h48, htb⟩
          clear h48 htb
          go_wp2_with fail
          go_roundg g1
          case measure => omega
          case rel => exact ⟨rfl, by omega, by have h1 := HVT.out; have h2 := H48.out; rw [h1.2.1, ← h2.2, h2.1] at h1; simpa using h1.1, rfl⟩
        · have hq : ((tb : Int) == 48) = false := by simp; omega
          have hq2 : (tb == 48) = false := by simp; omega
          have H48 : Hid (tb ≠ 48 ∧ tb = cb.toNat) := ⟨h48, htb⟩
          clear h48 htb
          obtain ⟨B0, HB0⟩ : ∃ B, Hid (B = wr.heap.size) := ⟨_, rfl⟩
          go_wp2_with (at_make; refine wpList_make_room _ rfl _ _ 22 rfl wr.heap.size 5 i0 (.int .u8 0) 1 Tryz.underlying22 hi hz0 hz1 _ _ _ _ 0 (g1 + 1) rfl rfl (by omega) (by omega) (by omega) (by rw [hz2]; omega) (by unfold maxLen; omega) (Nat.le_refl _) ?_; intro W1 hown hgrow)
          have OS : Hid (OwB8 W1 B0 (.slice (some ⟨wr.heap.size, 0, none⟩) 0 (g1 + 1)) 0 []) := by rw [HB0.out]; exact ⟨hown⟩
          have HBW : Hid (Below B0 wr W1) := by rw [HB0.out]; exact ⟨hgrow.os, hgrow.tape, hgrow.output, hgrow.size, fun k hk => hgrow.block k hk (by simp)⟩
          clear hown hgrow
          obtain ⟨V1, hV1⟩ : ∃ V, V = wr := ⟨_, rfl⟩
          subst hV1
          go_wp2_with fail
          go_loopg [8, 9] (g1 + 1) (fun gk sv iv wr => ∃ z : Int, iv = .int .i64 z ∧ z = (gk : Int) - 1 ∧ gk ≤ g1 + 1 ∧ OwB8 wr B0 sv (g1 + 1 - gk) ((l.take (g1 + 1)).drop gk).reverse ∧ Below B0 V1 wr)
          case atStart => exact ⟨(g1 : Int), rfl, by omega, Nat.le_refl _, by rw [Nat.sub_self, List.drop_of_length_le (by rw [List.length_take]; omega)]; exact OS.out, HBW.out⟩
          case round =>
            obtain ⟨z, rfl, hz, hgk2, xO, hbr⟩ := hrel
            clear OS HBW hcj
            have OS : Hid (OwB8 wr B0 u8 (g1 + 1 - gk) ((l.take (g1 + 1)).drop gk).reverse) := xO
            have hbw := hbr
            clear xO hbr
            cases gk with
            | zero =>
              obtain rfl : z = -1 := by omega
              obtain ⟨ps, cs, rfl, hcs1, hcs2, hcs3⟩ := OS.out.cells
              obtain ⟨gs, rfl, -⟩ := hcs3 0 (by omega)
              obtain ⟨R, hR⟩ : ∃ R, R = ((l.take (g1 + 1)).drop 0).reverse := ⟨_, rfl⟩
              rw [← hR] at hcs3
              have hRl : R.length = g1 + 1 := by have := OS.out.len; rw [← hR] at this; omega
              have hR2 : R = Lib.decDigits a := by
                rw [hR, List.drop_zero]
                have h1 := HVT.out
                rw [← h1.1]
                refine (dec_of _ _ rfl ?_ ?_ ?_).symm
                · intro c hc; exact HE.out.1 c (List.mem_of_mem_take (List.mem_reverse.1 hc))
                · intro c r e; rw [takeB l g1 (by rw [HLL.out.1]; omega), List.reverse_append, ← h1.2.2.2] at e; simp at e; rw [← e.1]; intro e2; exact H48.out.1 (by rw [H48.out.2, e2]; rfl)
                · intro e; have := congrArg List.length e; rw [List.length_reverse, List.length_take, HLL.out.1] at this; simp at this; omega
              rw [Nat.sub_zero] at hcs1 hcs3 OS
              have HRR : Hid (R = Lib.decDigits a) := hR2
              have hcv : (convert 22 9 (.slice (some ⟨gs, 0, none⟩) (g1 + 1) cs)).run Tryz.prog wr = .ok (.string ⟨R.toArray⟩) wr := by
                have h := run_convert_bytes_back (P := Tryz.prog) wr 22 9 5 ⟨gs, 0, none⟩ cs R Tryz.underlying22 Tryz.underlying5 Tryz.underlying9 (fun j hj => by
                  rw [Lib.add_plain, Nat.zero_add]
                  obtain ⟨g9, e9, h9⟩ := hcs3 j (by omega)
                  simp only [Option.some.injEq, Addr.mk.injEq] at e9
                  rw [← e9.1] at h9
                  rw [h9, List.getD_eq_getElem?_getD, List.getElem?_eq_getElem hj]; rfl)
                rw [hRl] at h
                exact h
              clear hR hR2 hRl hcs1 hcs2 hcs3 OS hz hgk2
              rw [Nat.sub_zero]
              go_wp2_with fail
              go_ret
              exact ⟨by rw [← HRR.out]; rfl, Below.on hbw0 (HB0.out ▸ hbw)⟩
            | succ g0 =>
              obtain rfl : z = (g0 : Int) := by omega
              obtain ⟨g9, e9, h9⟩ := HC.out g0 (by omega)
              simp only [Option.some.injEq, Addr.mk.injEq, and_true] at e9
              subst e9
              obtain ⟨tg, htg⟩ : ∃ t, t = (l.getD g0 0).toNat := ⟨_, rfl⟩
              rw [← htg] at h9
              have hcg : wr.cell? ⟨gl, g0, none⟩ = some (.int .u8 (tg : Int)) := (hbw.cell (p := ⟨gl, g0, none⟩) (by rw [HB0.out]; exact World.block_lt_of_cell? V1 _ h9)).trans h9
              have HTG : Hid (tg = (l.getD g0 0).toNat) := htg
              have HBK : Hid (∀ b, u8.ownBlock = some b → B0 ≤ b ∧ b < wr.heap.size) := OS.out.row.lt
              have OWA : Hid ((wr.alloc (.cells #[.int .u8 (tg : Int)] 5)).ownsRow B0 5 1 u8 (g1 + 1 - (g0 + 1)) (Lib.byteCells ((l.take (g1 + 1)).drop (g0 + 1)).reverse)) := OS.out.row.alloc _
              have HSZ : Hid (B0 ≤ (wr.alloc (.cells #[.int .u8 (tg : Int)] 5)).heap.size) := by have := hbw.size; have := HB0.out; show _ ≤ _; simp; omega
              clear h9 htg
              have hd1 : decide ((0 : Int) ≤ (g0 : Int)) = true := decide_eq_true (by omega)
              have hg0b : g0 < g1 + 1 := by omega
              clear hz
              go_wp2_with (at_builtin; refine wpList_append_own_at _ rfl _ _ 22 rfl B0 5 i0 (.int .u8 0) 1 1 Tryz.underlying22 hi hz0 hz1 hz2 rfl (by decide) _ _ _ rfl OWA.out ⟨wr.heap.size, 0, none⟩ 1 1 [.int .u8 (tg : Int)] rfl rfl (cell_one_new _ _ _) (by intro u hu; simp at hu; subst hu; rfl) (by unfold maxLen; omega) (by omega) HSZ.out ?_; intro v6 w6 hown6 hgr6 hnil6 hat6)
              go_roundg g0
              case measure => omega
              case rel =>
                have hbwa : Below B0 V1 (wr.alloc (.cells #[.int .u8 (tg : Int)] 5)) := hbw.trans ((below1 wr _).mono (by rw [HB0.out]; have := hbw.size; omega))
                refine ⟨(g0 : Int) - 1, by first | rfl | go_num, rfl, by omega, ⟨?_⟩, hbwa.grown hgr6 HSZ.out fun b hb => (HBK.out b hb).1⟩
                rw [dropB l (g1 + 1) g0 (by omega) (by rw [HLL.out.1]; omega), Lib.byteCells_append]
                rw [show g1 + 1 - g0 = g1 + 1 - (g0 + 1) + 1 by omega]
                unfold Lib.byteCells at hown6 ⊢
                rw [List.map_singleton, ← HTG.out]; exact hown6
    · have hx0 : 1 ≤ gk := by omega
      have hk1 : k ≤ 100000 := by have h1 := HE.out.2.1; have h2 := HA.out; have h3 : 10 ^ k * 1 ≤ 10 ^ k * gk := Nat.mul_le_mul_left _ hx0; have h4 := ten_lt (k := k) (a := a) (K := K) (by omega) h2.2.2.2; omega
      have hd1 : decide ((0 : Int) < (m1 : Int)) = true := decide_eq_true (by omega)
      have hd2 : decide (0 < m1) = true := decide_eq_true (by omega)
      clear hmx hm1
      go_wp2_with fail
      clear hd1 hd2
      have HBK : Hid (∀ b, u3.ownBlock = some b → w.heap.size ≤ b ∧ b < wr.heap.size) := OW.out.row.lt
      refine (rdivsmall3 AT1.out.1 (by have := AT1.out.2.2; omega) 1000000000 (by decide) (by decide)).mono ?_
      rintro e v1 ⟨g2, m2, zs2, rr, rfl, hg2, hg2l, hA2, hN2, hm2, hrr, hb1⟩
      rw [AT1.out.2.1.val] at hN2 hrr
      obtain ⟨r, hr⟩ : ∃ r, r = gk % 1000000000 := ⟨_, rfl⟩
      obtain ⟨q, hq⟩ : ∃ q, q = gk / 1000000000 := ⟨_, rfl⟩
      rw [← hr] at hrr
      rw [← hq] at hN2
      subst hrr
      have HQ : Hid (r < 10 ^ 9 ∧ gk = r + 10 ^ 9 * q ∧ 1 ≤ gk ∧ q < gk) := ⟨by rw [hr]; exact Nat.mod_lt _ (by decide), by rw [hr, hq]; exact (Nat.mod_add_div _ _).symm, hx0, by rw [hq]; exact Nat.div_lt_self hx0 (by decide)⟩
      have AT2 : Hid (At32 v1 (some ⟨g2, 0, none⟩) m2 m2 zs2 ∧ Nf B32 zs2 q ∧ m2 ≤ 100000 ∧ g2 < v1.heap.size) := ⟨hA2, hN2, by have := AT1.out.2.2; omega, hg2l⟩
      have OW1 : Hid (OwB8 v1 w.heap.size u3 k l) := OW.out.below hb1
      have HNE : Hid (some g2 ≠ u3.ownBlock) := fun h => by have := HBK.out g2 h.symm; omega
      have hbw1 := Below.on hbw hb1
      clear hA2 hN2 hm2 AT1 OW hbw hb1 HBK hg2 hg2l hr hq hx0
      obtain ⟨x, hx⟩ : ∃ x, x = gk := ⟨_, rfl⟩
      subst hx
      obtain ⟨V0, hV0⟩ : ∃ V, V = wr := ⟨_, rfl⟩
      subst hV0
      go_wp2_with fail
      go_loopg [3, 6, 7] 9 (fun gk lowv rv iv wr => ∃ (i k1 r1 : Nat) (l1 : List UInt8), i + gk = 9 ∧ rv = .int .u32 (r1 : Int) ∧ iv = .int .i64 (i : Int) ∧ OwB8 wr w.heap.size lowv k1 l1 ∧ (∀ c, c ∈ l1 → IsDg c) ∧ dval l1.reverse + 10 ^ k1 * (r1 + 10 ^ gk * q) = a ∧ r1 < 10 ^ gk ∧ k1 + gk = k + 9 ∧ At32 wr (some ⟨g2, 0, none⟩) m2 m2 zs2 ∧ some g2 ≠ lowv.ownBlock ∧ g2 < wr.heap.size ∧ Below w.heap.size w wr)
      case atStart => exact ⟨0, k, r, l, by omega, rfl, rfl, OW1.out, HE.out.1, by rw [← HQ.out.2.1]; exact HE.out.2.1, HQ.out.1, rfl, AT2.out.1, HNE.out, AT2.out.2.2.2, hbw1⟩
      case round =>
        obtain ⟨i, k1, r1, l1, hig, rfl, rfl, xO, xd, xv, xr, xk, xA, xs2, xg, hbr⟩ := hrel
        clear OW1 hbw1 HNE
        have hbw := hbr
        have OW : Hid (OwB8 wr w.heap.size u3 k1 l1) := xO
        have AT3 : Hid (At32 wr (some ⟨g2, 0, none⟩) m2 m2 zs2 ∧ g2 < wr.heap.size ∧ some g2 ≠ u3.ownBlock) := ⟨xA, xg, xs2⟩
        have HI : Hid ((∀ c, c ∈ l1 → IsDg c) ∧ dval l1.reverse + 10 ^ k1 * (r1 + 10 ^ gk * q) = a ∧ r1 < 10 ^ gk ∧ k1 + gk = k + 9 ∧ i + gk = 9) := ⟨xd, xv, xr, xk, hig⟩
        clear xO xd xv xr xk xA xs2 xg hbr
        by_cases hi9 : i < 9
        · obtain ⟨g1, rfl⟩ : ∃ g, gk = g + 1 := ⟨gk - 1, by omega⟩
          have hr32 : r1 < 1000000000 := Nat.lt_of_lt_of_le HI.out.2.2.1 (Nat.pow_le_pow_right (by decide) (by omega : g1 + 1 ≤ 9))
          have hk1b : k1 ≤ 100009 := by have := HI.out.2.2.2.1; omega
          have HBK : Hid (∀ b, u3.ownBlock = some b → w.heap.size ≤ b ∧ b < wr.heap.size) := OW.out.row.lt
          have OWA : Hid ((wr.alloc (.cells #[.int .u8 ((48 + r1 % 10 : Nat) : Int)] 5)).ownsRow w.heap.size 5 1 u3 k1 (Lib.byteCells l1)) := OW.out.row.alloc _
          have HSZ : Hid (w.heap.size ≤ (wr.alloc (.cells #[.int .u8 ((48 + r1 % 10 : Nat) : Int)] 5)).heap.size ∧ (wr.alloc (.cells #[.int .u8 ((48 + r1 % 10 : Nat) : Int)] 5)).heap.size = wr.heap.size + 1) := ⟨by have := hbw.size; simp; omega, by simp⟩
          have hd1 : decide ((i : Int) < 9) = true := decide_eq_true (by omega)
          have hd2 : decide (i < 9) = true := decide_eq_true hi9
          have wa : IntKind.u32.wrap (48 + (r1 : Int) % 10) = ((48 + r1 % 10 : Nat) : Int) := by rw [IntKind.wrap_u32]; omega
          have wb : IntKind.u8.wrap ((48 + r1 % 10 : Nat) : Int) = ((48 + r1 % 10 : Nat) : Int) := by rw [IntKind.wrap_u8]; omega
          go_wp2_with (at_builtin; refine wpList_append_own_at _ rfl _ _ 22 rfl w.heap.size 5 i0 (.int .u8 0) 1 1 Tryz.underlying22 hi hz0 hz1 hz2 rfl (by decide) _ _ _ rfl OWA.out ⟨wr.heap.size, 0, none⟩ 1 1 [.int .u8 ((48 + r1 % 10 : Nat) : Int)] rfl rfl (cell_one_new _ _ _) (by intro u hu; simp at hu; subst hu; rfl) (by unfold maxLen; omega) (by omega) HSZ.out.1 ?_; intro v6 w6 hown6 hgr6 hnil6 hat6)
          go_roundg g1
          case measure => omega
          case rel =>
            have hii := HI.out
            have hs := HSZ.out
            have hbk := HBK.out
            have hc : (UInt8.ofNat (48 + r1 % 10)).toNat = 48 + r1 % 10 := dg_nat (Nat.mod_lt _ (by decide))
            have hbwa : Below w.heap.size w (wr.alloc (.cells #[.int .u8 ((48 + r1 % 10 : Nat) : Int)] 5)) := Below.on hbw (below1 wr _)
            have hll := OW.out.len
            refine ⟨i + 1, k1 + 1, r1 / 10, l1 ++ [UInt8.ofNat (48 + r1 % 10)], by omega, by first | rfl | go_num, by first | rfl | go_num, ⟨?_⟩, ?_, ?_, ?_, by omega, (AT3.out.1.below (below1 wr _)).growN hgr6 ?_, ?_, ?_, ?_⟩
            · rw [Lib.byteCells_append]; unfold Lib.byteCells at hown6 ⊢; rw [List.map_singleton, hc]; exact hown6
            · intro c hc1; rcases List.mem_append.1 hc1 with h1 | h1
              · exact hii.1 c h1
              · rw [List.mem_singleton.1 h1]; unfold IsDg; rw [hc]; have := Nat.mod_lt r1 (by decide : 10 > 0); omega
            · rw [rev_snoc, hc, hll, Nat.pow_succ, show 48 + r1 % 10 - 48 = r1 % 10 by omega]
              refine dstep ?_
              have h1 := hii.2.1
              rw [Nat.pow_succ, Nat.mul_comm (10 ^ g1) 10, Nat.mul_assoc] at h1
              exact h1
            · have h1 := hii.2.2.1; rw [Nat.pow_succ] at h1; omega
            · intro g off e0 _; simp only [Option.some.injEq, Addr.mk.injEq] at e0; rw [← e0.1]; exact AT3.out.2.2
            · intro h; rcases hat6 with h3 | h3
              · rw [h3] at h; exact AT3.out.2.2 h
              · rw [h3] at h; simp at h; have := AT3.out.2.1; omega
            · have h1 := hgr6.size; simp at h1; have h2 := AT3.out.2.1; omega
            · exact hbwa.grown hgr6 hbwa.size fun b hb => (hbk b hb).1
        · obtain rfl : i = 9 := by have := HI.out; omega
          obtain rfl : gk = 0 := by omega
          have hi1 := HI.out
          obtain rfl : r1 = 0 := by have h1 := hi1.2.2.1; rw [Nat.pow_zero] at h1; omega
          have HF : Hid ((∀ c, c ∈ l1 → IsDg c) ∧ dval l1.reverse + 10 ^ k1 * q = a ∧ k1 = k + 9) := ⟨hi1.1, by have h1 := hi1.2.1; rw [Nat.pow_zero, Nat.one_mul, Nat.zero_add] at h1; exact h1, by omega⟩
          clear hi1 hi9 hig HI
          go_wp2_with fail
          go_roundg q
          case measure => exact HQ.out.2.2.2
          case rel => exact ⟨g2, m2, k1, l1, zs2, rfl, AT3.out.1, AT2.out.2.1, AT2.out.2.2.1, OW.out, HF.out.1, HF.out.2.1, by have := HF.out.2.2; omega, AT3.out.2.2, AT3.out.2.1, hbw⟩
def K260 : Nat := 16640
theorem ten3 : (10 : Nat) ^ TXN ≤ 2 ^ K260 := by
  obtain ⟨q, hq⟩ : ∃ q : Nat, q = 1634 := ⟨_, rfl⟩
  have h1 : (10 : Nat) ^ TXN ≤ 10 ^ (3 * q) := Nat.pow_le_pow_right (by decide) (by unfold TXN; omega)
  have h2 : ((10 : Nat) ^ 3) ^ q ≤ (2 ^ 10) ^ q := Nat.pow_le_pow_left (by decide) _
  rw [← Nat.pow_mul, ← Nat.pow_mul] at h2
  exact Nat.le_trans h1 (Nat.le_trans h2 (Nat.pow_le_pow_right (by decide) (by unfold K260; omega)))
theorem txl_260 {xs : List Nat} (hf : formB xs = true) (h : 260 < xs.length) (hd : Dig B64 xs) : ¬ valB B64 xs < TXL := by
  have h1 := valB_pos B64_pos (zs := xs) (fun e => by rw [e] at h; simp at h) (formB_nf hf hd).1.top
  rw [B64_pow] at h1
  have h2 : (2 : Nat) ^ K260 ≤ 2 ^ (64 * (xs.length - 1)) := Nat.pow_le_pow_right (by decide) (by unfold K260; omega)
  have h3 := ten3
  unfold TXL
  generalize (2 : Nat) ^ K260 = A at *
  generalize (2 : Nat) ^ (64 * (xs.length - 1)) = B at *
  generalize (10 : Nat) ^ TXN = C at *
  omega
theorem digits_z {p : Option Addr} {c : Nat} {w : World} :
    Calls Tryz.prog 82 #[.slice p 0 c] w fun en w' => en = .returned (.string ⟨(Lib.decDigits 0).toArray⟩) ∧ Below w.heap.size w w' := by
  go_enter Tryz.func82, Tryz.ntmps82
  go_wp2_with fail
  go_ret
  refine ⟨?_, Below.refl _ _⟩
  rw [Lib.decDigits_one (by decide)]; rfl
theorem doctext_ok {p : Option Addr} {m c : Nat} {xs : List Nat} {w : World} (h : At w p m c xs) :
    Calls Tryz.prog 59 #[.slice p m c] w fun en w' => ∃ s er, en = .returned (.tuple #[.string s, .int .i64 er]) ∧ TxA xs s er ∧ Below w.heap.size w w' := by
  have AT : Hid (At w p m c xs) := h
  have hl := h.len
  cases hf : formB xs with
  | false =>
    have HF : Hid (formB xs = false) := hf
    go_enter Tryz.func59, Tryz.ntmps59
    go_wp2_with fail
    refine (docform_any AT.out).mono ?_
    rintro e w1 ⟨rfl, rfl⟩
    clear h
    go_wp2_with fail
    go_ret2
    exact ⟨_, _, rfl, .inr (.inr ⟨HF.out, rfl, rfl⟩), Below.refl _ _⟩
  | true =>
    have hnf := formB_nf hf h.dig
    have HF : Hid (formB xs = true ∧ Nf B64 xs (valB B64 xs) ∧ xs.length ≤ 8192 ∧ xs.length = m ∧ Dig B64 xs) := ⟨hf, hnf.1, hnf.2, hl, h.dig⟩
    clear h hnf
    by_cases hm2 : 260 < m
    · have hd1 : decide ((260 : Int) < (m : Int)) = true := decide_eq_true (by omega)
      have hd2 : decide (260 < m) = true := decide_eq_true hm2
      have HNL : Hid (¬ valB B64 xs < TXL) := txl_260 hf (by omega) HF.out.2.2.2.2
      go_enter Tryz.func59, Tryz.ntmps59
      go_wp2_with fail
      refine (docform_any AT.out).mono ?_
      rintro e w1 ⟨rfl, rfl⟩
      go_wp2_with fail
      go_ret2
      exact ⟨_, _, rfl, .inr (.inl ⟨HF.out.1, HNL.out, rfl, rfl⟩), Below.refl _ _⟩
    · have hd1 : decide ((260 : Int) < (m : Int)) = false := decide_eq_false (by omega)
      have hd2 : decide (260 < m) = false := decide_eq_false hm2
      have HM : Hid (m ≤ 260) := by show _ ≤ _; omega
      go_enter Tryz.func59, Tryz.ntmps59
      go_wp2_with fail
      refine (docform_any AT.out).mono ?_
      rintro e w1 ⟨rfl, rfl⟩
      go_wp2_with fail
      clear hd1 hd2 hm2 hf
      refine (from_any AT.out (by have := HM.out; omega)).mono ?_
      rintro e v1 ⟨g1, zs, rfl, hg1, hblk, hN, hlz, hb1⟩
      have HZ : Hid (At32 v1 (some ⟨g1, 0, none⟩) zs.length zs.length zs ∧ Nf B32 zs (valB B64 xs) ∧ zs.length ≤ 520) := ⟨hblk.at_ hN.dig rfl (by have := HM.out; unfold maxLen; omega), hN, by have := HM.out; omega⟩
      clear hblk hN hlz hg1
      obtain ⟨mz, hmz2⟩ : ∃ m, Hid (m = zs.length) := ⟨_, rfl⟩
      rw [← hmz2.out] at HZ
      rw [← hmz2.out]
      clear hl
      go_wp2_with fail
      have HDG : Hid (Calls Tryz.prog 82 #[.slice (some ⟨g1, 0, none⟩) mz mz] v1 fun en w' => en = .returned (.string ⟨(Lib.decDigits (valB B64 xs)).toArray⟩) ∧ Below v1.heap.size v1 w') := by
        by_cases h0 : valB B64 xs = 0
        · have h1 : mz = 0 := by rw [hmz2.out, List.length_eq_zero_iff, HZ.out.2.1.zero_iff B32_one]; exact h0
          rw [h1, h0]; exact digits_z
        · obtain ⟨KZ, hKZ⟩ : ∃ K : Nat, K = 16640 := ⟨_, rfl⟩
          refine digits_ok (K := KZ) HZ.out.1 HZ.out.2.1 h0 (by have := HZ.out.2.2; omega) (by omega) ?_
          have h1 := valB_lt B64_pos HF.out.2.2.2.2
          rw [B64_pow] at h1
          exact Nat.lt_of_lt_of_le h1 (Nat.pow_le_pow_right (by decide) (by have := HM.out; have := HF.out; omega))
      clear hmz2
      refine HDG.out.mono ?_
      rintro e v2 ⟨rfl, hb2⟩
      have hbw := Below.on hb1 hb2
      clear hb1 hb2 HDG HZ
      obtain ⟨ds, hds⟩ : ∃ ds : ByteArray, ds = ⟨(Lib.decDigits (valB B64 xs)).toArray⟩ := ⟨_, rfl⟩
      rw [← hds]
      have hsz : ds.size = (Lib.decDigits (valB B64 xs)).length := by rw [hds]; rfl
      have HD : Hid (ds = ⟨(Lib.decDigits (valB B64 xs)).toArray⟩) := hds
      clear hds
      by_cases hlt : valB B64 xs < TXL
      · have hs : ds.size ≤ 4900 := by rw [hsz]; exact txl_le hlt
        have hd1 : decide ((4900 : Int) < (ds.size : Int)) = false := decide_eq_false (by omega)
        have hd2 : decide (4900 < ds.size) = false := decide_eq_false (by omega)
        have HLT : Hid (valB B64 xs < TXL) := hlt
        clear hsz hlt hs
        go_wp2_with fail
        go_ret2
        exact ⟨_, _, rfl, .inl ⟨HF.out.1, HLT.out, HD.out, rfl⟩, hbw⟩
      · have hs : 4900 < ds.size := by rw [hsz]; exact txl_gt hlt
        have hd1 : decide ((4900 : Int) < (ds.size : Int)) = true := decide_eq_true (by omega)
        have hd2 : decide (4900 < ds.size) = true := decide_eq_true hs
        have HLT : Hid (¬ valB B64 xs < TXL) := hlt
        clear hsz hlt hs
        go_wp2_with fail
        go_ret2
        exact ⟨_, _, rfl, .inr (.inl ⟨HF.out.1, HLT.out, rfl, rfl⟩), hbw⟩
theorem textlaw_ok {p : Option Addr} {m c : Nat} {xs : List Nat} {w : World} (h : At w p m c xs) (hn : m ≤ 35184372088832) (ht : TbP w) :
    Calls Tryz.prog 28 #[.slice p m c] w fun en w' => en = .returned (.bool true) ∧ Below w.heap.size w w' := by
  have AT : Hid (At w p m c xs ∧ TbP w ∧ m ≤ 35184372088832) := ⟨h, ht, hn⟩
  clear h ht hn
  go_enter Tryz.func28, Tryz.ntmps28
  go_wp2_with fail
  refine (twin3_any AT.out.1 AT.out.2.2).mono ?_
  rintro e v1 ⟨g1, rfl, hg1, hblk, hb1⟩
  have A1 : Hid (At v1 (some ⟨g1, 0, none⟩) m m xs) := hblk.at_ AT.out.1.dig AT.out.1.len (by have := AT.out.2.2; unfold maxLen; omega)
  clear hblk hg1
  go_wp2_with fail
  refine (text_ok A1.out (AT.out.2.1.below hb1)).mono ?_
  rintro e v2 ⟨s, er, rfl, hT, hb2⟩
  have HT : Hid (TxA xs s er) := hT
  have hbw := Below.on hb1 hb2
  clear hT hb1 hb2 A1
  go_wp2_with fail
  refine (doctext_ok (AT.out.1.below hbw)).mono ?_
  rintro e v3 ⟨s2, er2, rfl, hT, hb3⟩
  obtain ⟨rfl, rfl⟩ := HT.out.uniq hT
  have hbw2 := Below.on hbw hb3
  clear hT hb3 hbw AT HT
  go_wp2_with fail
  go_ret
  exact ⟨rfl, hbw2⟩
structure Op4s where
  k : Int
  pa : Option Addr
  na : Nat
  ca : Nat
  xa : List Nat
  pb : Option Addr
  nb : Nat
  cb : Nat
  xb : List Nat
  st : ByteArray
structure Scr3 (w : World) (P : Option Addr) (N C : Nat) (its : List Op4s) : Prop where
  len : its.length = N
  cap : N ≤ C
  big : C ≤ maxLen
  ats : ∀ t ∈ its, At w t.pa t.na t.ca t.xa ∧ At w t.pb t.nb t.cb t.xb ∧ t.na ≤ 17592186044416 ∧ t.nb ≤ 17592186044416
  cells : N = 0 ∨ ∃ g off, P = some ⟨g, off, none⟩ ∧ ∀ i (h : i < its.length), w.cell? ⟨g, off + i * 4, none⟩ = some (.int .i64 its[i].k) ∧ w.cell? ⟨g, off + i * 4 + 1, none⟩ = some (.slice its[i].pa its[i].na its[i].ca) ∧
    w.cell? ⟨g, off + i * 4 + 2, none⟩ = some (.slice its[i].pb its[i].nb its[i].cb) ∧ w.cell? ⟨g, off + i * 4 + 3, none⟩ = some (.string its[i].st)
theorem Scr3.below {w w' : World} {P : Option Addr} {N C : Nat} {its : List Op4s} (h : Scr3 w P N C its) (hb : Below w.heap.size w w') : Scr3 w' P N C its := by
  refine ⟨h.len, h.cap, h.big, fun t ht => ?_, ?_⟩
  · obtain ⟨h1, h2, h3⟩ := h.ats t ht
    exact ⟨h1.below hb, h2.below hb, h3⟩
  · rcases h.cells with h0 | ⟨g, off, hP, hc⟩
    · exact .inl h0
    · refine .inr ⟨g, off, hP, fun i hi => ?_⟩
      obtain ⟨h0, h1, h2, h3⟩ := hc i hi
      have hl : g < w.heap.size := World.block_lt_of_cell? w _ h0
      exact ⟨(hb.cell (p := ⟨g, off + i * 4, none⟩) hl).trans h0, (hb.cell (p := ⟨g, off + i * 4 + 1, none⟩) hl).trans h1, (hb.cell (p := ⟨g, off + i * 4 + 2, none⟩) hl).trans h2,
        (hb.cell (p := ⟨g, off + i * 4 + 3, none⟩) hl).trans h3⟩
theorem plays3 {pa pb : Option Addr} {na nb ca cb : Nat} {xa xb : List Nat} (kd : Int) (st : ByteArray) {w : World} (ha : At w pa na ca xa) (hb : At w pb nb cb xb) (hna : na ≤ 17592186044416) (hnb : nb ≤ 17592186044416) (ht : TbP w) :
    Calls Tryz.prog 14 #[.agg #[.int .i64 kd, .slice pa na ca, .slice pb nb cb, .string st]] w fun en w' => en = .returned (.bool true) ∧ Below w.heap.size w w' := by
  obtain ⟨V, hV⟩ : ∃ V, V = w.alloc (.cells #[.int .i64 kd, .slice pa na ca, .slice pb nb cb, .string st] 41) := ⟨_, rfl⟩
  have hb0 : Below w.heap.size w V := by rw [hV]; exact below1 w _
  have HA : Hid (At V pa na ca xa) := ha.below hb0
  have HB : Hid (At V pb nb cb xb) := hb.below hb0
  have HT : Hid (TbP V) := ht.below hb0
  clear ha hb ht
  by_cases h1 : kd = 1
  · subst h1
    go_enter Tryz.func14, Tryz.ntmps14
    go_wp2_with fail
    rw [← hV]
    refine (quoremlaw_ok HA.out HB.out (by omega) (by omega)).mono ?_
    rintro e w2 ⟨rfl, hb2⟩
    go_wp2_with fail
    go_ret
    exact ⟨rfl, Below.on hb0 hb2⟩
  by_cases h2 : kd = 2
  · subst h2
    go_enter Tryz.func14, Tryz.ntmps14
    go_wp2_with fail
    rw [← hV]
    refine (rootlaw_ok HA.out (by omega)).mono ?_
    rintro e w2 ⟨rfl, hb2⟩
    go_wp2_with fail
    go_ret
    exact ⟨rfl, Below.on hb0 hb2⟩
  by_cases h3 : kd = 3
  · subst h3
    go_enter Tryz.func14, Tryz.ntmps14
    go_wp2_with fail
    rw [← hV]
    refine (textlaw_ok HA.out (by omega) HT.out).mono ?_
    rintro e w2 ⟨rfl, hb2⟩
    go_wp2_with fail
    go_ret
    exact ⟨rfl, Below.on hb0 hb2⟩
  by_cases h4 : kd = 4
  · subst h4
    go_enter Tryz.func14, Tryz.ntmps14
    go_wp2_with fail
    rw [← hV]
    refine (readlaw_ok st).mono ?_
    rintro e w2 ⟨rfl, hb2⟩
    go_wp2_with fail
    go_ret
    exact ⟨rfl, Below.on hb0 hb2⟩
  have q1 : (kd == 1) = false := by simpa using h1
  have q2 : (kd == 2) = false := by simpa using h2
  have q3 : (kd == 3) = false := by simpa using h3
  have q4 : (kd == 4) = false := by simpa using h4
  go_enter Tryz.func14, Tryz.ntmps14
  go_wp2_with fail
  go_ret
  rw [← hV]
  exact ⟨rfl, hb0⟩
theorem natdivPlays_w {P : Option Addr} {N C : Nat} {its : List Op4s} {w : World} (h : Scr3 w P N C its) (ht : TbP w) :
    Calls Tryz.prog 4 #[.slice P N C] w fun en w' => en = .returned (.bool true) ∧ Below w.heap.size w w' := by
  have H : Hid (Scr3 w P N C its ∧ TbP w) := ⟨h, ht⟩
  have HLN : Hid (its.length = N) := h.len
  have cap := h.cap; have big := h.big
  unfold maxLen at big
  clear h ht
  go_enter Tryz.func4, Tryz.ntmps4
  go_wp2_with fail
  refine (awake3_any w).mono ?_
  rintro e w1 ⟨rfl, hb1⟩
  go_wp2_with fail
  go_loopg [3] 2 (fun gk iv wr => ∃ k : Nat, k + gk = 2 ∧ iv = .int .i64 k ∧ Below w.heap.size w wr)
  case atStart => exact ⟨0, by omega, rfl, hb1⟩
  case round =>
    obtain ⟨ag, hag, rfl, hbw⟩ := hrel
    clear hb1
    by_cases hg2 : ag < 2
    · obtain ⟨g2, rfl⟩ : ∃ g, gk = g + 1 := ⟨gk - 1, by omega⟩
      have hd1 : decide ((ag : Int) < 2) = true := decide_eq_true (by omega)
      have hd2 : decide (ag < 2) = true := decide_eq_true hg2
      go_wp2_with fail
      clear hd1 hd2
      go_loopg [14] N (fun gk iv wr => ∃ k : Nat, k + gk = N ∧ iv = .int .i64 k ∧ Below w.heap.size w wr)
      case atStart => exact ⟨0, by omega, rfl, hbw⟩
      case round =>
        obtain ⟨k, hkg, rfl, hbw⟩ := hrel
        cases gk with
        | zero =>
          obtain rfl : k = N := by omega
          have hnk : ¬ (k : Int) < (k : Int) := by omega
          go_wp2_with fail
          go_roundg g2
          case measure => omega
          case rel => exact ⟨ag + 1, by omega, by first | rfl | go_num, hbw⟩
        | succ gg =>
          have hki : k < its.length := by rw [HLN.out]; omega
          have HR := H.out.1.below hbw
          obtain ⟨g, off, rfl, hc⟩ := HR.cells.resolve_left (by omega)
          obtain ⟨e0, e1, e2, e3⟩ := hc k hki
          obtain ⟨hA, hB, hna, hnb⟩ := HR.ats its[k] (List.getElem_mem hki)
          have HA : Hid (At wr its[k].pa its[k].na its[k].ca its[k].xa) := hA
          have HB : Hid (At wr its[k].pb its[k].nb its[k].cb its[k].xb) := hB
          have hkk : (k : Int) < (N : Int) := by omega
          have hlt : g < wr.heap.size := World.block_lt_of_cell? wr _ e0
          have HTB : Hid (TbP wr) := H.out.2.below hbw
          clear hc HR hA hB
          generalize its[k].k = kd at *
          generalize its[k].pa = pa at *
          generalize its[k].na = na at *
          generalize its[k].ca = ca at *
          generalize its[k].xa = xa at *
          generalize its[k].pb = pb at *
          generalize its[k].nb = nb at *
          generalize its[k].cb = cb at *
          generalize its[k].xb = xb at *
          generalize its[k].st = st at *
          go_wp2_with fail
          refine (plays3 kd st (HA.out.alloc _) (HB.out.alloc _) hna hnb (HTB.out.below (below1 wr _))).mono ?_
          rintro e wz ⟨rfl, hbz⟩
          have hbw2 := Below.on hbw (Below.on (below1 wr _) hbz)
          clear hbw hbz HA HB e0 e1 e2 e3 HTB
          go_wp2_with fail
          go_roundg gg
          case measure => omega
          case rel => exact ⟨k + 1, by omega, by first | rfl | go_num, hbw2⟩
    · obtain rfl : ag = 2 := by omega
      have hd1 : decide (((2 : Nat) : Int) < 2) = false := by decide
      go_wp2_with fail
      go_ret
      exact ⟨rfl, hbw⟩
end Go.Proofs.YtpebgjpfgfimgaaGreatDoor
namespace Go.Proofs.YtpebgjpfgfimgaaGreatDoor
open Go.ChangeShapes Go.WideShapes Go.ChangeAt Go.RowKit Go.Deep
set_option maxRecDepth 100000
set_option maxHeartbeats 0
theorem weightsAll_mem {H : Type} {P : Program} {e : TypeId} : ∀ {l : List (DataW H)} {d : DataW H}, d ∈ l → ∀ n ∈ d.weights P e, n ∈ DataW.weightsAll P e l
  | [], d, hd, n, hn => by simp at hd
  | d0 :: r, d, hd, n, hn => by
    simp only [DataW.weightsAll, List.mem_append]
    rcases List.mem_cons.1 hd with rfl | h
    · exact .inl hn
    · exact .inr (weightsAll_mem h n hn)
theorem sized_elem {H : Type} {P : Program} {ts : List TypeId} {ds : List (DataW H)} (h : (DataW.weightsEach P ts ds).all (· ≤ reachBytes) = true) {j : Nat} {t e : TypeId} {fs : Array Field} {parts : List (DataW H)} {elems spare : List (DataW H)}
    (ht : ts[j]? = some t) (hd : ds[j]? = some (.slice elems spare)) (hu : P.underlying t = some (.slice e)) (hm : DataW.agg parts ∈ elems) (he : P.underlying e = some (.struct fs)) :
    (DataW.weightsEach P (fs.toList.map (·.type)) parts).all (· ≤ reachBytes) = true := by
  rw [List.all_eq_true]
  intro n hn
  refine List.all_eq_true.1 h n (DataW.weights_mem_each ht hd n ?_)
  simp only [DataW.weights, hu, List.mem_cons, List.mem_append]
  exact .inr (.inl (weightsAll_mem hm n (by simpa [DataW.weights, he] using hn)))
theorem open_fld_str {H : Type} {enc : TypeId × Value → H} {W : World} {v : Value} {n : Nat} {y : DataW H × List MemPlace} {t : TypeId} (ht : Tryz.prog.underlying t = some .string)
    (hf : DataW.trod enc Tryz.prog W 0 (fun _ => true) true n t [v] = some y) : ∃ s, v = .string s := by
  obtain ⟨s, hc, _⟩ := DataW.trod_string ht hf
  simp at hc
  exact ⟨s, hc⟩
theorem cellsOfOp : Tryz.prog.cellsOf 41 = 4 := by kernel_rfl
theorem oneCellOp {fs : Array Field} (h : Tryz.prog.underlying 41 = some (.struct fs)) : oneCellFields Tryz.prog fs = true := by
  have : (match Tryz.prog.underlying 41 with | some (.struct fs) => oneCellFields Tryz.prog fs | _ => false) = true := by kernel_rfl
  rw [h] at this
  exact this

theorem open_script3 {H : Type} {enc : TypeId × Value → H} {W : World} {a : Option Addr} {len cap : Nat} {d : DataW H} {ps : List MemPlace} {ts : List TypeId} {ds : List (DataW H)} {j : Nat}
    (h : DataW.Trod enc Tryz.prog W 0 (fun _ => true) true 39 (.slice a len cap) d ps) (hsz : (DataW.weightsEach Tryz.prog ts ds).all (· ≤ reachBytes) = true) (ht : ts[j]? = some 39) (hd : ds[j]? = some d) :
    ∃ its, Scr3 W a len cap its := by
  obtain ⟨fuel, hf⟩ := h
  rcases DataW.trod_slice Tryz.underlying39 hf with ⟨hcs, _⟩ | ⟨x, l, c, elems, rest, n, _, hcs, hx, hb, hl, hm, hlen, hel, _, _⟩
  · simp [Value.cells] at hcs
    obtain ⟨rfl, rfl, rfl⟩ := hcs
    exact ⟨[], rfl, Nat.le_refl _, by decide, fun t h => by simp at h, .inl rfl⟩
  · simp [Value.cells] at hcs
    obtain ⟨rfl, rfl, rfl⟩ := hcs
    simp only [Prod.mk.injEq] at hx
    obtain ⟨rfl, _⟩ := hx
    obtain ⟨b, off, spot⟩ := x
    have each : ∀ i, i < len → ∃ t : Op4s, (W.cell? ((⟨b, off, spot⟩ : Addr).add (i * 4 + 0)) = some (.int .i64 t.k) ∧ W.cell? ((⟨b, off, spot⟩ : Addr).add (i * 4 + 1)) = some (.slice t.pa t.na t.ca) ∧
        W.cell? ((⟨b, off, spot⟩ : Addr).add (i * 4 + 2)) = some (.slice t.pb t.nb t.cb) ∧ W.cell? ((⟨b, off, spot⟩ : Addr).add (i * 4 + 3)) = some (.string t.st)) ∧
        At W t.pa t.na t.ca t.xa ∧ At W t.pb t.nb t.cb t.xb ∧ t.na ≤ 17592186044416 ∧ t.nb ≤ 17592186044416 := by
      intro i hi
      have h1 := hel i hi
      have hie : i < elems.length := by omega
      rw [List.getElem?_eq_getElem hie, Option.bind_eq_some_iff] at h1
      obtain ⟨cs', h2, h3⟩ := h1
      rw [cellsOfOp] at h2
      obtain ⟨_, hlen5, hcell⟩ := World.cells?_some h2
      obtain ⟨ys, k, _, hxy, _, hxl, hg⟩ := DataW.trod_struct Tryz.underlying41 h3
      have hone := oneCellOp Tryz.underlying41
      match ys, hxl, cs', hlen5 with
      | [y0, y1, y2, y3], _, [v0, v1, v2, v3], _ =>
        have sf := sized_elem hsz ht hd Tryz.underlying39 (parts := [y0.1, y1.1, y2.1, y3.1]) (by
          have : elems[i].1 = DataW.agg [y0.1, y1.1, y2.1, y3.1] := by rw [hxy]; rfl
          rw [← this]
          exact List.mem_map_of_mem (List.getElem_mem hie)) Tryz.underlying41
        have g0 := hg 0 _ rfl
        have g1 := hg 1 _ rfl
        have g2 := hg 2 _ rfl
        have g3 := hg 3 _ rfl
        rw [(hone_of hone 0 _ rfl).1, (hone_of hone 0 _ rfl).2] at g0
        rw [(hone_of hone 1 _ rfl).1, (hone_of hone 1 _ rfl).2] at g1
        rw [(hone_of hone 2 _ rfl).1, (hone_of hone 2 _ rfl).2] at g2
        rw [(hone_of hone 3 _ rfl).1, (hone_of hone 3 _ rfl).2] at g3
        have k0 : DataW.trod enc Tryz.prog W 0 (fun _ => true) true k 3 [v0] = some y0 := g0
        have k1 : DataW.trod enc Tryz.prog W 0 (fun _ => true) true k 23 [v1] = some y1 := g1
        have k2 : DataW.trod enc Tryz.prog W 0 (fun _ => true) true k 23 [v2] = some y2 := g2
        have k3 : DataW.trod enc Tryz.prog W 0 (fun _ => true) true k 9 [v3] = some y3 := g3
        clear g0 g1 g2 g3
        obtain ⟨z0, rfl, _⟩ := open_fld_int Tryz.underlying3 k0
        obtain ⟨z3, rfl⟩ := open_fld_str Tryz.underlying9 k3
        obtain ⟨pa, na, ca, _, rfl, _⟩ := open_fld_at k1
        obtain ⟨pb, nb, cb, _, rfl, _⟩ := open_fld_at k2
        obtain ⟨xa, A1, bl1⟩ := open_at (a := pa) (len := na) (cap := ca) (d := y1.1) (ps := y1.2) ⟨k, k1⟩ sf (j := 1) rfl rfl
        obtain ⟨xb, A2, bl2⟩ := open_at (a := pb) (len := nb) (cap := cb) (d := y2.1) (ps := y2.2) ⟨k, k2⟩ sf (j := 2) rfl rfl
        have e0 := hcell 0 (by omega)
        have e1 := hcell 1 (by omega)
        have e2 := hcell 2 (by omega)
        have e3 := hcell 3 (by omega)
        rw [add_add] at e0 e1 e2 e3
        exact ⟨⟨z0, pa, na, ca, xa, pb, nb, cb, xb, z3⟩, ⟨e0, e1, e2, e3⟩, A1, A2, bl1, bl2⟩
    have inh : Inhabited Op4s := ⟨⟨0, none, 0, 0, [], none, 0, 0, [], ⟨#[]⟩⟩⟩
    obtain ⟨q, hq⟩ := choose_lt each
    refine ⟨(List.range len).map q, by simp, hl, hm, ?_, ?_⟩
    · intro t ht
      obtain ⟨i, hi, rfl⟩ := List.mem_map.1 ht
      exact (hq i (List.mem_range.1 hi)).2
    · by_cases h0 : len = 0
      · exact .inl h0
      · have hs := (hq 0 (by omega)).1.1
        have hspot : spot = none := by simpa [Addr.add] using World.cell?_spot hs
        subst hspot
        have hadd : ∀ q : Nat, (⟨b, off, none⟩ : Addr).add q = ⟨b, off + q, none⟩ := by intro q; unfold Addr.add; split <;> simp_all
        refine .inr ⟨b, off, rfl, fun i hi => ?_⟩
        have hi' : i < len := by simpa using hi
        have h5 := (hq i hi').1
        simp only [hadd] at h5
        simpa [Nat.add_assoc] using h5
end Go.Proofs.YtpebgjpfgfimgaaGreatDoor
