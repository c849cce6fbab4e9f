import Derived.Test.YtmmgnkhfaiophaaDoorBits
import Derived.Test.YtmmgnkhfaiophaaDoorNatSub
namespace Go.Proofs.YtmmgnkhfaiophaaDoor
open Go.RowKit

theorem Ans.ok {B : Nat} {w' : World} {e : Ending} {n : Nat} (h : Ans B w' e n) (hn : n < LIM) : ∃ p m zs, e = .returned (.tuple #[.slice p m m, .int .i64 0]) ∧ Own B w' p m zs ∧ Nf B64 zs n ∧ m ≤ 8192 := by
  rcases h with ⟨_, h⟩ | ⟨h, _⟩
  · exact h
  · omega
theorem Ans.no {B : Nat} {w' : World} {e : Ending} {n : Nat} (h : Ans B w' e n) (hn : LIM ≤ n) : e = .returned (.tuple #[.slice none 0 0, .int .i64 5]) := by
  rcases h with ⟨h, _⟩ | ⟨_, h⟩
  · omega
  · exact h
theorem lit_at (w : World) (cs : Array Value) (xs : List Nat) (n : Nat) (hcs : cs = (cellsU xs).toArray) (hn : xs.length = n) (hd : Dig B64 xs) (hb : n ≤ 1000) : At (w.alloc (.cells cs 23)) (some ⟨w.heap.size, 0, none⟩) n n xs := by
  subst hcs
  have h : Blk (w.alloc (.cells (cellsU xs).toArray 23)) w.heap.size xs := heap_alloc_new w _
  exact h.at_ hd hn (by unfold maxLen; omega)
theorem lit_at1 (w : World) (o : Obj) (cs : Array Value) (xs : List Nat) (n : Nat) (hcs : cs = (cellsU xs).toArray) (hn : xs.length = n) (hd : Dig B64 xs) (hb : n ≤ 1000) : At ((w.alloc o).alloc (.cells cs 23)) (some ⟨w.heap.size + 1, 0, none⟩) n n xs := by
  have := lit_at (w.alloc o) cs xs n hcs hn hd hb
  rw [World.size_alloc] at this; exact this
theorem below1 (w : World) (o : Obj) : Below w.heap.size w (w.alloc o) := (Below.refl _ _).alloc (Nat.le_refl _) o
theorem below2 (w : World) (o o' : Obj) : Below w.heap.size w ((w.alloc o).alloc o') := (below1 w o).alloc (by simp) o'
theorem Below.on {w w1 w2 : World} (h : Below w.heap.size w w1) (k : Below w1.heap.size w1 w2) : Below w.heap.size w w2 := h.trans (k.mono h.size)
def TOP : Nat := 18446744073709551615
theorem dig2 {x y : Nat} (h : x < B64) (k : y < B64) : Dig B64 [x, y] := Dig.cons h (Dig.cons k (Dig.nil _))
theorem nf_top : Nf B64 [TOP] TOP := ⟨dig1 (by decide), by intro x hx; simp at hx; subst hx; decide, by simp [valB]⟩
theorem nf_one {x : Nat} (h : x < B64) (h0 : x ≠ 0) : Nf B64 [x] x := ⟨dig1 h, by intro y hy; simp at hy; omega, by simp [valB]⟩
theorem nf_B64 : Nf B64 [0, 1] (TOP + 1) := ⟨dig2 (by decide) (by decide), by intro x hx; simp at hx; omega, by simp [valB, B64, TOP]⟩
theorem nf_tt : Nf B64 [1, TOP - 1] (TOP * TOP) := ⟨dig2 (by decide) (by decide), by intro x hx; simp [TOP] at hx; omega, by simp [valB, B64, TOP]⟩
theorem nf_bb : Nf B64 [0, 0, 1] ((TOP + 1) * (TOP + 1)) := ⟨Dig.cons (by decide) (dig2 (by decide) (by decide)), by intro x hx; simp at hx; omega, by simp [valB, B64, TOP]⟩

theorem same_t {p q : Option Addr} {n m c d : Nat} {xs : List Nat} {w : World} (h : At w p n c xs) (k : At w q m d xs) :
    Calls Tryd.prog 55 #[.slice p n c, .slice q m d] w fun e w' => e = .returned (.bool true) ∧ Below w.heap.size w w' := by
  refine (same_any h k).mono ?_
  rintro e w' ⟨rfl, r, rfl⟩
  exact ⟨ret_bool (by simp), bDrewN (Below.refl _ _) r⟩
theorem nf_of_form {xs : List Nat} (hd : Dig B64 xs) (hf : formB xs = true) : Nf B64 xs (valB B64 xs) := (formB_nf hf hd).1
theorem word_any (v : Nat) (w : World) (hv : v < B64) :
    Calls Tryd.prog 52 #[U v] w fun e w' => ∃ p m zs, e = .returned (.slice p m m) ∧ Own w.heap.size w' p m zs ∧ Nf B64 zs v ∧ m ≤ 1 ∧ Below w.heap.size w w' := by
  by_cases h0 : v = 0
  · subst h0
    go_enter Tryd.func52, Tryd.ntmps52
    go_wp2_with fail
    go_ret
    exact ⟨none, 0, [], rfl, ⟨rfl, Dig.nil _, .inl rfl⟩, Nf.nil _, by omega, Below.refl _ _⟩
  · have h0' : ((v : Int) == 0) = false := by simp; omega
    go_enter Tryd.func52, Tryd.ntmps52
    go_wp2_with fail
    go_ret
    have hbk : Blk (w.alloc (.cells #[U v] 23)) w.heap.size [v] := heap_alloc_new w _
    exact ⟨_, 1, [v], rfl, hbk.own (dig1 hv) (Nat.le_refl _), nf_one hv h0, by omega, below1 w _⟩

end Go.Proofs.YtmmgnkhfaiophaaDoor
