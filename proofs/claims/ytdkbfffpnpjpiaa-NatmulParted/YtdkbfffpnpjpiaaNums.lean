import Derived.Test.YtdkbfffpnpjpiaaLits
namespace Go.Proofs.Ytdkbfffpnpjpiaa
open Go.RowKit

/-- A slice that reads a natural in form. -/
structure Num (w : World) (p : Option Addr) (m c : Nat) (xs : List Nat) (a : Nat) : Prop where
  at_ : At w p m c xs
  nf : Nf B64 xs a
  le : m ≤ 8192
theorem Num.below {w w' : World} {p : Option Addr} {m c : Nat} {xs : List Nat} {a : Nat} (h : Num w p m c xs a) (hb : Below w.heap.size w w') : Num w' p m c xs a := ⟨h.at_.below hb, h.nf, h.le⟩
theorem Num.lim {w : World} {p : Option Addr} {m c : Nat} {xs : List Nat} {a : Nat} (h : Num w p m c xs a) : a < LIM := h.nf.lim.1 (by rw [h.at_.len]; exact h.le)
theorem Num.of {B : Nat} {w : World} {p : Option Addr} {m : Nat} {xs : List Nat} {a : Nat} (ho : Own B w p m xs) (hn : Nf B64 xs a) (hm : m ≤ 8192) : Num w p m m xs a := ⟨ho.at_ hm, hn, hm⟩
end Go.Proofs.Ytdkbfffpnpjpiaa
