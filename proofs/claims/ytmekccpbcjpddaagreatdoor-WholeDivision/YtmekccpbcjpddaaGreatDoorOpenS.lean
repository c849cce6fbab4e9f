import Derived.Test.YtmekccpbcjpddaaGreatDoorOpen
import Derived.Deep.Fields
namespace Go.Proofs.YtmekccpbcjpddaaGreatDoor
open Go.ChangeShapes Go.WideShapes Go.ChangeAt Go.RowKit Go.Deep
theorem open_fld {H : Type} {enc : TypeId × Value → H} {P : Program} {w : World} {base : Nat} {spare : Nat → Bool} {held : Bool} {t : TypeId} {fs : Array Field} {cs : Array Value} {d : DataW H} {p : List MemPlace}
    (hs : P.underlying t = some (.struct fs)) (hone : oneCellFields P fs = true) (h : DataW.Trod enc P w base spare held t (.agg cs) d p) (i : Nat) {f : Field} {v : Value} (hi : fs[i]? = some f) (hc : cs[i]? = some v) :
    ∃ n y, DataW.trod enc P w base spare held n f.type [v] = some y := by
  obtain ⟨fuel, hf⟩ := h
  obtain ⟨xs, n, _, _, _, hlen, hg⟩ := DataW.trod_struct hs hf
  obtain ⟨o, k⟩ := hone_of hone i f hi
  have h1 := hg i f hi
  have hlt : i < xs.length := by rw [hlen]; exact (Array.getElem?_eq_some_iff.1 hi).1
  rw [o, k, List.getElem?_eq_getElem hlt] at h1
  obtain ⟨hci, hcv⟩ := Array.getElem?_eq_some_iff.1 hc
  have h2 : ((Value.agg cs).cells.toList.drop i).take 1 = [v] := by
    show (cs.toList.drop i).take 1 = [v]
    have hl : i < cs.toList.length := by simpa using hci
    rw [List.drop_eq_getElem_cons hl]
    simp [hcv]
  rw [h2] at h1
  exact ⟨n, _, h1⟩

theorem open_fld_at {H : Type} {enc : TypeId × Value → H} {W : World} {v : Value} {n : Nat} {y : DataW H × List MemPlace}
    (hf : DataW.trod enc Tryz.prog W 0 (fun _ => true) true n 22 [v] = some y) : ∃ a len cap xs, v = .slice a len cap ∧ At W a len cap xs := by
  rcases open_ints Tryz.underlying22 Tryz.underlying28 cellsOfU64 hf with ⟨hcs, _⟩ | ⟨x, l, c, zs, hcs, _, hl, hm, hz, hx, hcell, hwz⟩
  · simp at hcs
    subst hcs
    exact ⟨none, 0, 0, [], rfl, At.empty W none 0 (by decide)⟩
  · simp at hcs
    subst hcs
    simp only [if_true] at hz
    have hlen : ((zs.take l).map Int.toNat).length = l := by simp; omega
    have hget : ∀ i, i < l → ((((zs.take l).map Int.toNat).getD i 0 : Nat) : Int) = zs.getD i 0 ∧ ((zs.take l).map Int.toNat).getD i 0 < B64 := by
      intro i hi
      have h1 : i < zs.length := by omega
      have h2 := wf_u64 (hwz zs[i] (List.getElem_mem h1))
      simp only [List.getD_eq_getElem?_getD, List.getElem?_map, List.getElem?_take, hi, if_true, List.getElem?_eq_getElem h1, Option.map_some, Option.getD_some]
      rw [B64_eq]
      omega
    refine ⟨some x, l, c, (zs.take l).map Int.toNat, rfl, hlen, hl, hm, ?_, ?_⟩
    · intro y hy
      obtain ⟨i, hi, rfl⟩ := List.getElem_of_mem hy
      have := (hget i (by omega)).2
      rw [List.getD_eq_getElem?_getD, List.getElem?_eq_getElem hi] at this
      exact this
    · by_cases h0 : l = 0
      · exact .inl h0
      · obtain ⟨b, off, spot⟩ := x
        have hc := hcell 0 (by omega)
        have hspot : spot = none := by simpa [Addr.add] using World.cell?_spot hc
        subst hspot
        refine .inr ⟨b, off, rfl, fun i hi => ?_⟩
        have hadd : (⟨b, off, none⟩ : Addr).add i = ⟨b, off + i, none⟩ := by unfold Addr.add; split <;> simp_all
        have := hcell i (by omega)
        rw [hadd] at this
        rw [this]; unfold U; rw [(hget i hi).1]

theorem open_fld_int {H : Type} {enc : TypeId × Value → H} {W : World} {v : Value} {n : Nat} {y : DataW H × List MemPlace} {t : TypeId} {k : IntKind} (ht : Tryz.prog.underlying t = some (.int k))
    (hf : DataW.trod enc Tryz.prog W 0 (fun _ => true) true n t [v] = some y) : ∃ z, v = .int k z ∧ (Lit.int k z).wf = true := by
  obtain ⟨z, hc, _, hw⟩ := DataW.trod_int ht hf
  simp at hc
  exact ⟨z, hc, hw⟩
theorem open_fld_bool {H : Type} {enc : TypeId × Value → H} {W : World} {v : Value} {n : Nat} {y : DataW H × List MemPlace} {t : TypeId} (ht : Tryz.prog.underlying t = some .bool)
    (hf : DataW.trod enc Tryz.prog W 0 (fun _ => true) true n t [v] = some y) : ∃ b, v = .bool b := by
  obtain ⟨b, hc, _⟩ := DataW.trod_bool ht hf
  simp at hc
  exact ⟨b, hc⟩
end Go.Proofs.YtmekccpbcjpddaaGreatDoor
