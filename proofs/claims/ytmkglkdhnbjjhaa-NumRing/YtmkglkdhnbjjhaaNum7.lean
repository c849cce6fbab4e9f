import Derived.Test.YtmkglkdhnbjjhaaNum6
import Derived.Test.YtmkglkdhnbjjhaaNum5a
import Derived.Test.YtmkglkdhnbjjhaaNum5b
namespace Go.Proofs.Ytmkglkdhnbjjhaa
open Go.RowKit Go.Shelf

/-- What a pair told of the whole number z holds. -/
def Told (z : Int) (s : Bool) (m : Nat) (zs : List Nat) (er : Int) : Prop :=
  (z.natAbs < LIM ∧ s = decide (z < 0) ∧ Nf B64 zs z.natAbs ∧ m ≤ 8192 ∧ er = 0) ∨ (LIM ≤ z.natAbs ∧ s = false ∧ zs = [] ∧ m = 0 ∧ er = 5)
theorem AnsI.any {B : Nat} {w' : World} {e : Ending} {z : Int} (h : AnsI B w' e z) : ∃ s p m zs er, e = .returned (.tuple #[ZV s p m m, .int .i64 er]) ∧ At w' p m m zs ∧ Told z s m zs er := by
  rcases h with ⟨hz, p, m, zs, rfl, ho, hn, hm⟩ | ⟨hz, rfl⟩
  · exact ⟨_, p, m, zs, 0, rfl, ho.at_ hm, .inl ⟨hz, rfl, hn, hm, rfl⟩⟩
  · exact ⟨false, none, 0, [], 5, rfl, At.empty _ none 0 (by decide), .inr ⟨hz, rfl, rfl, rfl, rfl⟩⟩
theorem Told.inj {z : Int} {s s' : Bool} {m m' : Nat} {zs zs' : List Nat} {er er' : Int} (h : Told z s m zs er) (k : Told z s' m' zs' er') : s = s' ∧ zs = zs' ∧ er = er' := by
  rcases h with ⟨hz, rfl, hn, hm, rfl⟩ | ⟨hz, rfl, rfl, rfl, rfl⟩ <;> rcases k with ⟨kz, rfl, kn, km, rfl⟩ | ⟨kz, rfl, rfl, rfl, rfl⟩
  · exact ⟨rfl, hn.inj B64_one kn, rfl⟩
  · omega
  · omega
  · exact ⟨rfl, rfl, rfl⟩
theorem Told.er {z : Int} {s : Bool} {m : Nat} {zs : List Nat} {er : Int} (h : Told z s m zs er) : er = 0 ∨ er = 5 := by
  rcases h with ⟨_, _, _, _, rfl⟩ | ⟨_, _, _, _, rfl⟩
  · exact .inl rfl
  · exact .inr rfl
theorem Told.ok {z : Int} {s : Bool} {m : Nat} {zs : List Nat} {w : World} {p : Option Addr} (h : Told z s m zs 0) (a : At w p m m zs) : Num w p m m zs z.natAbs ∧ s = decide (z < 0) := by
  rcases h with ⟨_, h1, h2, h3, _⟩ | ⟨_, _, _, _, h⟩
  · exact ⟨⟨a, h2, h3⟩, h1⟩
  · exact absurd h (by decide)
theorem Told.no {z : Int} {s : Bool} {m : Nat} {zs : List Nat} (h : Told z s m zs 5) : LIM ≤ z.natAbs := by
  rcases h with ⟨_, _, _, _, h⟩ | ⟨h, _⟩
  · exact absurd h (by decide)
  · exact h
theorem iv_abs (z : Int) : iv (decide (z < 0)) z.natAbs = z := by
  unfold iv
  by_cases h : z < 0
  · simp only [h, decide_true, if_true]; omega
  · simp only [h, decide_false, Bool.false_eq_true, if_false]; omega
theorem iv_natAbs (s : Bool) (a : Nat) : (iv s a).natAbs = a := by cases s <;> simp [iv]
theorem sgn_pos (z : Int) : decide (z < 0) = true → 0 < z.natAbs := by intro h; have := of_decide_eq_true h; omega

theorem to04_any {p : Option Addr} {n : Nat} {zs : List Nat} {a : Nat} {w : World} (b : Bool) (h : At32 w p n n zs) (hx : Nf B32 zs a) (hn : n ≤ 35184372088832) (h0 : b = true → 0 < n) :
    Calls Try.prog 20 #[.agg #[.bool b, .slice p n n]] w fun e w' => ∃ g k N us, e = .returned (ZV b (some ⟨g, 0, none⟩) k N) ∧ At w' (some ⟨g, 0, none⟩) k N us ∧ Nf B64 us a ∧ w.heap.size ≤ g ∧ Below w.heap.size w w' := by
  cases b
  · exact to04_f h hx hn
  · have := to04_p h hx hn (h0 rfl)
    rwa [decide_eq_true (h0 rfl)] at this

set_option maxRecDepth 20000 in
set_option maxHeartbeats 2000000 in
theorem formed_any {p : Option Addr} {n c : Nat} {xs : List Nat} {w : World} (s : Bool) (h : At w p n c xs) (hn : n ≤ 17592186044416) :
    Calls Try.prog 5 #[ZV s p n c] w fun e w' => ∃ t q k N us ok, e = .returned (.tuple #[ZV t q k N, .bool ok]) ∧ ok = decide (k ≤ 8192) ∧ At w' q k N us ∧ Nf B64 us (valB B64 xs) ∧ (t = true → 0 < valB B64 xs) ∧ Below w.heap.size w w' := by
  go_enter Try.func5, Try.ntmps5
  go_wp2_with fail
  have B1 : Box ((w.alloc (.cells #[.bool s, .slice p n c] 24)).alloc (.cells #[.bool false, .slice none 0 0] 24)) (w.heap.size + 1) (.bool false) (.slice none 0 0) := ⟨by go_simp, by go_simp, by go_simp, by go_simp⟩
  have hbw : Below w.heap.size w ((w.alloc (.cells #[.bool s, .slice p n c] 24)).alloc (.cells #[.bool false, .slice none 0 0] 24)) := below2 w _ _
  have hsW : ((w.alloc (.cells #[.bool s, .slice p n c] 24)).alloc (.cells #[.bool false, .slice none 0 0] 24)).heap.size = w.heap.size + 1 + 1 := by simp
  generalize ((w.alloc (.cells #[.bool s, .slice p n c] 24)).alloc (.cells #[.bool false, .slice none 0 0] 24)) = W at *
  obtain ⟨hs, ehs⟩ : ∃ hs, hs = w.heap.size := ⟨_, rfl⟩
  have HHS : Hid (hs = w.heap.size) := ehs
  rw [← ehs] at B1 hsW ⊢
  have HAT : Hid (At W p n c xs) := h.below hbw
  clear h
  refine (from04 s HAT.out hn).mono ?_
  rintro e w1 ⟨p1, m1, z1, rfl, hA1, hn1, hl1, hb1⟩
  have HZ : Hid (m1 = 0 ↔ valB B64 xs = 0) := by
    show _ ↔ _
    rw [← hn1.zero_iff (by decide), ← hA1.len]
    exact ⟨List.eq_nil_of_length_eq_zero, fun e => by rw [e]; rfl⟩
  obtain ⟨t, ht⟩ : ∃ t, t = (s && decide (0 < m1)) := ⟨_, rfl⟩
  rw [← ht]
  have HT : Hid (t = true → 0 < m1) := by intro h; rw [ht] at h; simp at h; exact h.2
  have Y1 : Hid (Box w1 (hs + 1) (.bool false) (.slice none 0 0)) := B1.below hb1
  have HA1 : Hid (At32 w1 p1 m1 m1 z1) := hA1
  have HN1 : Hid (Nf B32 z1 (valB B64 xs)) := hn1
  have HL1 : Hid (m1 ≤ 2 * n) := hl1
  have HB1 : Hid (Below w.heap.size w w1) := Below.on hbw hb1
  have HS1 : Hid (hs + 1 + 1 ≤ w1.heap.size) := Nat.le_trans (Nat.le_of_eq hsW.symm) hb1.size
  clear ht B1 hbw hsW hA1 hn1 hl1 hb1 ehs
  go_wp2_with fail
  refine (to04_any t HA1.out HN1.out (by have := HL1.out; omega) HT.out).mono ?_
  rintro e w2 ⟨g2, k2, N2, us, rfl, hA2, hn2, hg2, hb2⟩
  have Y2 : Hid (Box w2 (hs + 1) (.bool false) (.slice none 0 0)) := Y1.out.below hb2
  have HA2 : Hid (At w2 (some ⟨g2, 0, none⟩) k2 N2 us) := hA2
  have HN2 : Hid (Nf B64 us (valB B64 xs)) := hn2
  have HB2 : Hid (Below w.heap.size w w2) := Below.on HB1.out hb2
  have HG2 : Hid (hs + 1 + 1 ≤ g2) := Nat.le_trans HS1.out hg2
  clear hA2 hn2 hg2 hb2 Y1
  go_wp2_with fail
  have X3 : Box (w2.alloc (.cells #[.bool t, .slice (some ⟨g2, 0, none⟩) k2 N2] 24)) w2.heap.size (.bool t) (.slice (some ⟨g2, 0, none⟩) k2 N2) := Box.new w2 _ _ _
  have Y3 : Box (w2.alloc (.cells #[.bool t, .slice (some ⟨g2, 0, none⟩) k2 N2] 24)) (hs + 1) (.bool false) (.slice none 0 0) := Y2.out.below (below1 w2 _)
  have HA3 : Hid (At (w2.alloc (.cells #[.bool t, .slice (some ⟨g2, 0, none⟩) k2 N2] 24)) (some ⟨g2, 0, none⟩) k2 N2 us) := HA2.out.alloc _
  have HB3 : Hid (Below w.heap.size w (w2.alloc (.cells #[.bool t, .slice (some ⟨g2, 0, none⟩) k2 N2] 24))) := Below.on HB2.out (below1 w2 _)
  have hlt2 : hs + 1 < w2.heap.size := World.block_lt_of_cell? w2 _ Y2.out.c0
  have hne2 : ¬ w2.heap.size = hs + 1 := by omega
  have hne3 : ¬ hs + 1 = w2.heap.size := by omega
  clear Y2 HA2 HB2
  generalize w2.alloc (.cells #[.bool t, .slice (some ⟨g2, 0, none⟩) k2 N2] 24) = W3 at *
  generalize w2.heap.size = g3 at *
  obtain ⟨c00, c01, f00, f01⟩ := X3
  obtain ⟨c10, c11, f10, f11⟩ := Y3
  go_region
  all_goals
    (go_wp2_with fail
     refine bodyPost_ret (v := .tuple #[ZV t (some ⟨g2, 0, none⟩) k2 N2, .bool (decide ((k2 : Int) ≤ 8192))]) (by rw [results_cell_tmp rfl]; go_simp) rfl ⟨t, _, k2, N2, us, _, rfl, ?_, ?_, HN2.out, ?_, ?_⟩
     · rw [decide_eq_decide]; omega
     · have hg := HG2.out
       exact ((HA3.out.setOther _ _ _ (by omega)).setOther _ _ _ (by omega)).drewN 1
     · intro h
       have h1 := HT.out h
       rcases Nat.eq_zero_or_pos (valB B64 xs) with e | e
       · have := HZ.out.2 e; omega
       · exact e
     · have hh := HHS.out
       exact bDrew1 (bSet (bSet HB3.out _ _ _ (by omega)) _ _ _ (by omega)))
end Go.Proofs.Ytmkglkdhnbjjhaa
