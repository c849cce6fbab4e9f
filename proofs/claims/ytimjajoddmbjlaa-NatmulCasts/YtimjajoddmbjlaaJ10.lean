import Derived.Deep.RegionWith
import Derived.Test.YtimjajoddmbjlaaMem
import Derived.Test.YtimjajoddmbjlaaJ9
import Derived.Test.YtimjajoddmbjlaaJ8
import Derived.Deep.DeepCutAuto
namespace Go.Proofs.Ytimjajoddmbjlaa
open Go.RowKit
set_option maxRecDepth 20000
set_option maxHeartbeats 0
variable {P : Program} {md : Region.Mode} {ops : Array Oper} {Q : Exit → Act → World → Prop} {J : World → Prop}

def wpJ (P : Program) (md : Region.Mode) (ops : Array Oper) (Q : Exit → Act → World → Prop) (J : World → Prop) : Nat → Array Bool → Act → World → Prop
  | 0, listed, a, w => Region.ready md ops listed = [] ∧ Q .normal a w
  | fuel + 1, listed, a, w =>
    (Region.ready md ops listed = [] → Q .normal a w) ∧
    ∀ i ∈ Region.ready md ops listed, wpOp P ops Q i (fun a' w' => J w' ∧ wpJ P md ops Q J fuel (listed.setIfInBounds i true) a' w') a w
theorem wpJ_any : ∀ (fuel : Nat) (listed : Array Bool) (a : Act) (w : World), wpJ P md ops Q J fuel listed a w → wpAny P md ops Q fuel listed a w
  | 0, _, _, _, h => h
  | fuel + 1, _, _, _, h => ⟨h.1, fun i hi => wpOp_mono (fun a' w' h' => wpJ_any fuel _ a' w' h'.2) (h.2 i hi)⟩

def YieldsJ (P : Program) (ops : Array Oper) (J : World → Prop) (o : Oper) (v : Value) (a : Act) : Prop :=
  (Region.wanted o (yielded ops a.tmps) = true ∧ ∀ w, J w → (execOp a.eval o).run P w = .ok (.value v) w) ∨ (Region.wanted o (yielded ops a.tmps) = false ∧ v = undef)
theorem YieldsJ.wpOp {i : Nat} {o : Oper} {v : Value} {a : Act} (hi : ops[i]? = some o) (hy : YieldsJ P ops J o v a)
    {K : Act → World → Prop} {w : World} (hJ : J w) (h : K (a.put o.dst v) w) : wpOp P ops Q i K a w := by
  unfold Go.wpOp
  simp only [hi]
  rcases hy with ⟨hw, hv⟩ | ⟨hw, rfl⟩
  · simp only [hw, if_true, Oper.wp, hv w hJ, Oper.upon]
    exact .inl h
  · simp only [hw]
    exact h
theorem YieldsJ.of_same {o : Oper} {v : Value} {a a' : Act} (hy : YieldsJ P ops J o v a) (he : execOp a'.eval o = execOp a.eval o)
    (hw : Region.wanted o (yielded ops a'.tmps) = Region.wanted o (yielded ops a.tmps)) : YieldsJ P ops J o v a' := by
  unfold YieldsJ at *
  rw [he, hw]
  exact hy
theorem wpOpJ_put {j : Nat} {oi oj : Oper} {v : Value} (hj : ops[j]? = some oj) (hap : oi.apart ops oj = true)
    (hsi : ∀ cs b, oi.op ≠ .select cs b) (hsj : ∀ cs b, oj.op ≠ .select cs b)
    (hQ : ∀ c a w, Q (.panic c) (a.put oi.dst v) w → Q (.panic c) a w) {K : Act → World → Prop} {a : Act} {w : World}
    (hy : YieldsJ P ops J oi v a) (h : wpOp P ops Q j K (a.put oi.dst v) w) :
    wpOp P ops Q j (fun a' w' => YieldsJ P ops J oi v a' ∧ K (a'.put oi.dst v) w') a w := by
  obtain ⟨h1, h2, h3⟩ := Oper.apart_spec hap
  have keep : ∀ (a : Act), YieldsJ P ops J oi v a → ∀ u, YieldsJ P ops J oi v (a.put oj.dst u) := fun a hy u =>
    hy.of_same (execOp_put oi hsi a oj.dst u h3) (wanted_put oi a oj.dst u h3)
  have keepD : ∀ d, YieldsJ P ops J oi v { a with defers := d :: a.defers } := fun d => hy.of_same rfl rfl
  unfold wpOp at *
  simp only [hj] at *
  rw [wanted_put oj a oi.dst v h1] at h
  split
  · rename_i hw
    simp only [hw, if_true] at h
    rcases h with h | ⟨hasks, hlets⟩
    case inr => exact .inr ⟨by unfold Oper.asks at *; rw [execOp_put oj hsj a oi.dst v h1] at hasks; exact hasks, hlets⟩
    refine .inl ?_
    unfold Oper.wp at *
    rw [execOp_put oj hsj a oi.dst v h1] at h
    generalize (execOp a.eval oj).run P w = r at *
    cases r with
    | ok n w' =>
      cases n <;> simp only [Oper.upon] at h ⊢
      case value u => exact ⟨keep a hy u, by rw [← Act.put_comm a v u h2]; exact h⟩
      case skip => exact ⟨keep a hy _, by rw [← Act.put_comm a v undef h2]; exact h⟩
      case defer d =>
        refine ⟨keep _ (keepD d) _, ?_⟩
        rw [← Act.put_comm _ v undef h2, ← Act.put_defers]
        exact h
      case enter f args =>
        refine Calls.mono h fun e w'' he => ?_
        cases e with
        | returned u => exact ⟨keep a hy u, by rw [← Act.put_comm a v u h2]; exact he⟩
        | panicked c => exact hQ _ _ _ he
        | outgrown => exact he
      case row row args => exact Rows.mono h fun u w'' he => ⟨keep a hy u, by rw [← Act.put_comm a v u h2]; exact he⟩
    | halt x w' =>
      cases x <;> simp only [Oper.upon] at h ⊢
      case panic u => exact hQ _ _ _ h
  · rename_i hw
    simp only [hw] at h
    exact ⟨keep a hy _, by rw [← Act.put_comm a v undef h2]; exact h⟩

theorem wpJ_first {i : Nat} {oi : Oper} {v : Value} (hi : ops[i]? = some oi) (hsel : ∀ (j : Nat) (o : Oper) cs b, ops[j]? = some o → o.op ≠ .select cs b)
    (hQ : ∀ c a w, Q (.panic c) (a.put oi.dst v) w → Q (.panic c) a w) :
    ∀ (fuel : Nat) (listed : Array Bool) (a : Act) (w : World),
      (∀ j oj, ops[j]? = some oj → j ≠ i → listed.getD j true = false → (∀ e ∈ oj.after, Region.binds md e = true → e.on ≠ i) → oi.apart ops oj = true) →
      i ∈ Region.ready md ops listed → YieldsJ P ops J oi v a → J w →
      wpJ P md ops Q J fuel (listed.setIfInBounds i true) (a.put oi.dst v) w → wpJ P md ops Q J (fuel + 1) listed a w := by
  intro fuel
  induction fuel with
  | zero =>
    intro listed a w _ hr hy hJ H
    refine ⟨fun h => (by rw [h] at hr; cases hr), fun j hj => ?_⟩
    by_cases hji : j = i
    · subst hji; exact hy.wpOp hi hJ ⟨hJ, H⟩
    · have := ready_mono hj hji
      rw [H.1] at this
      cases this
  | succ fuel ih =>
    intro listed a w hfree hr hy hJ H
    refine ⟨fun h => (by rw [h] at hr; cases hr), fun j hj => ?_⟩
    by_cases hji : j = i
    · subst hji; exact hy.wpOp hi hJ ⟨hJ, H⟩
    · have h1 := H.2 j (ready_mono hj hji)
      obtain ⟨hjun, oj, hoj, hall⟩ := mem_ready.1 hj
      have hnot : ∀ e ∈ oj.after, Region.binds md e = true → e.on ≠ i := fun e he hb heq => by
        have h1 := hall e he hb
        have h0 := (mem_ready.1 hr).1
        rw [heq] at h1
        rcases Nat.lt_or_ge i listed.size with h' | h'
        · simp [h'] at h0 h1; rw [h0] at h1; cases h1
        · simp [Array.getElem?_eq_none h'] at h1
      have h2 := wpOpJ_put hoj (hfree j oj hoj hji hjun hnot) (fun cs b => hsel i oi cs b hi) (fun cs b => hsel j oj cs b hoj) hQ hy h1
      have hfree' : ∀ k ok, ops[k]? = some ok → k ≠ i → (listed.setIfInBounds j true).getD k true = false →
          (∀ e ∈ ok.after, Region.binds md e = true → e.on ≠ i) → oi.apart ops ok = true := fun k ok hk hki hun hno => by
        refine hfree k ok hk hki ?_ hno
        by_cases hjk : j = k
        · subst hjk; exact hjun
        · rw [getD_set_ne true hjk] at hun; exact hun
      refine wpOp_mono (fun a' w' h3 => ⟨h3.2.1, ih (listed.setIfInBounds j true) a' w' hfree' (ready_mono hr (Ne.symm hji)) h3.1 h3.2.1 ?_⟩) h2
      rw [Array.setIfInBounds_comm _ _ hji]
      exact h3.2.2

theorem wpJ_take {i : Nat} {oi : Oper} {v : Value} {fuel : Nat} {listed : Array Bool} {a : Act} {w : World} (hi : ops[i]? = some oi)
    (hs : Region.noSelect ops = true) (hf : Region.free md ops listed i = true) (hr : (Region.ready md ops listed).contains i = true)
    (hQ : ∀ c a w, Q (.panic c) (a.put oi.dst v) w → Q (.panic c) a w) (hw : Region.wanted oi (yielded ops a.tmps) = true)
    (hy : ∀ w, J w → (execOp a.eval oi).run P w = .ok (.value v) w) (hJ : J w)
    (h : wpJ P md ops Q J fuel (listed.setIfInBounds i true) (a.put oi.dst v) w) : wpJ P md ops Q J (fuel + 1) listed a w :=
  wpJ_first hi (Region.noSelect_spec hs) hQ fuel listed a w (Region.free_spec hi hf) (by simpa using hr) (.inl ⟨hw, hy⟩) hJ h
theorem wpJ_tk (i : Nat) {oi : Oper} {v : Value} {fuel : Nat} {listed : Array Bool} {a : Act} {w : World} (hi : ops[i]? = some oi)
    (hy : ∀ w, J w → (execOp a.eval oi).run P w = .ok (.value v) w) (hJ : J w)
    (h : wpJ P md ops Q J fuel (listed.setIfInBounds i true) (a.put oi.dst v) w) (hs : Region.noSelect ops = true := by kernel_rfl) (hf : Region.free md ops listed i = true := by kernel_rfl)
    (hr : (Region.ready md ops listed).contains i = true := by kernel_rfl) (hQ : ∀ c a w, Q (.panic c) (a.put oi.dst v) w → Q (.panic c) a w := by exact fun _ _ _ h => h)
    (hw : Region.wanted oi (yielded ops a.tmps) = true := by kernel_rfl) : wpJ P md ops Q J (fuel + 1) listed a w := wpJ_take hi hs hf hr hQ hw hy hJ h
theorem wpJ_tq (i : Nat) {oi : Oper} {v : Value} {fuel : Nat} {listed : Array Bool} {a : Act} {w : World} (hi : ops[i]? = some oi) (hJ : J w)
    (h : wpJ P md ops Q J fuel (listed.setIfInBounds i true) (a.put oi.dst v) w)
    (hy : ∀ w, J w → (execOp a.eval oi).run P w = .ok (.value v) w := by (intro W' hJ; repeat (obtain ⟨_, hJ⟩ := hJ); go_simp; first | done | with_reducible rfl)) (hs : Region.noSelect ops = true := by kernel_rfl) (hf : Region.free md ops listed i = true := by kernel_rfl)
    (hr : (Region.ready md ops listed).contains i = true := by kernel_rfl) (hQ : ∀ c a w, Q (.panic c) (a.put oi.dst v) w → Q (.panic c) a w := by exact fun _ _ _ h => h)
    (hw : Region.wanted oi (yielded ops a.tmps) = true := by kernel_rfl) : wpJ P md ops Q J (fuel + 1) listed a w := wpJ_take hi hs hf hr hQ hw hy hJ h
theorem wpJ_skip {i : Nat} {oi : Oper} {fuel : Nat} {listed : Array Bool} {a : Act} {w : World} (hi : ops[i]? = some oi)
    (hs : Region.noSelect ops = true) (hf : Region.free md ops listed i = true) (hr : (Region.ready md ops listed).contains i = true)
    (hQ : ∀ c a w, Q (.panic c) (a.put oi.dst undef) w → Q (.panic c) a w) (hw : Region.wanted oi (yielded ops a.tmps) = false) (hJ : J w)
    (h : wpJ P md ops Q J fuel (listed.setIfInBounds i true) (a.put oi.dst undef) w) : wpJ P md ops Q J (fuel + 1) listed a w :=
  wpJ_first hi (Region.noSelect_spec hs) hQ fuel listed a w (Region.free_spec hi hf) (by simpa using hr) (.inr ⟨hw, rfl⟩) hJ h
theorem wpJ_sk (i : Nat) {oi : Oper} {fuel : Nat} {listed : Array Bool} {a : Act} {w : World} (hi : ops[i]? = some oi) (hJ : J w) (h : wpJ P md ops Q J fuel (listed.setIfInBounds i true) (a.put oi.dst undef) w)
    (hs : Region.noSelect ops = true := by kernel_rfl) (hf : Region.free md ops listed i = true := by kernel_rfl) (hr : (Region.ready md ops listed).contains i = true := by kernel_rfl)
    (hQ : ∀ c a w, Q (.panic c) (a.put oi.dst undef) w → Q (.panic c) a w := by exact fun _ _ _ h => h) (hw : Region.wanted oi (yielded ops a.tmps) = false := by kernel_rfl) : wpJ P md ops Q J (fuel + 1) listed a w := wpJ_skip hi hs hf hr hQ hw hJ h
theorem wpJ_one {i : Nat} {o : Oper} {fuel : Nat} {listed : Array Bool} {a : Act} {w : World} (hr : Region.ready md ops listed = [i]) (ho : ops[i]? = some o)
    (hw : Region.wanted o (yielded ops a.tmps) = true)
    (h : ∀ K : Act → World → Prop, (∀ a' w', J w' → wpJ P md ops Q J fuel (listed.setIfInBounds i true) a' w' → K a' w') → Oper.wp P o a w K Q) : wpJ P md ops Q J (fuel + 1) listed a w := by
  refine ⟨fun h => (by rw [hr] at h; cases h), fun j hj => ?_⟩
  rw [hr] at hj
  obtain rfl : j = i := by simpa using hj
  unfold wpOp
  simp only [ho, hw, if_true]
  exact .inl (h _ fun a' w' h1 h2 => ⟨h1, h2⟩)
theorem wpJ_on (i : Nat) {o : Oper} {fuel : Nat} {listed : Array Bool} {a : Act} {w : World} (ho : ops[i]? = some o)
    (h : ∀ K : Act → World → Prop, (∀ a' w', J w' → wpJ P md ops Q J fuel (listed.setIfInBounds i true) a' w' → K a' w') → Oper.wp P o a w K Q) (hr : Region.ready md ops listed = [i] := by kernel_rfl)
    (hw : Region.wanted o (yielded ops a.tmps) = true := by kernel_rfl) : wpJ P md ops Q J (fuel + 1) listed a w := wpJ_one hr ho hw h
theorem wpJ_done {listed : Array Bool} {a : Act} {w : World} (hr : Region.ready md ops listed = []) (h : Q .normal a w) : ∀ fuel, wpJ P md ops Q J fuel listed a w
  | 0 => ⟨hr, h⟩
  | _ + 1 => ⟨fun _ => h, by rw [hr]; simp⟩
theorem wp_region_J (J : World → Prop) {id : Nat} {a : Act} {w : World} (hm : P.follows .mixedOrders = true)
    (h : wpJ P .any ops Q J ops.size (Array.replicate ops.size false) a w.drew) : (Code.region id ops true).wp P Q a w :=
  wp_region_any hm (wpJ_any _ _ _ _ h)
variable {P : Program} {md : Region.Mode} {ops : Array Oper} {Q : Exit → Act → World → Prop} {J : World → Prop} {L : Nat}

def ClosedL (md : Region.Mode) (ops : Array Oper) (listed : Array Bool) : Prop :=
  ∀ (k : Nat) (o : Oper), ops[k]? = some o → listed.getD k false = true → ∀ e ∈ o.after, Region.binds md e = true → listed.getD e.on false = true
theorem ClosedL.step {listed : Array Bool} (h : ClosedL md ops listed) {j : Nat} (hj : j ∈ Region.ready md ops listed) : ClosedL md ops (listed.setIfInBounds j true) := by
  intro k o ho hk e he hb
  obtain ⟨h0, oj, hoj, hall⟩ := mem_ready.1 hj
  by_cases hjk : j = k
  · subst hjk
    rw [hoj] at ho
    obtain rfl := Option.some.inj ho
    exact getD_set_true (hall e he hb)
  · rw [getD_set_ne false hjk] at hk
    exact getD_set_true (h k o ho hk e he hb)
end Go.Proofs.Ytimjajoddmbjlaa
namespace Go.Proofs.Ytimjajoddmbjlaa
open Go.RowKit Go.Shelf
set_option maxRecDepth 20000
set_option maxHeartbeats 0
structure Box (W : World) (g : Nat) (v0 v1 : Value) : Prop where
  c0 : W.cell? ⟨g, 0, none⟩ = some v0
  c1 : W.cell? ⟨g, 1, none⟩ = some v1
  f0 : W.frozen? ⟨g, 0, none⟩ = false
  f1 : W.frozen? ⟨g, 1, none⟩ = false
theorem Box.below {W W' : World} {g : Nat} {v0 v1 : Value} (h : Box W g v0 v1) (hb : Below W.heap.size W W') : Box W' g v0 v1 := by
  have hl : g < W.heap.size := World.block_lt_of_cell? W _ h.c0
  exact ⟨(hb.cell (p := ⟨g, 0, none⟩) hl).trans h.c0, (hb.cell (p := ⟨g, 1, none⟩) hl).trans h.c1, (hb.frozen (p := ⟨g, 0, none⟩) hl).trans h.f0, (hb.frozen (p := ⟨g, 1, none⟩) hl).trans h.f1⟩
theorem Box.new (w : World) (ty : TypeId) (v0 v1 : Value) : Box (w.alloc (.cells #[v0, v1] ty)) w.heap.size v0 v1 := ⟨by go_simp, by go_simp, by go_simp, by go_simp⟩
theorem bDrew1 {B : Nat} {a w : World} (h : Below B a w) : Below B a w.drew := ⟨h.os, h.tape, h.output, h.size, h.block⟩
theorem DocIs.ok {v : Nat} {us : List Nat} (h : DocIs v us 0) : v < LIM ∧ Nf B64 us v := by
  rcases h with ⟨h1, h2, _⟩ | ⟨_, _, h⟩
  · exact ⟨h1, h2⟩
  · cases h
theorem PrIs.ok {its : List It} {us : List Nat} (h : PrIs its us 0) : (∀ t ∈ its, formB t.xs = true) ∧ prodI its < LIM ∧ Nf B64 us (prodI its) := by
  rcases h with ⟨_, _, h⟩ | ⟨h1, h2⟩
  · cases h
  · exact ⟨h1, h2.ok⟩
theorem PrIs.bad {its : List It} {us : List Nat} {f : Int} (h : PrIs its us f) (hf : f ≠ 0) : us = [] := by
  rcases h with ⟨_, rfl, _⟩ | ⟨_, ⟨_, _, rfl⟩ | ⟨_, rfl, _⟩⟩
  · rfl
  · exact absurd rfl hf
  · rfl
theorem MulIs.er2 {xs ys us : List Nat} {f : Int} (h : MulIs xs ys us f) (hx : formB xs = true) (hy : formB ys = true) (hl : valB B64 xs * valB B64 ys < LIM) : f = 0 := by
  rcases h with ⟨h1, _⟩ | ⟨_, _, _, _, rfl⟩ | ⟨_, _, h1, _⟩
  · rw [hx, hy] at h1; cases h1
  · rfl
  · omega
theorem MulIs.val {xs ys us : List Nat} (h : MulIs xs ys us 0) : Nf B64 us (valB B64 xs * valB B64 ys) := by
  rcases h with ⟨_, _, h⟩ | ⟨_, _, _, h, _⟩ | ⟨_, _, _, _, h⟩
  · cases h
  · exact h
  · cases h
theorem MulIs.lim {xs ys us : List Nat} (h : MulIs xs ys us 0) : us.length ≤ 8192 := by
  rcases h with ⟨_, _, h⟩ | ⟨_, _, h1, h2, _⟩ | ⟨_, _, _, _, h⟩
  · cases h
  · exact h2.lim.2 h1
  · cases h
theorem two_lim {its : List It} {k : Nat} (hk : k + 1 < its.length) (hp : ∀ t ∈ its, 0 < t.a) (hl : prodI its < LIM) : its[k].a * its[k + 1].a < LIM := by
  have h1 := prodI_split its (k + 2)
  have h2 : prodI (its.take (k + 2)) = prodI (its.take k) * its[k].a * its[k + 1].a := by
    rw [take_succ_it its (k + 1) hk, prodI_append, take_succ_it its k (by omega), prodI_append]
    simp [prodI]
  have h3 : 0 < prodI (its.take k) := by
    have := pow_bsum (l := its.take k) (fun t ht => hp t (List.mem_of_mem_take ht))
    have := Nat.two_pow_pos (bsum (its.take k))
    omega
  have h4 : 0 < prodI (its.drop (k + 2)) := by
    have := pow_bsum (l := its.drop (k + 2)) (fun t ht => hp t (List.mem_of_mem_drop ht))
    have := Nat.two_pow_pos (bsum (its.drop (k + 2)))
    omega
  refine Nat.lt_of_le_of_lt ?_ hl
  rw [← h1, h2, Nat.mul_assoc (prodI (its.take k))]
  exact Nat.le_trans (Nat.le_mul_of_pos_left _ h3) (Nat.le_mul_of_pos_right _ h4)
theorem pr_mod {a b : Nat} : IntKind.u64.wrap (((a % 4294967291 : Nat) : Int) * ((b % 4294967291 : Nat) : Int)) = ((a % 4294967291 * (b % 4294967291) : Nat) : Int) := by
  have h1 : a % 4294967291 < 4294967291 := Nat.mod_lt _ (by decide)
  have h2 : b % 4294967291 < 4294967291 := Nat.mod_lt _ (by decide)
  have h3 : a % 4294967291 * (b % 4294967291) ≤ 4294967290 * 4294967290 := Nat.mul_le_mul (by omega) (by omega)
  rw [IntKind.wrap_u64, ← Int.natCast_mul]
  generalize a % 4294967291 * (b % 4294967291) = z at *
  omega
theorem pr_mod2 {a b : Nat} : (((a % 4294967291 * (b % 4294967291) : Nat) : Int)).tmod 4294967291 = ((a * b % 4294967291 : Nat) : Int) := by
  rw [Int.tmod_eq_emod_of_nonneg (Int.natCast_nonneg _), Nat.mul_mod]
  omega
theorem pairs_ok {P : Option Addr} {N C : Nat} {its : List It} {w : World} (h : LsA w P N C its) (hf : ∀ t ∈ its, formB t.xs = true) (hp : ∀ t ∈ its, 0 < t.a) (hl : prodI its < LIM) (hN : N ≤ 5864062014805) :
    Calls Try.prog 11 #[.slice P N C] w fun en w' => en = .returned (.bool true) ∧ Below w.heap.size w w' := by
  have H : Hid (LsA w P N C its) := h
  have HLN : Hid (its.length = N) := h.len
  have HBD : Hid (∀ t ∈ its, formB t.xs = true) := hf
  have HP : Hid ((∀ t ∈ its, 0 < t.a) ∧ prodI its < LIM) := ⟨hp, hl⟩
  have cap := h.cap; have big := h.big
  unfold maxLen at big
  clear h hf hp hl
  go_enter Try.func11, Try.ntmps11
  go_wp2_with fail
  go_loopg [3] N (fun gk iv wr => ∃ (k : Nat), k + gk = N ∧ iv = .int .i64 k ∧ Below w.heap.size w wr)
  case atStart => exact ⟨0, by omega, rfl, Below.refl _ _⟩
  case round =>
    obtain ⟨k, hkg, rfl, hbw⟩ := hrel
    have wk : wrap64 ((k : Int) + 1) = ((k + 1 : Nat) : Int) := by simp only [wrap64]; omega
    by_cases hk : k + 1 < N
    · obtain ⟨gg, rfl⟩ : ∃ g, gk = g + 1 := ⟨gk - 1, by omega⟩
      have hk1 : k < its.length := by rw [HLN.out]; omega
      have hk2 : k + 1 < its.length := by rw [HLN.out]; omega
      obtain ⟨gs, off, rfl, hc⟩ := H.out.cells.resolve_left (by omega)
      have hc1 := (hbw.cell (p := ⟨gs, off + k, none⟩) (World.block_lt_of_cell? w _ (hc k hk1))).trans (hc k hk1)
      have hAt1 := H.out.ats its[k] (List.getElem_mem hk1)
      have AT1 : Hid (At wr its[k].p its[k].n its[k].c its[k].xs ∧ its[k].n ≤ 17592186044416 ∧ its[k].a = valB B64 its[k].xs ∧ formB its[k].xs = true) := ⟨hAt1.1.below hbw, hAt1.2.1, hAt1.2.2, HBD.out _ (List.getElem_mem hk1)⟩
      have hn1 := hAt1.2.1
      have hc2 := (hbw.cell (p := ⟨gs, off + (k + 1), none⟩) (World.block_lt_of_cell? w _ (hc (k + 1) hk2))).trans (hc (k + 1) hk2)
      have hAt2 := H.out.ats its[k + 1] (List.getElem_mem hk2)
      have AT2 : Hid (At wr its[k + 1].p its[k + 1].n its[k + 1].c its[k + 1].xs ∧ its[k + 1].n ≤ 17592186044416 ∧ its[k + 1].a = valB B64 its[k + 1].xs ∧ formB its[k + 1].xs = true) := ⟨hAt2.1.below hbw, hAt2.2.1, hAt2.2.2, HBD.out _ (List.getElem_mem hk2)⟩
      have hn2 := hAt2.2.1
      have HLT : Hid (valB B64 its[k].xs * valB B64 its[k + 1].xs < LIM) := by rw [← AT1.out.2.2.1, ← AT2.out.2.2.1]; exact two_lim hk2 HP.out.1 HP.out.2
      have hkk : ((k + 1 : Nat) : Int) < (N : Int) := by omega
      have hkb : (0 : Int) ≤ (k : Int) ∧ (k : Int) < (N : Int) := by omega
      have hkc : (0 : Int) ≤ ((k + 1 : Nat) : Int) ∧ ((k + 1 : Nat) : Int) < (N : Int) := by omega
      have hkd : (0 : Int) ≤ (k : Int) + 1 ∧ (k : Int) + 1 < (N : Int) := by omega
      have HCS0 : Hid (gs < w.heap.size ∧ w.cell? ⟨gs, off + k, none⟩ = some (.slice its[k].p its[k].n its[k].c) ∧ w.cell? ⟨gs, off + (k + 1), none⟩ = some (.slice its[k + 1].p its[k + 1].n its[k + 1].c)) := ⟨World.block_lt_of_cell? w _ (hc k hk1), hc k hk1, hc (k + 1) hk2⟩
      clear hc hAt1 hAt2
      obtain ⟨u1, hu1⟩ : ∃ u, u = its[k] := ⟨_, rfl⟩
      obtain ⟨u2, hu2⟩ : ∃ u, u = its[k + 1] := ⟨_, rfl⟩
      rw [← hu1] at AT1 hc1 hn1 HLT HCS0
      rw [← hu2] at AT2 hc2 hn2 HLT HCS0
      clear hu1 hu2
      obtain ⟨p1, n1, d1, x1, a1⟩ := u1
      obtain ⟨p2, n2, d2, x2, a2⟩ := u2
      simp only at hc1 hc2 hn1 hn2 HLT
      go_wp2_with fail
      have B1 : Hid (At wr p1 n1 d1 x1) := AT1.out.1
      have B2 : Hid (At wr p2 n2 d2 x2) := AT2.out.1
      have wki : IntKind.i64.wrap ((k : Int) + 1) = (k : Int) + 1 := by rw [IntKind.wrap_i64]; omega
      have HCS : Hid (gs < w.heap.size ∧ w.cell? ⟨gs, off + k, none⟩ = some (.slice p1 n1 d1) ∧ w.cell? ⟨gs, off + (k + 1), none⟩ = some (.slice p2 n2 d2)) := HCS0.out
      clear HCS0 hc1 hc2
      obtain ⟨W1, hW1⟩ : ∃ W1, W1 = wr.drew := ⟨_, rfl⟩
      have hbd : Below wr.heap.size wr W1 := by rw [hW1]; exact bDrew1 (Below.refl _ _)
      replace B1 : Hid _ := B1.out.below hbd
      replace B2 : Hid _ := B2.out.below hbd
      replace hbw := Below.on hbw hbd
      clear hbd
      have HJ : Hid ((fun W' : World => W'.cell? ⟨gs, off + k, none⟩ = some (.slice p1 n1 d1) ∧ W'.cell? ⟨gs, off + (k + 1), none⟩ = some (.slice p2 n2 d2)) W1) := ⟨(hbw.cell (p := ⟨gs, off + k, none⟩) HCS.out.1).trans HCS.out.2.1, (hbw.cell (p := ⟨gs, off + (k + 1), none⟩) HCS.out.1).trans HCS.out.2.2⟩
      refine wp_region_J (fun W' => W'.cell? ⟨gs, off + k, none⟩ = some (.slice p1 n1 d1) ∧ W'.cell? ⟨gs, off + (k + 1), none⟩ = some (.slice p2 n2 d2)) (by kernel_rfl) ?_
      rw [← hW1]
      clear hW1
      refine wpJ_tq 0 rfl HJ.out ?_
      refine wpJ_tq 1 rfl HJ.out ?_
      refine wpJ_tq 2 rfl HJ.out ?_
      refine wpJ_tq 3 rfl HJ.out ?_
      refine wpJ_tq 4 rfl HJ.out ?_
      go_simp
      refine wpJ_tq 5 rfl HJ.out ?_
      refine wpJ_tq 6 rfl HJ.out ?_
      refine wpJ_tq 7 rfl HJ.out ?_
      refine wpJ_tq 8 rfl HJ.out ?_
      refine wpJ_on 9 rfl fun KJ hK => ?_
      go_simp
      refine (mulP B1.out B2.out).mono ?_
      rintro e w1 ⟨p3, m3, z3, f3, rfl, hA3, hM3, hb3⟩
      obtain rfl := hM3.er2 AT1.out.2.2.2 AT2.out.2.2.2 HLT.out
      have B3 : Hid (At w1 p3 m3 m3 z3) := hA3
      have N3 : Hid (valB B64 z3 = valB B64 x1 * valB B64 x2) := hM3.val.val
      have HL3 : Hid (m3 ≤ 17592186044416) := by have h1 := hM3.lim; have h2 := hA3.len; show _ ≤ _; omega
      clear hA3 hM3
      replace B1 : Hid _ := B1.out.below hb3
      replace B2 : Hid _ := B2.out.below hb3
      replace hbw := Below.on hbw hb3
      clear hb3
      clear HJ
      have HJ : Hid ((fun W' : World => W'.cell? ⟨gs, off + k, none⟩ = some (.slice p1 n1 d1) ∧ W'.cell? ⟨gs, off + (k + 1), none⟩ = some (.slice p2 n2 d2)) w1) := ⟨(hbw.cell (p := ⟨gs, off + k, none⟩) HCS.out.1).trans HCS.out.2.1, (hbw.cell (p := ⟨gs, off + (k + 1), none⟩) HCS.out.1).trans HCS.out.2.2⟩
      refine hK _ _ HJ.out ?_
      clear hK
      refine wpJ_tq 10 rfl HJ.out ?_
      refine wpJ_tq 11 rfl HJ.out ?_
      refine wpJ_tq 12 rfl HJ.out ?_
      refine wpJ_tq 13 rfl HJ.out ?_
      refine wpJ_tq 14 rfl HJ.out ?_
      refine wpJ_done (by kernel_rfl) ?_ _
      clear HJ
      have q1 := (hbw.cell (p := ⟨gs, off + k, none⟩) HCS.out.1).trans HCS.out.2.1
      go_wp2_with fail
      clear q1
      refine (sqrP B1.out).mono ?_
      rintro e w2 ⟨p4, m4, z4, f4, rfl, hA4, hM4, hb4⟩
      have B4 : Hid (At w2 p4 m4 m4 z4) := hA4
      have N4 : Hid (MulIs x1 x1 z4 f4) := hM4
      clear hA4 hM4
      replace B1 : Hid _ := B1.out.below hb4
      replace B2 : Hid _ := B2.out.below hb4
      replace B3 : Hid _ := B3.out.below hb4
      replace hbw := Below.on hbw hb4
      clear hb4
      have q1 := (hbw.cell (p := ⟨gs, off + k, none⟩) HCS.out.1).trans HCS.out.2.1
      go_wp2_with fail
      clear q1
      obtain ⟨r1, hr1⟩ : ∃ r, r = valB B64 x1 % 4294967291 := ⟨_, rfl⟩
      obtain ⟨r2, hr2⟩ : ∃ r, r = valB B64 x2 % 4294967291 := ⟨_, rfl⟩
      obtain ⟨r3, hr3⟩ : ∃ r, r = valB B64 z3 % 4294967291 := ⟨_, rfl⟩
      obtain ⟨y2, hy2⟩ : ∃ r, r = r1 * r2 := ⟨_, rfl⟩
      obtain ⟨y1, hy1⟩ : ∃ r, r = r1 * r1 := ⟨_, rfl⟩
      have HR : Hid (r1 = valB B64 x1 % 4294967291 ∧ r2 = valB B64 x2 % 4294967291 ∧ r3 = valB B64 z3 % 4294967291) := ⟨hr1, hr2, hr3⟩
      have m1 : IntKind.u64.wrap ((r1 : Int) * (r2 : Int)) = (y2 : Int) := by rw [hy2, hr1, hr2]; exact pr_mod
      have m2 : (y2 : Int).tmod 4294967291 = (r3 : Int) := by rw [hy2, hr1, hr2, hr3, N3.out]; exact pr_mod2
      have m3x : (y2 : Int) % 4294967291 = (r3 : Int) := by rw [← m2, Int.tmod_eq_emod_of_nonneg (Int.natCast_nonneg _)]
      have HM1 : Hid (IntKind.u64.wrap ((r1 : Int) * (r1 : Int)) = (y1 : Int)) := by show _ = _; rw [hy1, hr1]; exact pr_mod
      have HM2 : Hid ((y1 : Int).tmod 4294967291 = ((valB B64 x1 * valB B64 x1 % 4294967291 : Nat) : Int)) := by show _ = _; rw [hy1, hr1]; exact pr_mod2
      clear hr1 hr2 hr3 hy1 hy2
      obtain ⟨W3, hW3⟩ : ∃ W1, W1 = w2.drew := ⟨_, rfl⟩
      have hbd : Below w2.heap.size w2 W3 := by rw [hW3]; exact bDrew1 (Below.refl _ _)
      replace B1 : Hid _ := B1.out.below hbd
      replace B2 : Hid _ := B2.out.below hbd
      replace B3 : Hid _ := B3.out.below hbd
      replace B4 : Hid _ := B4.out.below hbd
      replace hbw := Below.on hbw hbd
      clear hbd
      have HJ : Hid ((fun W' : World => W'.cell? ⟨gs, off + k, none⟩ = some (.slice p1 n1 d1) ∧ W'.cell? ⟨gs, off + (k + 1), none⟩ = some (.slice p2 n2 d2)) W3) := ⟨(hbw.cell (p := ⟨gs, off + k, none⟩) HCS.out.1).trans HCS.out.2.1, (hbw.cell (p := ⟨gs, off + (k + 1), none⟩) HCS.out.1).trans HCS.out.2.2⟩
      refine wp_region_J (fun W' => W'.cell? ⟨gs, off + k, none⟩ = some (.slice p1 n1 d1) ∧ W'.cell? ⟨gs, off + (k + 1), none⟩ = some (.slice p2 n2 d2)) (by kernel_rfl) ?_
      rw [← hW3]
      clear hW3
      refine wpJ_tq 0 rfl HJ.out ?_
      refine wpJ_tq 1 rfl HJ.out ?_
      refine wpJ_tq 2 rfl HJ.out ?_
      refine wpJ_tq 3 rfl HJ.out ?_
      refine wpJ_tq 5 rfl HJ.out ?_
      go_simp
      refine wpJ_tq 6 rfl HJ.out ?_
      refine wpJ_tq 7 rfl HJ.out ?_
      refine wpJ_tq 8 rfl HJ.out ?_
      refine wpJ_tq 10 rfl HJ.out ?_
      refine wpJ_tq 11 rfl HJ.out ?_
      go_simp
      refine wpJ_tq 12 rfl HJ.out ?_
      refine wpJ_tq 13 rfl HJ.out ?_
      refine wpJ_tq 14 rfl HJ.out ?_
      refine wpJ_on 4 rfl fun KJ hK => ?_
      go_simp
      refine (rest_ok B3.out (HL3.out)).mono ?_
      rintro e w' ⟨rfl, hw⟩
      obtain rfl := hw.symm
      clear hw
      rw [← HR.out.2.2]
      refine hK _ _ ⟨(hbw.cell (p := ⟨gs, off + k, none⟩) HCS.out.1).trans HCS.out.2.1, (hbw.cell (p := ⟨gs, off + (k + 1), none⟩) HCS.out.1).trans HCS.out.2.2⟩ ?_
      clear hK
      refine wpJ_on 9 rfl fun KJ hK => ?_
      go_simp
      refine (rest_ok B1.out (hn1)).mono ?_
      rintro e w' ⟨rfl, hw⟩
      obtain rfl := hw.symm
      clear hw
      rw [← HR.out.1]
      refine hK _ _ ⟨(hbw.cell (p := ⟨gs, off + k, none⟩) HCS.out.1).trans HCS.out.2.1, (hbw.cell (p := ⟨gs, off + (k + 1), none⟩) HCS.out.1).trans HCS.out.2.2⟩ ?_
      clear hK
      refine wpJ_on 15 rfl fun KJ hK => ?_
      go_simp
      refine (rest_ok B2.out (hn2)).mono ?_
      rintro e w' ⟨rfl, hw⟩
      obtain rfl := hw.symm
      clear hw
      rw [← HR.out.2.1]
      clear HJ
      have HJ : Hid ((fun W' : World => W'.cell? ⟨gs, off + k, none⟩ = some (.slice p1 n1 d1) ∧ W'.cell? ⟨gs, off + (k + 1), none⟩ = some (.slice p2 n2 d2)) W3) := ⟨(hbw.cell (p := ⟨gs, off + k, none⟩) HCS.out.1).trans HCS.out.2.1, (hbw.cell (p := ⟨gs, off + (k + 1), none⟩) HCS.out.1).trans HCS.out.2.2⟩
      refine hK _ _ HJ.out ?_
      clear hK
      refine wpJ_tq 16 rfl HJ.out ?_
      refine wpJ_tq 17 rfl HJ.out ?_
      refine wpJ_tq 18 rfl HJ.out ?_
      refine wpJ_tq 19 rfl HJ.out ?_
      refine wpJ_done (by kernel_rfl) ?_ _
      clear HJ
      clear m1 m2 m3x
      have q1 := (hbw.cell (p := ⟨gs, off + k, none⟩) HCS.out.1).trans HCS.out.2.1
      go_wp2_with fail
      clear q1
      clear B2 B3
      by_cases hf4 : f4 = 0
      · subst hf4
        obtain ⟨r4, hr4⟩ : ∃ r, r = valB B64 z4 % 4294967291 := ⟨_, rfl⟩
        have HR4 : Hid (r4 = valB B64 z4 % 4294967291) := hr4
        have m1 := HM1.out
        have m2 := HM2.out
        rw [← N4.out.val.val, ← hr4] at m2
        have m3x : (y1 : Int) % 4294967291 = (r4 : Int) := by rw [← m2, Int.tmod_eq_emod_of_nonneg (Int.natCast_nonneg _)]
        have HL4 : Hid (m4 ≤ 17592186044416) := by have h1 := N4.out.lim; have h2 := B4.out.len; show _ ≤ _; omega
        clear hr4
        obtain ⟨W4, hW4⟩ : ∃ W1, W1 = W3.drew := ⟨_, rfl⟩
        have hbd : Below W3.heap.size W3 W4 := by rw [hW4]; exact bDrew1 (Below.refl _ _)
        replace B1 : Hid _ := B1.out.below hbd
        replace B4 : Hid _ := B4.out.below hbd
        replace hbw := Below.on hbw hbd
        clear hbd
        have HJ : Hid ((fun W' : World => W'.cell? ⟨gs, off + k, none⟩ = some (.slice p1 n1 d1)) W4) := (hbw.cell (p := ⟨gs, off + k, none⟩) HCS.out.1).trans HCS.out.2.1
        refine wp_region_J (fun W' => W'.cell? ⟨gs, off + k, none⟩ = some (.slice p1 n1 d1)) (by kernel_rfl) ?_
        rw [← hW4]
        clear hW4
        refine wpJ_tk 0 (v := ?v32x0) rfl ?hy32x0 HJ.out ?_
        case hy32x0 => (intro W' hJ; have j0 := hJ; go_simp; first | done | with_reducible rfl)
        refine wpJ_tk 1 (v := ?v33x1) rfl ?hy33x1 HJ.out ?_
        case hy33x1 => (intro W' hJ; have j0 := hJ; go_simp; first | done | with_reducible rfl)
        refine wpJ_tk 2 (v := ?v34x2) rfl ?hy34x2 HJ.out ?_
        case hy34x2 => (intro W' hJ; have j0 := hJ; go_simp; first | done | with_reducible rfl)
        refine wpJ_tk 3 (v := ?v35x3) rfl ?hy35x3 HJ.out ?_
        case hy35x3 => (intro W' hJ; have j0 := hJ; go_simp; first | done | with_reducible rfl)
        refine wpJ_tk 5 (v := ?v36x5) rfl ?hy36x5 HJ.out ?_
        case hy36x5 => (intro W' hJ; have j0 := hJ; go_simp; first | done | with_reducible rfl)
        go_simp
        refine wpJ_tk 6 (v := ?v37x6) rfl ?hy37x6 HJ.out ?_
        case hy37x6 => (intro W' hJ; have j0 := hJ; go_simp; first | done | with_reducible rfl)
        refine wpJ_tk 7 (v := ?v38x7) rfl ?hy38x7 HJ.out ?_
        case hy38x7 => (intro W' hJ; have j0 := hJ; go_simp; first | done | with_reducible rfl)
        refine wpJ_tk 8 (v := ?v39x8) rfl ?hy39x8 HJ.out ?_
        case hy39x8 => (intro W' hJ; have j0 := hJ; go_simp; first | done | with_reducible rfl)
        refine wpJ_tk 10 (v := ?v40x10) rfl ?hy40x10 HJ.out ?_
        case hy40x10 => (intro W' hJ; have j0 := hJ; go_simp; first | done | with_reducible rfl)
        refine wpJ_tk 11 (v := ?v41x11) rfl ?hy41x11 HJ.out ?_
        case hy41x11 => (intro W' hJ; have j0 := hJ; go_simp; first | done | with_reducible rfl)
        go_simp
        refine wpJ_tk 12 (v := ?v42x12) rfl ?hy42x12 HJ.out ?_
        case hy42x12 => (intro W' hJ; have j0 := hJ; go_simp; first | done | with_reducible rfl)
        refine wpJ_tk 13 (v := ?v43x13) rfl ?hy43x13 HJ.out ?_
        case hy43x13 => (intro W' hJ; have j0 := hJ; go_simp; first | done | with_reducible rfl)
        refine wpJ_on 4 rfl fun KJ hK => ?_
        go_simp
        refine (rest_ok B4.out (HL4.out)).mono ?_
        rintro e w' ⟨rfl, hw⟩
        obtain rfl := hw.symm
        clear hw
        rw [← HR4.out]
        refine hK _ _ ((hbw.cell (p := ⟨gs, off + k, none⟩) HCS.out.1).trans HCS.out.2.1) ?_
        clear hK
        refine wpJ_on 9 rfl fun KJ hK => ?_
        go_simp
        refine (rest_ok B1.out (hn1)).mono ?_
        rintro e w' ⟨rfl, hw⟩
        obtain rfl := hw.symm
        clear hw
        rw [← HR.out.1]
        refine hK _ _ ((hbw.cell (p := ⟨gs, off + k, none⟩) HCS.out.1).trans HCS.out.2.1) ?_
        clear hK
        refine wpJ_on 14 rfl fun KJ hK => ?_
        go_simp
        refine (rest_ok B1.out (hn1)).mono ?_
        rintro e w' ⟨rfl, hw⟩
        obtain rfl := hw.symm
        clear hw
        rw [← HR.out.1]
        clear HJ
        have HJ : Hid ((fun W' : World => W'.cell? ⟨gs, off + k, none⟩ = some (.slice p1 n1 d1)) W4) := (hbw.cell (p := ⟨gs, off + k, none⟩) HCS.out.1).trans HCS.out.2.1
        refine hK _ _ HJ.out ?_
        clear hK
        refine wpJ_tk 15 (v := ?v44x15) rfl ?hy44x15 HJ.out ?_
        case hy44x15 => (intro W' hJ; have j0 := hJ; go_simp; first | done | with_reducible rfl)
        refine wpJ_tk 16 (v := ?v45x16) rfl ?hy45x16 HJ.out ?_
        case hy45x16 => (intro W' hJ; have j0 := hJ; go_simp; first | done | with_reducible rfl)
        refine wpJ_tk 17 (v := ?v46x17) rfl ?hy46x17 HJ.out ?_
        case hy46x17 => (intro W' hJ; have j0 := hJ; go_simp; first | done | with_reducible rfl)
        refine wpJ_tk 18 (v := ?v47x18) rfl ?hy47x18 HJ.out ?_
        case hy47x18 => (intro W' hJ; have j0 := hJ; go_simp; first | done | with_reducible rfl)
        refine wpJ_done (by kernel_rfl) ?_ _
        clear HJ
        clear m1 m2 m3x
        go_wp2_with fail
        go_roundg gg
        case measure => omega
        case rel => exact ⟨k + 1, by omega, by go_num, hbw⟩
      · have hf5 : (f4 == 0) = false := by simpa using hf4
        clear hf4
        obtain ⟨W4, hW4⟩ : ∃ W1, W1 = W3.drew := ⟨_, rfl⟩
        have hbd : Below W3.heap.size W3 W4 := by rw [hW4]; exact bDrew1 (Below.refl _ _)
        replace B1 : Hid _ := B1.out.below hbd
        replace B4 : Hid _ := B4.out.below hbd
        replace hbw := Below.on hbw hbd
        clear hbd
        have HJ : Hid ((fun W' : World => W'.cell? ⟨gs, off + k, none⟩ = some (.slice p1 n1 d1)) W4) := (hbw.cell (p := ⟨gs, off + k, none⟩) HCS.out.1).trans HCS.out.2.1
        refine wp_region_J (fun W' => W'.cell? ⟨gs, off + k, none⟩ = some (.slice p1 n1 d1)) (by kernel_rfl) ?_
        rw [← hW4]
        clear hW4
        refine wpJ_tk 0 (v := ?v48x0) rfl ?hy48x0 HJ.out ?_
        case hy48x0 => (intro W' hJ; have j0 := hJ; go_simp; first | done | with_reducible rfl)
        refine wpJ_tk 1 (v := ?v49x1) rfl ?hy49x1 HJ.out ?_
        case hy49x1 => (intro W' hJ; have j0 := hJ; go_simp; first | done | with_reducible rfl)
        refine wpJ_tk 2 (v := ?v50x2) rfl ?hy50x2 HJ.out ?_
        case hy50x2 => (intro W' hJ; have j0 := hJ; go_simp; first | done | with_reducible rfl)
        refine wpJ_sk 3 rfl HJ.out ?_
        refine wpJ_sk 4 rfl HJ.out ?_
        go_simp
        refine wpJ_sk 5 rfl HJ.out ?_
        refine wpJ_sk 6 rfl HJ.out ?_
        refine wpJ_sk 7 rfl HJ.out ?_
        refine wpJ_sk 8 rfl HJ.out ?_
        refine wpJ_sk 9 rfl HJ.out ?_
        go_simp
        refine wpJ_sk 10 rfl HJ.out ?_
        refine wpJ_sk 11 rfl HJ.out ?_
        refine wpJ_sk 12 rfl HJ.out ?_
        refine wpJ_sk 13 rfl HJ.out ?_
        refine wpJ_sk 14 rfl HJ.out ?_
        go_simp
        refine wpJ_sk 15 rfl HJ.out ?_
        refine wpJ_sk 16 rfl HJ.out ?_
        refine wpJ_sk 17 rfl HJ.out ?_
        refine wpJ_tk 18 (v := ?v51x18) rfl ?hy51x18 HJ.out ?_
        case hy51x18 => (intro W' hJ; have j0 := hJ; go_simp; first | done | with_reducible rfl)
        refine wpJ_done (by kernel_rfl) ?_ _
        clear HJ
        go_wp2_with fail
        go_roundg gg
        case measure => omega
        case rel => exact ⟨k + 1, by omega, by go_num, hbw⟩
    · have hkk : ¬ ((k + 1 : Nat) : Int) < (N : Int) := by omega
      have hkq : ¬ ((k : Int) + 1 < (N : Int)) := by omega
      go_wp2_with fail
      go_ret
      exact ⟨rfl, hbw⟩
theorem w64c {z : Int} (h1 : -4611686018427387904 ≤ z) (h2 : z ≤ 4611686018427387904) : wrap64 z = z := by simp only [wrap64]; omega
def bS : List It → Nat
  | [] => 0
  | t :: ts => bitsN t.a + bS ts
theorem bS_append (xs ys : List It) : bS (xs ++ ys) = bS xs + bS ys := by
  induction xs with
  | nil => simp [bS]
  | cons x xs ih => simp only [List.cons_append, bS, ih, Nat.add_assoc]
theorem bS_succ {its : List It} {k : Nat} (h : k < its.length) : bS (its.take (k + 1)) = bS (its.take k) + bitsN its[k].a := by
  rw [take_succ_it its k h, bS_append]
  simp [bS]
theorem prodI_succ {its : List It} {k : Nat} (h : k < its.length) : prodI (its.take (k + 1)) = prodI (its.take k) * its[k].a := by
  rw [take_succ_it its k h, prodI_append]
  simp [prodI]
theorem prod_bS (l : List It) : prodI l ≤ 2 ^ bS l := by
  induction l with
  | nil => simp [bS, prodI]
  | cons t ts ih =>
    simp only [bS, prodI]
    rw [Nat.pow_add]
    exact Nat.mul_le_mul (Nat.le_of_lt (bitsN_lt _)) ih
theorem prod_bS_lt (l : List It) (h : l ≠ []) : prodI l < 2 ^ bS l := by
  cases l with
  | nil => exact absurd rfl h
  | cons t ts =>
    simp only [bS, prodI]
    rw [Nat.pow_add]
    exact Nat.lt_of_lt_of_le (Nat.mul_lt_mul_of_lt_of_le (bitsN_lt _) (prod_bS ts) (Nat.lt_of_lt_of_le Nat.zero_lt_one (Nat.two_pow_pos _))) (Nat.le_refl _)
theorem bits_ge {a k : Nat} (h : 2 ^ k ≤ a) : k + 1 ≤ bitsN a := by
  have h1 := bitsN_lt a
  rcases Nat.lt_or_ge k (bitsN a) with h2 | h2
  · exact h2
  · have := Nat.pow_le_pow_right (by decide : 1 ≤ 2) h2
    omega
theorem bits_le {a k : Nat} (h : a < 2 ^ k) : bitsN a ≤ k := by
  rcases Nat.eq_zero_or_pos a with h0 | h0
  · rw [h0, bitsN_zero]; omega
  · have h1 := bitsN_le a (by omega)
    rcases Nat.lt_or_ge k (bitsN a) with h2 | h2
    · have h3 : (2 : Nat) ^ k ≤ 2 ^ (bitsN a - 1) := Nat.pow_le_pow_right (by decide) (by omega)
      omega
    · exact h2
theorem bits_top {its : List It} (hp : ∀ t ∈ its, 0 < t.a) : bitsN (prodI its) ≤ max (bS its) 1 ∧ 1 + bsum its ≤ bitsN (prodI its) := by
  refine ⟨?_, by have := bits_ge (pow_bsum hp); omega⟩
  cases its with
  | nil => decide
  | cons t ts => exact Nat.le_trans (bits_le (prod_bS_lt (t :: ts) (by simp))) (Nat.le_max_left _ _)
def bI : List It → Int
  | [] => 0
  | t :: ts => ((bitsN t.a : Int) - 1) + bI ts
theorem bI_append (xs ys : List It) : bI (xs ++ ys) = bI xs + bI ys := by
  induction xs with
  | nil => simp [bI]
  | cons x xs ih => simp only [List.cons_append, bI, ih, Int.add_assoc]
theorem bI_succ {its : List It} {k : Nat} (h : k < its.length) : bI (its.take (k + 1)) = bI (its.take k) + ((bitsN its[k].a : Int) - 1) := by
  rw [take_succ_it its k h, bI_append]
  simp [bI]
theorem bI_pos {l : List It} (h : ∀ t ∈ l, 0 < t.a) : bI l = (bsum l : Int) := by
  induction l with
  | nil => rfl
  | cons t ts ih =>
    simp only [bI, bsum]
    rw [ih (fun u hu => h u (by simp [hu]))]
    have := bits_pos (h t (by simp))
    omega
theorem natmulCasts_w {P : Option Addr} {N C : Nat} {its : List It} {w : World} (h : LsA w P N C its) (hN : N ≤ 5864062014805) :
    Calls Try.prog 3 #[.slice P N C] w fun en w' => en = .returned (.bool true) ∧ Below w.heap.size w w' := by
  have H : Hid (LsA w P N C its) := h
  have HLN : Hid (its.length = N) := h.len
  have cap := h.cap; have big := h.big
  unfold maxLen at big
  clear h
  go_enter Try.func3, Try.ntmps3
  go_wp2_with fail
  have hbw : Below w.heap.size w w := Below.refl _ _
  refine (awake_any w).mono ?_
  rintro e w1 ⟨rfl, hb1⟩
  replace hbw := Below.on hbw hb1
  clear hb1
  go_wp2_with fail
  refine (lists_ok (H.out.below hbw) hN).mono ?_
  rintro e w2 ⟨g2, ks, rfl, hg2, hLs, hxs, has, hb2⟩
  have L2 : Hid (LsA w2 (some ⟨g2, 0, none⟩) N N ks ∧ ks.map It.xs = its.map It.xs ∧ ks.map It.a = its.map It.a) := ⟨hLs, hxs, has⟩
  clear hLs hxs has hg2
  replace hbw := Below.on hbw hb2
  clear hb2
  go_wp2_with fail
  refine (product_all L2.out.1).mono ?_
  rintro e w3 ⟨p3, m3, us, f3, rfl, hA3, hP3, hb3⟩
  have B3 : Hid (At w3 p3 m3 m3 us) := hA3
  have N3 : Hid (PrIs its us f3) := hP3.cast L2.out.2.1 L2.out.2.2
  clear hA3 hP3 L2
  replace hbw := Below.on hbw hb3
  clear hb3
  by_cases hf : f3 = 0
  · subst hf
    have NK : Hid ((∀ t ∈ its, formB t.xs = true) ∧ prodI its < LIM ∧ Nf B64 us (prodI its)) := N3.out.ok
    have HM3 : Hid (m3 ≤ 8192) := by have h1 := NK.out.2.2.lim.2 NK.out.2.1; have h2 := B3.out.len; show _ ≤ _; omega
    clear N3
    go_wp2_with fail
    have hbw1 := hbw
    have B31 := B3
    clear hbw B3
    go_loopg [5, 6, 7, 27] N (fun gk lv bv ev iv wr => ∃ (k : Nat), k + gk = N ∧ iv = .int .i64 k ∧ lv = U (prodI (its.take k) % 4294967291) ∧ bv = .int .i64 ((bS (its.take k) : Nat) : Int) ∧ ev = .int .i64 (1 + bI (its.take k)) ∧ (bS (its.take k) ≤ k * 524288 ∧ -(k : Int) ≤ bI (its.take k) ∧ bI (its.take k) ≤ k * 524288) ∧ At wr p3 m3 m3 us ∧ Below w.heap.size w wr)
    case atStart => exact ⟨0, by omega, rfl, rfl, rfl, rfl, ⟨Nat.zero_le _, by show -(0 : Int) ≤ 0; omega, by show (0 : Int) ≤ _; omega⟩, B31.out, hbw1⟩
    case round =>
      obtain ⟨k, hkg, rfl, rfl, rfl, rfl, hbn, hAr, hbw⟩ := hrel
      have B3 : Hid (At wr p3 m3 m3 us) := hAr
      have HBN : Hid (bS (its.take k) ≤ k * 524288 ∧ -(k : Int) ≤ bI (its.take k) ∧ bI (its.take k) ≤ k * 524288) := hbn
      clear B31 hbw1 hAr hbn
      cases gk with
      | succ gg =>
        have hk : k < its.length := by rw [HLN.out]; omega
        obtain ⟨gs, off, rfl, hc⟩ := H.out.cells.resolve_left (by omega)
        have hcx := (hbw.cell (p := ⟨gs, off + k, none⟩) (World.block_lt_of_cell? w _ (hc k hk))).trans (hc k hk)
        have hAt := H.out.ats its[k] (List.getElem_mem hk)
        have AT : Hid (At wr its[k].p its[k].n its[k].c its[k].xs) := hAt.1.below hbw
        have HV : Hid (its[k].a = valB B64 its[k].xs ∧ bitsN its[k].a ≤ 524288) := ⟨hAt.2.2, by rw [hAt.2.2]; exact bits_lim hAt.1.dig (NK.out.1 _ (List.getElem_mem hk))⟩
        have hkk : (k : Int) < (N : Int) := by omega
        have hn17 := hAt.2.1
        have HS1 : Hid (prodI (its.take (k + 1)) = prodI (its.take k) * its[k].a ∧ bS (its.take (k + 1)) = bS (its.take k) + bitsN its[k].a ∧ bI (its.take (k + 1)) = bI (its.take k) + ((bitsN its[k].a : Int) - 1)) := ⟨prodI_succ hk, bS_succ hk, bI_succ hk⟩
        clear hc hAt
        generalize its[k].p = tp at *
        generalize its[k].n = tn at *
        generalize its[k].c = tc at *
        generalize its[k].xs = txs at *
        generalize its[k].a = ta at *
        obtain ⟨L, hL⟩ : ∃ x, x = prodI (its.take k) % 4294967291 := ⟨_, rfl⟩
        obtain ⟨r, hr⟩ : ∃ x, x = ta % 4294967291 := ⟨_, rfl⟩
        obtain ⟨L1, hL1⟩ : ∃ x, x = prodI (its.take (k + 1)) % 4294967291 := ⟨_, rfl⟩
        obtain ⟨y, hy⟩ : ∃ x, x = L * r := ⟨_, rfl⟩
        obtain ⟨S, hS⟩ : ∃ x, x = bS (its.take k) := ⟨_, rfl⟩
        obtain ⟨E, hE⟩ : ∃ x, x = 1 + bI (its.take k) := ⟨_, rfl⟩
        obtain ⟨bb, hbb⟩ : ∃ x, x = bitsN ta := ⟨_, rfl⟩
        have m1 : IntKind.u64.wrap ((L : Int) * (r : Int)) = (y : Int) := by rw [hy, hL, hr]; exact pr_mod
        have m2 : (y : Int).tmod 4294967291 = (L1 : Int) := by rw [hy, hL, hr, hL1, HS1.out.1]; exact pr_mod2
        have m3x : (y : Int) % 4294967291 = (L1 : Int) := by rw [← m2, Int.tmod_eq_emod_of_nonneg (Int.natCast_nonneg _)]
        have bnd : S ≤ k * 524288 ∧ -(k : Int) + 1 ≤ E ∧ E ≤ k * 524288 + 1 ∧ bb ≤ 524288 := by have h1 := HBN.out; have h2 := HV.out.2; rw [hS, hE, hbb]; omega
        have HQ : Hid (L1 = prodI (its.take (k + 1)) % 4294967291 ∧ S + bb = bS (its.take (k + 1)) ∧ E + ((bb : Int) - 1) = 1 + bI (its.take (k + 1))) := ⟨hL1, by rw [hS, hbb, HS1.out.2.1], by rw [hE, hbb, HS1.out.2.2]; omega⟩
        have HQ4 : Hid (bI (its.take (k + 1)) = E + ((bb : Int) - 1) - 1) := by have h1 := HQ.out.2.2; show _ = _; omega
        have HR : Hid (r = valB B64 txs % 4294967291 ∧ bb = bitsN (valB B64 txs)) := ⟨by rw [hr, HV.out.1], by rw [hbb, HV.out.1]⟩
        have HB2 : Hid (S + bb ≤ (k + 1) * 524288 ∧ -((k + 1 : Nat) : Int) ≤ E + ((bb : Int) - 1) - 1 ∧ E + ((bb : Int) - 1) - 1 ≤ ((k + 1 : Nat) : Int) * 524288) := ⟨by omega, by omega, by omega⟩
        have wa : wrap64 ((bb : Int) - 1) = (bb : Int) - 1 := w64c (by omega) (by omega)
        have wb : wrap64 (E + ((bb : Int) - 1)) = E + ((bb : Int) - 1) := w64c (by omega) (by omega)
        have wc : wrap64 ((S : Int) + (bb : Int)) = ((S + bb : Nat) : Int) := by rw [w64c (by omega) (by omega)]; omega
        rw [← hL, ← hS, ← hE]
        clear hL hr hL1 hy hS hE hbb bnd
        go_wp2_with fail
        refine (rest_ok AT.out hn17).mono ?_
        rintro e w' ⟨rfl, hw⟩
        obtain rfl := hw.symm
        clear hw
        rw [← HR.out.1]
        go_wp2_with fail
        refine (bits_any AT.out hn17).mono ?_
        rintro e w' ⟨rfl, hw⟩
        obtain rfl := hw.symm
        clear hw
        rw [← HR.out.2]
        go_wp2_with fail
        refine (bits_any AT.out hn17).mono ?_
        rintro e w' ⟨rfl, hw⟩
        obtain rfl := hw.symm
        clear hw
        rw [← HR.out.2]
        go_wp2_with fail
        go_roundg gg
        case measure => omega
        case rel => exact ⟨k + 1, by omega, by go_num, by rw [← HQ.out.1], by rw [← HQ.out.2.1, ← wc], by rw [← HQ.out.2.2], by have h := HB2.out; rw [← HQ.out.2.1, HQ4.out]; exact h, B3.out, hbw⟩
      | zero =>
        obtain rfl : N = k := by omega
        have hnk : ¬ (N : Int) < (N : Int) := by omega
        have etk : its.take N = its := List.take_of_length_le (by rw [HLN.out]; exact Nat.le_refl _)
        rw [etk] at HBN
        rw [etk]
        obtain ⟨L, hL⟩ : ∃ x, x = prodI its % 4294967291 := ⟨_, rfl⟩
        obtain ⟨S, hS⟩ : ∃ x, x = bS its := ⟨_, rfl⟩
        obtain ⟨E, hE⟩ : ∃ x, x = 1 + bI its := ⟨_, rfl⟩
        rw [← hL, ← hS, ← hE]
        have HQ : Hid (L = prodI its % 4294967291 ∧ S = bS its ∧ E = 1 + bI its) := ⟨hL, hS, hE⟩
        clear hL hS hE etk
        go_wp2_with fail
        refine (rest_ok B3.out (by have := HM3.out; omega)).mono ?_
        rintro e w' ⟨rfl, hw⟩
        obtain rfl := hw.symm
        clear hw
        rw [NK.out.2.2.val, ← HQ.out.1]
        go_wp2_with fail
        have hbw1 := hbw
        have B31 := B3
        clear hbw B3 hkg
        go_loopg [52] N (fun gk iv wr => ∃ (k : Nat), k + gk = N ∧ iv = .int .i64 k ∧ (∀ t ∈ its.take k, 0 < t.a) ∧ At wr p3 m3 m3 us ∧ Below w.heap.size w wr)
        case atStart => exact ⟨0, by omega, rfl, fun t ht => by simp at ht, B31.out, hbw1⟩
        case round =>
          obtain ⟨k, hkg, rfl, hps, hAr, hbw⟩ := hrel
          have B3 : Hid (At wr p3 m3 m3 us) := hAr
          have HPS : Hid (∀ t ∈ its.take k, 0 < t.a) := hps
          clear B31 hbw1 hAr hps
          cases gk with
          | succ gg =>
            have hk : k < its.length := by rw [HLN.out]; omega
            obtain ⟨gs, off, rfl, hc⟩ := H.out.cells.resolve_left (by omega)
            have hcx := (hbw.cell (p := ⟨gs, off + k, none⟩) (World.block_lt_of_cell? w _ (hc k hk))).trans (hc k hk)
            have hAt := H.out.ats its[k] (List.getElem_mem hk)
            have HFP : Hid (its[k].n ≠ 0 → ∀ t ∈ its.take (k + 1), 0 < t.a) := fun h0 t ht => by rw [take_succ_it its k hk] at ht; rcases List.mem_append.1 ht with h | h; exact HPS.out t h; rw [List.mem_singleton.1 h, hAt.2.2]; exact form_pos hAt.1.dig (NK.out.1 _ (List.getElem_mem hk)) hAt.1.len h0
            have HFZ : Hid (its[k].n = 0 → m3 = 0) := fun h0 => by have h1 : its[k].xs = [] := List.eq_nil_of_length_eq_zero (by rw [hAt.1.len, h0]); have h2 : its[k].a = 0 := (hAt.2.2).trans (by rw [h1]; rfl); have h3 := NK.out.2.2; rw [prodI_zero (List.getElem_mem hk) h2] at h3; have h4 := (h3.zero_iff B64_one).2 rfl; have h5 := B3.out.len; rw [h4] at h5; exact h5.symm
            have hkk : (k : Int) < (N : Int) := by omega
            have hn17 := hAt.2.1
            clear hc hAt
            generalize its[k].p = tp at *
            generalize its[k].n = tn at *
            generalize its[k].c = tc at *
            by_cases h0 : tn = 0
            · obtain rfl := HFZ.out h0
              subst h0
              go_wp2_with fail
              go_ret
              exact ⟨rfl, hbw⟩
            · have h0' : ((tn : Int) == 0) = false := by simp; omega
              have HP2 : Hid (∀ t ∈ its.take (k + 1), 0 < t.a) := HFP.out h0
              go_wp2_with fail
              go_roundg gg
              case measure => omega
              case rel => exact ⟨k + 1, by omega, by go_num, HP2.out, B3.out, hbw⟩
          | zero =>
            obtain rfl : N = k := by omega
            have hnk : ¬ (N : Int) < (N : Int) := by omega
            have HP : Hid (∀ t ∈ its, 0 < t.a) := by have h := HPS.out; rw [List.take_of_length_le (by rw [HLN.out]; exact Nat.le_refl _)] at h; exact h
            clear HPS
            obtain ⟨bb, hbb⟩ : ∃ x, x = bitsN (prodI its) := ⟨_, rfl⟩
            have HT : Hid (bb = bitsN (prodI its)) := hbb
            have ht := bits_top HP.out
            rw [← hbb, ← HQ.out.2.1] at ht
            have e1 : E ≤ (bb : Int) := by have h1 := HQ.out.2.2; rw [bI_pos HP.out] at h1; omega
            have e2 : (bb : Int) ≤ max (S : Int) 1 := by omega
            have d1 : decide (E ≤ (bb : Int)) = true := decide_eq_true e1
            have d2 : decide ((bb : Int) ≤ max (S : Int) 1) = true := decide_eq_true e2
            clear hbb ht e1 e2
            go_wp2_with fail
            refine (bits_any B3.out (by have := HM3.out; omega)).mono ?_
            rintro e w' ⟨rfl, hw⟩
            obtain rfl := hw.symm
            clear hw
            rw [NK.out.2.2.val, ← HT.out]
            go_wp2_with fail
            refine (bits_any B3.out (by have := HM3.out; omega)).mono ?_
            rintro e w' ⟨rfl, hw⟩
            obtain rfl := hw.symm
            clear hw
            rw [NK.out.2.2.val, ← HT.out]
            go_wp2_with fail
            refine (pairs_ok (H.out.below hbw) NK.out.1 HP.out NK.out.2.1 hN).mono ?_
            rintro e w9 ⟨rfl, hb9⟩
            replace hbw := Below.on hbw hb9
            clear hb9
            go_wp2_with fail
            go_ret
            exact ⟨rfl, hbw⟩
  · have hu := N3.out.bad hf
    obtain rfl : m3 = 0 := by have h := B3.out.len; rw [hu] at h; exact h.symm
    have hf2 : (f3 != 0) = true := by simpa using hf
    go_wp2_with fail
    go_ret
    exact ⟨rfl, hbw⟩
end Go.Proofs.Ytimjajoddmbjlaa
