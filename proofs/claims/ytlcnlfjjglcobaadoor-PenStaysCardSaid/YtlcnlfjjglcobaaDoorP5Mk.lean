/- Parameters that a call owns whole: where the maker's variable lies, its slice of slices, each of these. -/
import Derived.Test.YtlcnlfjjglcobaaDoorPar05
namespace Go.Proofs.YtlcnlfjjglcobaaDoor
open Go Go.RowKit
set_option linter.unusedVariables false
set_option linter.unusedSimpArgs false

theorem own_ty {w : World} {base : Nat} {e : TypeId} {size : Nat} {v : Value} {n : Nat} {xs : List Value} (h : w.ownsRow base e size v n xs) {g : Nat} (hg : v.ownBlock = some g) : ∃ cur, w.heap[g]? = some (.cells cur e (0, 0)) := by
  rcases h.2 with ⟨rfl, _⟩ | ⟨g', cap, cur, rfl, h1, h2, _⟩
  · simp [Value.ownBlock] at hg
  · simp [Value.ownBlock] at hg; subst hg; exact ⟨cur, h2⟩
theorem own_tys {w : World} {base base' : Nat} {e e' : TypeId} {size size' : Nat} {v v' : Value} {n n' : Nat} {xs xs' : List Value} (h : w.ownsRow base e size v n xs) (h' : w.ownsRow base' e' size' v' n' xs') (hne : e ≠ e') : Apart v v' := by
  intro g hg hg'
  obtain ⟨c, hc⟩ := own_ty h hg
  obtain ⟨c', hc'⟩ := own_ty h' hg'
  rw [hc] at hc'
  injection hc' with hc'
  injection hc' with _ h2
  exact hne h2
theorem own_box {w : World} {base : Nat} {e t : TypeId} {size : Nat} {v : Value} {n : Nat} {xs : List Value} {g : Nat} {cs : Array Value} (h : w.ownsRow base e size v n xs) (hb : Box w g t cs) (hne : e ≠ t) : v.ownBlock ≠ some g := by
  intro hg
  obtain ⟨c, hc⟩ := own_ty h hg
  rw [hb] at hc
  injection hc with hc
  injection hc with _ h2
  exact hne h2.symm

structure Mk (w : World) (base G : Nat) (A : Option Addr) (c : Nat) (es : List El) (o : Bool) : Prop where
  hG : base ≤ G
  box : Box w G 54 #[.slice A es.length c, .bool o]
  own : w.ownsRow base 34 1 (.slice A es.length c) es.length (es.map elV)
  els : ∀ e ∈ es, w.ownsRow base 3 1 (elV e) e.q.length (e.q.map intV)
  apart : es.Pairwise (fun x y => Apart (elV x) (elV y))
section
variable {w w1 w2 : World} {base G : Nat} {A : Option Addr} {c : Nat} {es : List El} {o : Bool}
theorem Mk.base_le (h : Mk w base G A c es o) : base ≤ w.heap.size := Nat.le_of_lt (Nat.lt_of_le_of_lt h.hG h.box.lt)
theorem Mk.below (h : Mk w base G A c es o) (hb : Below w.heap.size w w1) : Mk w1 base G A c es o :=
  ⟨h.hG, h.box.below hb h.box.lt, own_below h.own hb, fun e he => own_below (h.els e he) hb, h.apart⟩
theorem Mk.ne (h : Mk w base G A c es o) {e : El} (he : e ∈ es) : (elV e).ownBlock ≠ some G := own_box (h.els e he) h.box (by decide)
theorem Mk.ne0 (h : Mk w base G A c es o) : (Value.slice A es.length c).ownBlock ≠ some G := own_box h.own h.box (by decide)
theorem Mk.off (h : Mk w base G A c es o) {e : El} (he : e ∈ es) : Apart (.slice A es.length c) (elV e) := own_tys h.own (h.els e he) (by decide)
theorem Mk.cap (h : Mk w base G A c es o) : es.length ≤ c ∧ c ≤ maxLen := own_cap h.own
theorem Mk.capE (h : Mk w base G A c es o) {e : El} (he : e ∈ es) : e.q.length ≤ e.c ∧ e.c ≤ maxLen := own_cap (h.els e he)
/-- What it reads as. -/
theorem Mk.in_ (h : Mk w base G A c es o) : InP w A c es :=
  ⟨Nest.of_own h.own fun e he => ⟨Rd.of_own (h.els e he), (h.capE he).1, (h.capE he).2⟩, h.cap.1, h.cap.2⟩
theorem Mk.offX (h : Mk w base G A c es o) (X : Nat) (hX : X < base) : Off X A es := by
  refine ⟨fun hn a ha => ?_, fun e he hq a ha => ?_⟩
  · subst ha
    have := (own_block h.own (g := a.block) rfl).1
    omega
  · have := (own_block (h.els e he) (g := a.block) (by unfold elV; rw [ha]; rfl)).1
    omega
/-- The word Open is stored. -/
theorem Mk.setO (h : Mk w base G A c es o) (o' : Bool) : Mk (w.setCell ⟨G, 1, none⟩ (.bool o')) base G A c es o' :=
  ⟨h.hG, h.box.set_ 1 _, own_far h.own h.ne0 _, fun e he => own_far (h.els e he) (h.ne he) _, h.apart⟩
theorem setO_below (w : World) (hG : base ≤ G) (u : Value) (k : Nat) : Below base w (w.setCell ⟨G, k, none⟩ u) := Below.setCell (Below.refl _ _) hG _
/-- One parameter more. -/
theorem Mk.push (h : Mk w base G A c es o) (hb : Below w.heap.size w w1) (e : El) (hn : w1.ownsRow base 3 1 (elV e) e.q.length (e.q.map intV)) (hnew : ∀ g, (elV e).ownBlock = some g → w.heap.size ≤ g)
    {A' : Option Addr} {c' : Nat} (hO : Own1 w1 w2 (.slice A es.length c) (.slice A' (es.length + 1) c')) (hown : w2.ownsRow base 34 1 (.slice A' (es.length + 1) c') (es.length + 1) (es.map elV ++ [elV e])) :
    Mk (w2.setCell ⟨G, 0, none⟩ (.slice A' (es.length + 1) c')) base G A' c' (es ++ [e]) o := by
  have h1 := h.below hb
  have hbox : Box w2 G 54 #[.slice A es.length c, .bool o] := hO.box h1.box h1.ne0
  have hel : ∀ x ∈ es ++ [e], w2.ownsRow base 3 1 (elV x) x.q.length (x.q.map intV) := by
    intro x hx
    rcases List.mem_append.1 hx with hx | hx
    · exact hO.keep (h1.els x hx) (h1.off hx)
    · simp at hx; subst hx; exact hO.keep hn (own_tys h1.own hn (by decide))
  refine ⟨h.hG, ?_, ?_, ?_, ?_⟩
  · have := hbox.set_ 0 (.slice A' (es.length + 1) c')
    simpa using this
  · have := own_far hown (p := ⟨G, 0, none⟩) (own_box hown hbox (by decide)) (.slice A' (es.length + 1) c')
    simpa using this
  · intro x hx
    exact own_far (hel x hx) (own_box (hel x hx) hbox (by decide)) _
  · rw [List.pairwise_append]
    refine ⟨h.apart, by simp, fun x hx y hy => ?_⟩
    simp at hy; subst hy
    intro g hg hg'
    have h2 := (own_block (h.els x hx) hg).2
    have h3 := hnew g hg'
    omega
/-- The last parameter has one number more. -/
theorem Mk.grow {e : El} (h : Mk w base G A c (es ++ [e]) o) (hb : Below w.heap.size w w1) {A' : Option Addr} {c' n' : Nat} (n : Int) (hn' : n' = e.q.length + 1)
    (hO : Own1 w1 w2 (elV e) (.slice A' n' c')) (hown : w2.ownsRow base 3 1 (.slice A' n' c') n' (e.q.map intV ++ [intV n])) {b : Nat} (hA : A = some ⟨b, 0, none⟩) :
    Mk (w2.setCell ⟨b, es.length, none⟩ (.slice A' n' c')) base G A c (es ++ [⟨A', c', e.q ++ [n]⟩]) o := by
  subst hA hn'
  have h1 := h.below hb
  have me : e ∈ es ++ [e] := by simp
  have hap := List.pairwise_append.1 h.apart
  have hbox : Box w2 G 54 #[.slice (some ⟨b, 0, none⟩) (es ++ [e]).length c, .bool o] := hO.box h1.box (h1.ne me)
  have hel : ∀ x ∈ es, w2.ownsRow base 3 1 (elV x) x.q.length (x.q.map intV) := fun x hx =>
    hO.keep (h1.els x (by simp [hx])) (Apart.symm (hap.2.2 x hx e (by simp)))
  have hout : w2.ownsRow base 34 1 (.slice (some ⟨b, 0, none⟩) (es ++ [e]).length c) (es ++ [e]).length ((es ++ [e]).map elV) := hO.keep h1.own (Apart.symm (h1.off me))
  have hlast : w2.ownsRow base 3 1 (elV ⟨A', c', e.q ++ [n]⟩) (e.q ++ [n]).length ((e.q ++ [n]).map intV) := by
    simpa [elV] using hown
  have hb' : ∀ {v : Value} {k : Nat} {xs : List Value}, w2.ownsRow base 3 1 v k xs → v.ownBlock ≠ some b := fun hv hg => own_tys hout hv (by decide) b rfl hg
  refine ⟨h.hG, ?_, ?_, ?_, ?_⟩
  · have := hbox.far (p := ⟨b, es.length, none⟩) (by
      intro e'
      have e'' : G = b := e'
      exact own_box hout hbox (by decide) (by rw [e'']; rfl)) (.slice A' (e.q.length + 1) c')
    simpa using this
  · have := own_set hout (j := es.length) (by simp) (.slice A' (e.q.length + 1) c')
    simp only [List.length_append, List.length_cons, List.length_nil, List.map_append, List.map_cons, List.map_nil] at this ⊢
    rw [List.set_append_right _ _ (by simp)] at this
    simpa [elV] using this
  · intro x hx
    rcases List.mem_append.1 hx with hx | hx
    · exact own_far (hel x hx) (hb' (hel x hx)) _
    · simp at hx; subst hx; exact own_far hlast (hb' hlast) _
  · rw [List.pairwise_append]
    refine ⟨hap.1, by simp, fun x hx y hy => ?_⟩
    simp at hy; subst hy
    have := hO.apart (h1.els x (by simp [hx])) (Apart.symm (hap.2.2 x hx e (by simp)))
    have h3 := this.symm
    simpa [elV] using h3
/-- The last number is stored. -/
theorem Mk.put {g c0 : Nat} {q : List Int} {n : Int} (h : Mk w base G A c (es ++ [⟨some ⟨g, 0, none⟩, c0, q ++ [n]⟩]) o) (n' : Int) :
    Mk (w.setCell ⟨g, q.length, none⟩ (.int .i64 n')) base G A c (es ++ [⟨some ⟨g, 0, none⟩, c0, q ++ [n']⟩]) o := by
  have me : (⟨some ⟨g, 0, none⟩, c0, q ++ [n]⟩ : El) ∈ es ++ [⟨some ⟨g, 0, none⟩, c0, q ++ [n]⟩] := by simp
  have hap := List.pairwise_append.1 h.apart
  have hl := h.els _ me
  refine ⟨h.hG, ?_, ?_, ?_, ?_⟩
  · have := h.box.far (p := ⟨g, q.length, none⟩) (by
      intro e'
      exact h.ne me (by rw [e']; rfl)) (.int .i64 n')
    simpa using this
  · have := own_far h.own (p := ⟨g, q.length, none⟩) (fun e' => h.off me g e' rfl) (.int .i64 n')
    simpa [elV] using this
  · intro x hx
    rcases List.mem_append.1 hx with hx | hx
    · exact own_far (h.els x (by simp [hx])) (fun e' => hap.2.2 x hx ⟨some ⟨g, 0, none⟩, c0, q ++ [n]⟩ (by simp) g e' rfl) _
    · simp at hx; subst hx
      have hl' : w.ownsRow base 3 1 (.slice (some ⟨g, 0, none⟩) (q ++ [n]).length c0) (q ++ [n]).length ((q ++ [n]).map intV) := hl
      have := own_set hl' (j := q.length) (by simp) (.int .i64 n')
      rw [List.map_append, List.set_append_right _ _ (by simp)] at this
      simpa [elV, intV] using this
  · rw [List.pairwise_append]
    refine ⟨hap.1, by simp, fun x hx y hy => ?_⟩
    simp at hy; subst hy
    have h3 := hap.2.2 x hx ⟨some ⟨g, 0, none⟩, c0, q ++ [n]⟩ (by simp)
    exact fun g' hg' hg2 => h3 g' hg' (by simpa [elV, Value.ownBlock] using hg2)
end
/-- What a call of the maker's leaves. -/
def MkGives (base G : Nat) (p : Par) (w : World) (e : Ending) (w' : World) : Prop := e = .returned (.tuple #[]) ∧ ∃ A c es, Mk w' base G A c es p.o ∧ qs es = p.l ∧ Below base w w'
theorem infoInt : (Tryd.prog.info? 3).map (fun i => (i.zero, i.size, i.bytes)) = some (some (.int .i64 0), 1, 8) := by kernel_rfl
theorem infoInts : (Tryd.prog.info? 34).map (fun i => (i.zero, i.size, i.bytes)) = some (some (.slice none 0 0), 1, 24) := by kernel_rfl
end Go.Proofs.YtlcnlfjjglcobaaDoor
