/- slices.Clone of ints, and own: parameters that nobody else has. -/
import Derived.Test.YtiaippdaogmcmaaDoorP5Sub
import Derived.WalkSpells
namespace Go.Proofs.YtiaippdaogmcmaaDoor
open Go Go.RowKit
set_option linter.unusedVariables false
set_option linter.unusedSimpArgs false

set_option maxRecDepth 100000 in
set_option maxHeartbeats 4000000 in
theorem clone_c (e : El) (w : World) (base : Nat) (ok : ElOk w w.heap.size e) (hq : e.q ≠ []) (hl : e.q.length ≤ 1000) (hbase : base ≤ w.heap.size) :
    Calls Tryd.prog 73 #[.slice e.A e.q.length e.c] w fun r w' => ∃ A c, r = .returned (.slice A e.q.length c) ∧ w'.ownsRow w.heap.size 3 1 (.slice A e.q.length c) e.q.length (e.q.map intV) ∧ Below w.heap.size w w' := by
  obtain ⟨i0, hi, hz0, hz1, hz2⟩ := info_parts infoInt
  obtain ⟨b, o, ha, hb, hc⟩ := ok.rd hq
  have hb1 : Below w.heap.size w (w.alloc (.cells #[] 3)) := (Below.refl _ _).alloc (Nat.le_refl _) _
  have hR := ok.rd.on hb1
  rw [ha] at hR ⊢
  clear hc ha
  have hnil := fun W : World => Lib.run_eql_slice_nil (P := Tryd.prog) W 22 3 (some ⟨b, o, none⟩) e.q.length e.c 0 0 Tryd.underlying22
  have hown : (w.alloc (.cells #[] 3)).ownsRow w.heap.size 3 1 (.slice (some ⟨w.heap.size, 0, none⟩) 0 0) 0 ([] : List Value) :=
    ⟨rfl, .inr ⟨w.heap.size, 0, #[], rfl, Nat.le_refl _, Box.new w _ _, Nat.le_refl _, by decide, rfl, rfl⟩⟩
  clear ok
  go_enter Tryd.func73, Tryd.ntmps73
  go_wp2_with (at_builtin; refine wpList_append_rd (f := intV) (fun _ => rfl) rfl _ _ 22 rfl w.heap.size 3 i0 _ 8 Tryd.underlying22 hi hz0 hz1 hz2 rfl _ 0 [] rfl hown (some ⟨b, o, none⟩) e.c _ e.q rfl hR (by unfold maxLen; omega) (by omega) (by simp) ?_)
  intro v' w2 hown2 hO

  obtain ⟨A', c', rfl⟩ := nil_slice hown2
  have hbel : Below w.heap.size w w2 := hb1.trans (hO.belowBase (by simp) (fun g hg => (own_block hown hg).1))
  have HO := Lib.hid hown2
  clear hown2 hO hown hR
  go_wp2_with fail
  go_ret
  exact ⟨A', c', rfl, by simpa using HO.out, hbel⟩

/-- Parameters of rows of their own. -/
structure OwnP (w : World) (base : Nat) (A : Option Addr) (c : Nat) (es : List El) : Prop where
  own : w.ownsRow base 22 1 (.slice A es.length c) es.length (es.map elV)
  els : ∀ e ∈ es, w.ownsRow base 3 1 (elV e) e.q.length (e.q.map intV)
  apart : es.Pairwise (fun x y => Apart (elV x) (elV y))
/-- Halfway: k of n are there. -/
structure HalfP (w : World) (base g n : Nat) (l : List (List Int)) (es : List El) : Prop where
  row : w.ownsRow base 22 1 (.slice (some ⟨g, 0, none⟩) n n) n (es.map elV ++ List.replicate (n - es.length) (.slice none 0 0))
  els : ∀ e ∈ es, w.ownsRow base 3 1 (elV e) e.q.length (e.q.map intV)
  apart : es.Pairwise (fun x y => Apart (elV x) (elV y))
  reads : qs es = l.take es.length
theorem HalfP.below {w w' : World} {base g n : Nat} {l : List (List Int)} {es : List El} (h : HalfP w base g n l es) (hb : Below w.heap.size w w') : HalfP w' base g n l es :=
  ⟨own_below h.row hb, fun e he => own_below (h.els e he) hb, h.apart, h.reads⟩
theorem HalfP.step {w w1 : World} {base g n : Nat} {l : List (List Int)} {es : List El} (h : HalfP w base g n l es) (hb : Below w.heap.size w w1) (hlt : es.length < n) {A : Option Addr} {c : Nat} {q : List Int}
    (hq : l[es.length]? = some q) (ho : w1.ownsRow w.heap.size 3 1 (.slice A q.length c) q.length (q.map intV)) (hbase : base ≤ w.heap.size) :
    HalfP (w1.setCell ⟨g, es.length, none⟩ (.slice A q.length c)) base g n l (es ++ [⟨A, c, q⟩]) := by
  have h1 := h.below hb
  have hg : ∀ {v : Value} {b : Nat} {k : Nat} {xs : List Value}, w1.ownsRow b 3 1 v k xs → v.ownBlock ≠ some g := fun hv e => own_tys h1.row hv (by decide) g rfl e
  refine ⟨?_, ?_, ?_, ?_⟩
  · have := own_set h1.row (j := es.length) (by omega) (.slice A q.length c)
    rw [List.set_append_right _ _ (by simp)] at this
    have e : List.replicate (n - es.length) (Value.slice none 0 0) = .slice none 0 0 :: List.replicate (n - (es ++ [(⟨A, c, q⟩ : El)]).length) (.slice none 0 0) := by
      rw [← List.replicate_succ]
      congr 1
      simp; omega
    rw [e] at this
    simpa [elV] using this
  · intro x hx
    rcases List.mem_append.1 hx with hx | hx
    · exact own_far (h1.els x hx) (hg (h1.els x hx)) _
    · simp at hx; subst hx
      exact own_le (own_far ho (hg ho) _) hbase
  · rw [List.pairwise_append]
    refine ⟨h.apart, by simp, fun x hx y hy => ?_⟩
    simp at hy; subst hy
    intro g' hg' hg2
    have h2 := (own_block (h.els x hx) hg').2
    have h3 := (own_block ho (g := g') hg2).1
    omega
  · rw [qs_append, h.reads, List.length_append, List.length_singleton, take_snoc hq]
    rfl
theorem ret_maker {fn : Func} {p : Tmp} (h : fn.results = #[.cell p 60]) (a b : Value) (tmps : Array Value) (W : World) (g : Nat) (t : TypeId) (hp : tmps.getD p undef = .pointer (some ⟨g, 0, none⟩)) (hg : Box W g t #[a, b]) :
    (results fn tmps).run Tryd.prog W = .ok (.agg #[a, b]) W :=
  results_cell_row h tmps W g t #[a, b] (0, 0) _ hp hg Tryd.underlying60 rfl (by kernel_rfl)
theorem ret_list {fn : Func} {p : Tmp} (h : fn.results = #[.cell p 26]) (a b : Value) (tmps : Array Value) (W : World) (g : Nat) (t : TypeId) (hp : tmps.getD p undef = .pointer (some ⟨g, 0, none⟩)) (hg : Box W g t #[a, b]) :
    (results fn tmps).run Tryd.prog W = .ok (.agg #[a, b]) W :=
  results_cell_row h tmps W g t #[a, b] (0, 0) _ hp hg Tryd.underlying26 rfl (by kernel_rfl)
theorem Box.put2 {w W : World} {B g : Nat} {t : TypeId} {o0 o1 : Value} (h : Box W g t #[o0, o1]) (hb : Below B w W) (hg : B ≤ g) (v0 v1 : Value) :
    Box ((W.setCell ⟨g, 0, none⟩ v0).setCell ⟨g, 1, none⟩ v1) g t #[v0, v1] ∧ Below B w ((W.setCell ⟨g, 0, none⟩ v0).setCell ⟨g, 1, none⟩ v1) := by
  have h0 : Box (W.setCell ⟨g, 0, none⟩ v0) g t #[v0, o1] := h.set_ 0 v0
  have b0 : Below B w (W.setCell ⟨g, 0, none⟩ v0) := hb.setCell (p := ⟨g, 0, none⟩) hg v0
  have h1 : Box ((W.setCell ⟨g, 0, none⟩ v0).setCell ⟨g, 1, none⟩ v1) g t #[v0, v1] := h0.set_ 1 v1
  exact ⟨h1, b0.setCell (p := ⟨g, 1, none⟩) hg v1⟩
def OwnGives (l : List (List Int)) (o : Bool) (w : World) (e : Ending) (w' : World) : Prop := ∃ A c es, e = .returned (.agg #[.slice A es.length c, .bool o]) ∧ OwnP w' w.heap.size A c es ∧ qs es = l ∧ Below w.heap.size w w'
set_option maxRecDepth 100000 in
set_option maxHeartbeats 4000000 in
theorem own_c (A : Option Addr) (c : Nat) (es : List El) (o : Bool) (w : World) (hin : InP w A c es) (hs : SaneP ⟨qs es, o⟩) :
    Calls Tryd.prog 72 #[.agg #[.slice A es.length c, .bool o]] w (OwnGives (qs es) o w) := by
  obtain ⟨i0, hi, hz0, hz1, hz2⟩ := info_parts infoInts
  have hl16 : es.length ≤ 16 := by have := hs.few; simpa [qs_length] using this
  have hB0 : Box ((w.alloc (.cells #[.slice A es.length c, .bool o] 26)).alloc (.cells #[.slice none 0 0, .bool false] 60)) w.heap.size 26 #[.slice A es.length c, .bool o] := (Box.new w _ _).alloc _
  have hB1 : Box ((w.alloc (.cells #[.slice A es.length c, .bool o] 26)).alloc (.cells #[.slice none 0 0, .bool false] 60)) (w.heap.size + 1) 60 #[.slice none 0 0, .bool false] := by
    have := Box.new (w.alloc (.cells #[.slice A es.length c, .bool o] 26)) 60 #[.slice none 0 0, .bool false]
    simpa using this
  have hbel0 : Below w.heap.size w ((w.alloc (.cells #[.slice A es.length c, .bool o] 26)).alloc (.cells #[.slice none 0 0, .bool false] 60)) := ((Below.refl _ _).alloc (Nat.le_refl _) _).alloc (by simp) _
  have hc0 := hB0.cell 0
  have hsz0 : w.heap.size + 2 ≤ ((w.alloc (.cells #[.slice A es.length c, .bool o] 26)).alloc (.cells #[.slice none 0 0, .bool false] 60)).heap.size := by simp
  have hIn : ∀ V, Below w.heap.size w V → InP V A c es := fun V hV => hin.on hV
  have hone : ∀ (k : Nat) (x : El), es[k]? = some x → x.q ≠ [] ∧ x.q.length ≤ 6 := fun k x hx => by
    have := hs.each x.q (by unfold qs; exact List.mem_map.2 ⟨x, List.mem_of_getElem? hx, rfl⟩)
    exact ⟨one_ne this, this.2.1⟩
  have HIN := Lib.hid hIn
  have HONE := Lib.hid hone
  clear hs hin hIn hone
  generalize hql : qs es = l
  have HQL := Lib.hid hql
  clear hql
  go_enter Tryd.func72, Tryd.ntmps72
  go_wp2_with (at_make; refine wpList_make_full _ rfl _ _ 24 rfl w.heap.size 22 i0 _ 1 Tryd.underlying24 hi hz0 hz1 .i64 .i64 _ _ es.length rfl rfl rfl rfl (by rw [hz2]; omega) (by unfold maxLen; omega) (by simp; omega) ?_; intro w1 hown hgrow; have hB0' := hB0.grown hgrow (by simp); have hB1' := hB1.grown hgrow (by simp); have hc1 := hB0'.cell 0)
  have hbel1 : Below w.heap.size w w1 := hbel0.grown hgrow (by simp; omega) (fun j hj => by cases hj)
  have hhalf : HalfP w1 w.heap.size (w.heap.size + 1 + 1) es.length l [] := ⟨by
    have e : (madeCells (Value.slice none 0 0).cells (es.length * 1)).toList = List.replicate es.length (.slice none 0 0) := by
      rw [Nat.mul_one]
      exact toList_madeCells_one _ _
    rw [e] at hown
    simpa using hown, by simp, List.Pairwise.nil, rfl⟩
  clear hown hgrow hc1 hc0 hB0 hB1 hbel0 hsz0
  generalize hgM : w.heap.size + 1 + 1 = gM at *
  have HGM := Lib.hid hgM
  clear hgM
  go_loopw [13] (fun u13 wr => ∃ es' : List El, u13 = .int .i64 es'.length ∧ es'.length ≤ es.length ∧ HalfP wr w.heap.size gM es.length l es' ∧ Box wr w.heap.size 26 #[.slice A es.length c, .bool o] ∧ Box wr (w.heap.size + 1) 60 #[.slice none 0 0, .bool false] ∧ Below w.heap.size w wr) (fun u13 _ => es.length - (intOf u13).toNat)
  case atStart => exact ⟨[], rfl, Nat.zero_le _, hhalf, hB0', hB1', hbel1⟩
  case round =>
    obtain ⟨es', rfl, hle, hh, hb0, hb1, hbel⟩ := hrel
    have hhw := hbel.size
    by_cases hlt : es'.length < es.length
    · obtain ⟨x, hx⟩ : ∃ x, es[es'.length]? = some x := ⟨_, List.getElem?_eq_getElem hlt⟩
      obtain ⟨b, o', rfl, hb, hc, ok⟩ := (HIN.out _ hbel).nest.at_ hx
      obtain ⟨hxn, hx6⟩ := HONE.out _ _ hx
      have hcl := clone_c x wr w.heap.size ok hxn (by omega) hbel.size
      have hlq : l[es'.length]? = some x.q := by rw [← HQL.out]; exact qs_at hx
      have HLQ := Lib.hid hlq
      have HH := Lib.hid hh
      clear hlq hx ok hh hhalf
      go_wp2_with fail
      refine hcl.mono ?_
      rintro e w2 ⟨A2, c2, rfl, hown2, hb2⟩
      have hst := HH.out.step hb2 hlt HLQ.out hown2 hbel.size
      have hr2 := (HH.out.below hb2).row
      obtain ⟨g', eg, hg', hcc, hff⟩ := own_at hr2 (by omega)
      injection eg with eg; injection eg with eg; subst eg
      have hfz := hff es'.length
      have hcz : w2.cell? ⟨gM, es'.length, none⟩ = some (.slice none 0 0) := hcc es'.length _ (by
        rw [List.getElem?_append_right (by simp)]
        simp only [List.length_map, Nat.sub_self]
        rw [List.getElem?_replicate, if_pos (by omega)])
      have hgb : w.heap.size ≤ gM := (own_block hr2 (g := gM) rfl).1
      have hbel2 := hbel.trans (hb2.mono hbel.size)
      have hb0' := hb0.below hb2 hb0.lt
      have hb1' := hb1.below hb2 hb1.lt
      have hg0 : w.heap.size ≠ gM := by have := HGM.out; omega
      have hg1 : w.heap.size + 1 ≠ gM := by have := HGM.out; omega
      have HST := Lib.hid hst
      have HB := Lib.hid (And.intro (hb0'.far (p := ⟨gM, es'.length, none⟩) hg0 (.slice A2 x.q.length c2)) (hb1'.far (p := ⟨gM, es'.length, none⟩) hg1 (.slice A2 x.q.length c2)))
      clear hst hr2 hcc hff hown2 hb2 hcl hb0' hb1' hg0 hg1 hb0 hb1
      go_wp2_with fail
      go_roundw
      case rel => exact ⟨_, by simp, by simp; omega, HST.out, HB.out.1, HB.out.2, hbel2.trans (Below.setCell (Below.refl _ _) hgb _)⟩
      case measure => simp [intOf]; omega
    · have hee : es'.length = es.length := by omega
      have hrow := hh.row
      rw [hee, Nat.sub_self, List.replicate_zero, List.append_nil] at hrow
      have hrd : qs es' = l := by
        rw [hh.reads, List.take_of_length_le]
        rw [← HQL.out, qs_length]; omega
      have hels := hh.els
      have hap := hh.apart
      have c0 := hb0.cell 0
      have c1 := hb0.cell 1
      have d0 := hb1.cell 0
      have d1 := hb1.cell 1
      have f0 := hb1.free 0
      have f1 := hb1.free 1
      have hput := hb1.put2 hbel (by omega : w.heap.size ≤ w.heap.size + 1) (.slice (some ⟨gM, 0, none⟩) es.length es.length) (.bool o)
      have hf1 : ∀ {v : Value} {t : TypeId} {k : Nat} {xs : List Value} (u u' : Value), wr.ownsRow w.heap.size t 1 v k xs → t ≠ 60 → ((wr.setCell ⟨w.heap.size + 1, 0, none⟩ u).setCell ⟨w.heap.size + 1, 1, none⟩ u').ownsRow w.heap.size t 1 v k xs := fun u u' hv ht =>
        own_far (own_far hv (own_box hv hb1 ht) u) (own_box hv hb1 ht) u'
      have hP : OwnP ((wr.setCell ⟨w.heap.size + 1, 0, none⟩ (.slice (some ⟨gM, 0, none⟩) es.length es.length)).setCell ⟨w.heap.size + 1, 1, none⟩ (.bool o)) w.heap.size (some ⟨gM, 0, none⟩) es.length es' :=
        ⟨by rw [hee]; exact hf1 _ _ hrow (by decide), fun e he => hf1 _ _ (hels e he) (by decide), hap⟩
      have HX := Lib.hid (And.intro hput (And.intro hP hrd))
      clear hput hP hrd hrow hels hap hf1 hh hhalf hb0 hb1 hB0' hB1'
      go_wp2_with fail
      exact bodyPost_ret (ret_maker rfl (.slice (some ⟨gM, 0, none⟩) es.length es.length) (.bool o) _ _ (w.heap.size + 1) _ rfl HX.out.1.1) rfl ⟨some ⟨gM, 0, none⟩, es.length, es', by rw [hee], HX.out.2.1, HX.out.2.2, HX.out.1.2⟩
end Go.Proofs.YtiaippdaogmcmaaDoor
