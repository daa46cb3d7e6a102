/- The maker's digit. -/
import Derived.Test.YtlcnlfjjglcobaaDoorP5Add
import Derived.Deep.DeepCutAuto
namespace Go.Proofs.YtlcnlfjjglcobaaDoor
open Go Go.RowKit
set_option linter.unusedVariables false
set_option linter.unusedSimpArgs false

/-- What a list of elements that ends so reads as. -/
theorem qs_snoc {es : List El} {l : List (List Int)} {q : List Int} (h : qs es = l ++ [q]) : ∃ init e, es = init ++ [e] ∧ qs init = l ∧ e.q = q := by
  have hne : es ≠ [] := by rintro rfl; simp [qs] at h
  obtain ⟨init, e, rfl⟩ := snoc_of hne
  rw [qs_append] at h
  have h2 : qs init = l ∧ qs [e] = [q] := by
    have := List.append_inj' h (by simp [qs])
    exact this
  exact ⟨init, e, rfl, h2.1, by simpa [qs] using h2.2⟩
/-- Where a parameter that has a number lies. -/
theorem own_at {w : World} {base : Nat} {t : TypeId} {A : Option Addr} {n c : Nat} {xs : List Value} (h : w.ownsRow base t 1 (.slice A n c) n xs) (hn : 0 < n) : ∃ g, A = some ⟨g, 0, none⟩ ∧ g < w.heap.size ∧ (∀ (k : Nat) u, xs[k]? = some u → w.cell? ⟨g, k, none⟩ = some u) ∧ ∀ k, w.frozen? ⟨g, k, none⟩ = false := by
  rcases h.2 with ⟨hv, h0⟩ | ⟨g, cap, cur, hv, hb, hg, hnc, hcm, hcs, ht⟩
  · omega
  · injection hv with h1 h2 h3
    refine ⟨g, h1, (Array.getElem?_eq_some_iff.1 hg).1, fun k u hk => ?_, fun k => frozen_of_row w g k cur t hg⟩
    have := h.cells (g := g) (by rw [h1]; rfl) k _ hk
    rw [← this]
    congr 1
    unfold Addr.add; split <;> simp_all
set_option maxRecDepth 100000 in
set_option maxHeartbeats 4000000 in
theorem digit_m (w : World) (base G : Nat) (A : Option Addr) (c : Nat) (es : List El) (o : Bool) (k : Nat) (hk : isDig k) (h : Mk w base G A c es o) (hs : SaneP ⟨qs es, o⟩) :
    Calls Tryd.prog 28 #[.pointer (some ⟨G, 0, none⟩), .int .u8 (k : Int)] w (MkGives base G (rDigit k ⟨qs es, o⟩) w) := by
  have hlen := hs.few
  simp only [qs_length] at hlen
  have hb := begin_c w base G A c es o h (by omega)
  have hbs := begin_sane hs
  have hbn := begin_ne ⟨qs es, o⟩
  have hr : rDigit k ⟨qs es, o⟩ = if (beginP ⟨qs es, o⟩).o then ⟨lastMod (lastMod (digN k)) (beginP ⟨qs es, o⟩).l, true⟩ else beginP ⟨qs es, o⟩ := rfl
  generalize rDigit k ⟨qs es, o⟩ = r at *
  generalize beginP ⟨qs es, o⟩ = p at *
  obtain ⟨l, q0, hl⟩ := snoc_of hbn
  obtain ⟨pl, po⟩ := p
  simp only at hl
  subst hl
  obtain ⟨q, n, rfl⟩ := snoc_of (one_ne (hbs.each q0 (by simp)))
  have hnum : NumOk n := (hbs.each (q ++ [n]) (by simp)).2.2 n (by simp)
  have hql : q.length ≤ 5 := by have := (hbs.each (q ++ [n]) (by simp)).2.1; simp at this; omega
  have hll : l.length ≤ 15 := by have := hbs.few; simp at this; omega
  simp only [lastMod_snoc] at hr
  have HR := Lib.hid hr
  unfold isDig at hk
  obtain ⟨hk1, hk2⟩ := hk
  unfold NumOk at hnum
  obtain ⟨hn1, hn2⟩ := hnum
  clear hr h hs hbs hbn hlen
  go_enter Tryd.func28, Tryd.ntmps28
  go_wp2_with fail
  refine hb.mono ?_
  rintro e w1 ⟨rfl, A1, c1, es1, h1, hq, hbel⟩
  simp only at hq h1
  obtain ⟨init, el, rfl, hqi, hqe⟩ := qs_snoc hq
  obtain ⟨eA, ec, eq⟩ := el
  simp only at hqe
  subst hqe
  have hil : init.length ≤ 15 := by rw [← qs_length, hqi]; exact hll
  clear hq hll hb
  have hcap := h1.cap
  have hcapE := h1.capE (e := ⟨eA, ec, q ++ [n]⟩) (by simp)
  have h1own := h1.own
  have h1el : w1.ownsRow base 3 1 (.slice eA (q ++ [n]).length ec) (q ++ [n]).length ((q ++ [n]).map intV) := h1.els ⟨eA, ec, q ++ [n]⟩ (by simp)
  obtain ⟨gA, rfl, hgA, hcA, _⟩ := own_at h1own (by simp)
  obtain ⟨gE, rfl, hgE, hcE, hfE⟩ := own_at h1el (by simp)
  have d1 : w1.cell? ⟨gA, init.length, none⟩ = some (.slice (some ⟨gE, 0, none⟩) (q.length + 1) ec) := by
    have := hcA init.length (elV ⟨some ⟨gE, 0, none⟩, ec, q ++ [n]⟩) (by simp)
    simpa [elV] using this
  have d2 : w1.cell? ⟨gE, q.length, none⟩ = some (.int .i64 n) := hcE q.length (.int .i64 n) (by simp [intV])
  have d3 := hfE q.length
  have c0 : w1.cell? ⟨G, 0, none⟩ = some (.slice (some ⟨gA, 0, none⟩) (init.length + 1) c1) := by
    have := h1.box.cell 0
    simpa using this
  have c1' : w1.cell? ⟨G, 1, none⟩ = some (.bool po) := h1.box.cell 1
  simp only [List.length_append, List.length_cons, List.length_nil, Nat.zero_add] at hcap hcapE
  unfold maxLen at hcap hcapE
  obtain ⟨hcap1, hcap2⟩ := hcap
  obtain ⟨hcapE1, hcapE2⟩ := hcapE
  have HH := Lib.hid h1
  have HQ := Lib.hid hqi
  clear h1 h1own h1el hcA hcE hfE hqi
  cases po with
  | false =>
    go_wp2_with fail
    go_end0
    refine ⟨rfl, ?_⟩
    rw [HR.out]
    exact ⟨_, c1, _, HH.out, by rw [qs_append, HQ.out]; rfl, hbel⟩
  | true =>
    go_upto_region 2 with fail
    go_quiet (fail)
    have hbd := below_drewN hbel nq
    go_wp2_with fail
    all_goals
      go_end0
      refine ⟨rfl, ?_⟩
      rw [HR.out, if_pos trivial]
      have hm := HH.out.below (below_drewN (Below.refl _ _) nq)
      have hge : base ≤ gE := (own_block (HH.out.els ⟨some ⟨gE, 0, none⟩, ec, q ++ [n]⟩ (by simp)) (g := gE) rfl).1
      refine ⟨some ⟨gA, 0, none⟩, c1, init ++ [⟨some ⟨gE, 0, none⟩, ec, q ++ [_]⟩], hm.put _, ?_, hbd.trans (Below.setCell (Below.refl _ _) hge _)⟩
      rw [qs_append, HQ.out]
      simp only [qs, List.map_cons, List.map_nil]
      congr 4
      unfold digN
      omega
end Go.Proofs.YtlcnlfjjglcobaaDoor
