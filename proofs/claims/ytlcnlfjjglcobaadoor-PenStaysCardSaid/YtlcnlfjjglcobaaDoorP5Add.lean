/- The maker's add, begin, next. -/
import Derived.Test.YtlcnlfjjglcobaaDoorP5Mk
import Derived.Test.YtlcnlfjjglcobaaDoorAppR
namespace Go.Proofs.YtlcnlfjjglcobaaDoor
open Go Go.RowKit
set_option linter.unusedVariables false
set_option linter.unusedSimpArgs false

theorem nil_slice {w : World} {base : Nat} {e : TypeId} {size : Nat} {v : Value} {n : Nat} {xs : List Value} (h : w.ownsRow base e size v n xs) : ∃ A c, v = .slice A n c := by
  obtain ⟨A, c, h, _, _⟩ := own_form1 h
  exact ⟨A, c, h⟩
set_option maxRecDepth 100000 in
set_option maxHeartbeats 4000000 in
theorem add_c (w : World) (base G : Nat) (A : Option Addr) (c : Nat) (es : List El) (o : Bool) (h : Mk w base G A c es o) (hl : es.length ≤ 1000) :
    Calls Tryd.prog 37 #[.pointer (some ⟨G, 0, none⟩)] w (MkGives base G ⟨qs es ++ [[-1]], true⟩ w) := by
  obtain ⟨i0, hi, hz0, hz1, hz2⟩ := info_parts infoInts
  have c0 : w.cell? ⟨G, 0, none⟩ = some (.slice A es.length c) := h.box.cell 0
  have hbel0 : Below w.heap.size w ((w.alloc (.cells #[.int .i64 (-1)] 3)).alloc (.cells #[.slice (some ⟨w.heap.size, 0, none⟩) 1 1] 34)) := ((Below.refl _ _).alloc (Nat.le_refl _) _).alloc (by simp) _
  have hm1 := h.below hbel0
  have hbase := h.base_le
  let el : El := ⟨some ⟨w.heap.size, 0, none⟩, 1, [-1]⟩
  have hR : Rd elV ((w.alloc (.cells #[.int .i64 (-1)] 3)).alloc (.cells #[.slice (some ⟨w.heap.size, 0, none⟩) 1 1] 34)) ((w.alloc (.cells #[.int .i64 (-1)] 3)).alloc (.cells #[.slice (some ⟨w.heap.size, 0, none⟩) 1 1] 34)).heap.size (some ⟨w.heap.size + 1, 0, none⟩) [el] := by
    have := Box.new (w.alloc (.cells #[.int .i64 (-1)] 3)) 34 #[.slice (some ⟨w.heap.size, 0, none⟩) 1 1]
    rw [show (w.alloc (.cells #[.int .i64 (-1)] 3)).heap.size = w.heap.size + 1 from by simp] at this
    exact Rd.of_box (f := elV) this
  have hnew : ((w.alloc (.cells #[.int .i64 (-1)] 3)).alloc (.cells #[.slice (some ⟨w.heap.size, 0, none⟩) 1 1] 34)).ownsRow base 3 1 (elV el) el.q.length (el.q.map intV) := by
    have hb : Box ((w.alloc (.cells #[.int .i64 (-1)] 3)).alloc (.cells #[.slice (some ⟨w.heap.size, 0, none⟩) 1 1] 34)) w.heap.size 3 #[.int .i64 (-1)] := (Box.new w _ _).alloc _
    refine ⟨rfl, .inr ⟨w.heap.size, 1, #[.int .i64 (-1)], rfl, hbase, hb, Nat.le_refl _, by decide, rfl, rfl⟩⟩
  have HB := Lib.hid h
  have HM := Lib.hid hm1
  have HR := Lib.hid hR
  have HN := Lib.hid hnew
  have hown := hm1.own
  have free0 := h.box.free 0
  clear h hm1 hR hnew
  go_enter Tryd.func37, Tryd.ntmps37
  go_wp2_with (at_builtin; refine wpList_append_rd (f := elV) (fun _ => rfl) rfl _ _ 26 rfl base 34 i0 _ 24 Tryd.underlying26 hi hz0 hz1 hz2 rfl _ es.length (es.map elV) rfl hown (some ⟨w.heap.size + 1, 0, none⟩) 1 _ [el] rfl HR.out (by unfold maxLen; simp; omega) (by simp; omega) (by simp; omega) ?_)
  intro v' w2 hown2 hO
  obtain ⟨A', c', rfl⟩ := nil_slice hown2
  have hown2' : w2.ownsRow base 34 1 (.slice A' (es.length + 1) c') (es.length + 1) (es.map elV ++ [elV el]) := hown2
  have hO' : Own1 _ w2 (.slice A es.length c) (.slice A' (es.length + 1) c') := hO
  have hmk := HB.out.push hbel0 el HN.out (fun g hg => by
    have : w.heap.size = g := by simpa [elV, el, Value.ownBlock] using hg
    omega) hO' hown2'
  have hbox2 : Box w2 G 54 #[.slice A es.length c, .bool o] := hO'.box HM.out.box HM.out.ne0
  have hbel2 : Below base w w2 := (hbel0.mono hbase).trans (hO'.belowBase (by simp; omega) (fun g hg => (own_block hown hg).1))
  have hc0 : w2.cell? ⟨G, 0, none⟩ = some (.slice A es.length c) := hbox2.cell 0
  have hf0 := hbox2.free 0
  have hc1 : (w2.setCell ⟨G, 0, none⟩ (.slice A' (es.length + 1) c')).cell? ⟨G, 1, none⟩ = some (.bool o) := (hbox2.set_ 0 _).cell 1
  have hf1 := (hbox2.set_ 0 (.slice A' (es.length + 1) c')).free 1
  have HK := Lib.hid (And.intro hmk hbel2)
  have HG := Lib.hid HB.out.hG
  clear hown2 hown2' hO hO' hmk hown hbel2 hbel0 HN HR HM HB hbox2
  go_wp2_with fail
  go_end0
  refine ⟨rfl, A', c', _, HK.out.1.setO true, by rw [qs_append]; rfl, ?_⟩
  exact (HK.out.2.trans (setO_below _ HG.out _ 0)).trans (setO_below _ HG.out _ 1)

set_option maxRecDepth 100000 in
set_option maxHeartbeats 4000000 in
theorem begin_c (w : World) (base G : Nat) (A : Option Addr) (c : Nat) (es : List El) (o : Bool) (h : Mk w base G A c es o) (hl : es.length ≤ 1000) :
    Calls Tryd.prog 36 #[.pointer (some ⟨G, 0, none⟩)] w (MkGives base G (beginP ⟨qs es, o⟩) w) := by
  have c0 : w.cell? ⟨G, 0, none⟩ = some (.slice A es.length c) := h.box.cell 0
  by_cases hz : es = []
  · subst hz
    have e : beginP ⟨qs [], o⟩ = ⟨qs [] ++ [[-1]], true⟩ := rfl
    rw [e]
    have ha := add_c w base G A c [] o h hl
    simp only [List.length_nil] at c0
    clear h e
    generalize hp : (⟨qs [] ++ [[-1]], true⟩ : Par) = p at ha ⊢
    have HP := Lib.hid hp
    clear hp
    go_enter Tryd.func36, Tryd.ntmps36
    go_wp2_with fail
    refine ha.mono ?_
    rintro e w1 ⟨rfl, ha1⟩
    have HA := Lib.hid ha1
    clear ha1 ha c0
    go_wp2_with fail
    go_end0
    exact ⟨rfl, HA.out⟩
  · have e : beginP ⟨qs es, o⟩ = ⟨qs es, o⟩ := by
      unfold beginP
      rw [if_neg (by unfold qs; simpa using hz)]
    rw [e]
    have hn : ((es.length : Int) == 0) = false := beq_eq_false_iff_ne.2 (by have : es.length ≠ 0 := by simpa using hz
                                                                            omega)
    have HH := Lib.hid h
    clear h hz e
    go_enter Tryd.func36, Tryd.ntmps36
    go_wp2_with fail
    go_end0
    exact ⟨rfl, A, c, es, HH.out, rfl, Below.refl _ _⟩
theorem begin_le16 {p : Par} (h : p.l.length ≤ 16) : (beginP p).l.length ≤ 16 := by
  unfold beginP; split
  · simp
  · exact h
theorem begin_pos (p : Par) : 1 ≤ (beginP p).l.length := by
  have := begin_ne p
  exact List.length_pos_iff.2 this
set_option maxRecDepth 100000 in
set_option maxHeartbeats 4000000 in
theorem next_m (w : World) (base G : Nat) (A : Option Addr) (c : Nat) (es : List El) (o : Bool) (x : Int) (h : Mk w base G A c es o) (hl : es.length ≤ 16) :
    Calls Tryd.prog 29 #[.pointer (some ⟨G, 0, none⟩), .int .u8 x] w (MkGives base G (rNext ⟨qs es, o⟩) w) := by
  have hb := begin_c w base G A c es o h (by omega)
  have hlb : (beginP ⟨qs es, o⟩).l.length ≤ 16 := begin_le16 (by rw [qs_length]; exact hl)
  have hr : rNext ⟨qs es, o⟩ = if 16 ≤ (beginP ⟨qs es, o⟩).l.length then ⟨(beginP ⟨qs es, o⟩).l, false⟩ else ⟨(beginP ⟨qs es, o⟩).l ++ [[-1]], true⟩ := rfl
  generalize rNext ⟨qs es, o⟩ = r at *
  generalize beginP ⟨qs es, o⟩ = p at *
  have HR := Lib.hid hr
  clear hr h
  go_enter Tryd.func29, Tryd.ntmps29
  go_wp2_with fail
  refine hb.mono ?_
  rintro e w1 ⟨rfl, A1, c1, es1, h1, hq, hbel⟩
  have hl1 : es1.length ≤ 16 := by rw [← qs_length, hq]; exact hlb
  have hrr : Hid (r = if 16 ≤ es1.length then ⟨qs es1, false⟩ else ⟨qs es1 ++ [[-1]], true⟩) := Lib.hid (by rw [HR.out, ← hq, qs_length])
  clear HR hlb hq hb
  have c0 : w1.cell? ⟨G, 0, none⟩ = some (.slice A1 es1.length c1) := h1.box.cell 0
  have f1 := h1.box.free 1
  have c1' : w1.cell? ⟨G, 1, none⟩ = some (.bool p.o) := h1.box.cell 1
  by_cases h16 : es1.length = 16
  · have hn : ((es1.length : Int) == 16) = true := beq_iff_eq.2 (by omega)
    have HH := Lib.hid h1
    have H16 := Lib.hid h16
    clear h1 h16
    go_wp2_with fail
    go_end0
    refine ⟨rfl, ?_⟩
    rw [hrr.out, if_pos (by have := H16.out; omega)]
    exact ⟨A1, c1, es1, HH.out.setO false, rfl, hbel.trans (setO_below _ HH.out.hG _ 1)⟩
  · have hn : ((es1.length : Int) == 16) = false := beq_eq_false_iff_ne.2 (by omega)
    have ha := add_c w1 base G A1 c1 es1 p.o h1 (by omega)
    have H16 := Lib.hid (show ¬ 16 ≤ es1.length from by omega)
    clear h1 h16 c1' f1
    generalize hp2 : (⟨qs es1 ++ [[-1]], true⟩ : Par) = p2 at ha hrr
    have HP := Lib.hid hp2
    clear hp2
    go_wp2_with fail
    refine ha.mono ?_
    rintro e w2 ⟨rfl, ha1⟩
    have HA := Lib.hid ha1
    clear ha1 ha c0
    go_wp2_with fail
    go_end0
    refine ⟨rfl, ?_⟩
    rw [hrr.out, if_neg H16.out]
    obtain ⟨A2, c2, es2, k1, k2, k3⟩ := HA.out
    exact ⟨A2, c2, es2, k1, k2, hbel.trans k3⟩
end Go.Proofs.YtlcnlfjjglcobaaDoor
