/- What the calls of package params are to be, as contracts; the document's example by them. -/
import Derived.Test.YtaaojffikpfllaaDoorRefSame
namespace Go.Proofs.YtaaojffikpfllaaDoor
open Go Go.RowKit
set_option linter.unusedVariables false
set_option linter.unusedSimpArgs false

structure InP (w : World) (A : Option Addr) (c : Nat) (es : List El) : Prop where
  nest : Nest w w.heap.size A es
  cap : es.length ≤ c
  max : c ≤ maxLen
theorem InP.on {w w' : World} {A : Option Addr} {c : Nat} {es : List El} (h : InP w A c es) (hb : Below w.heap.size w w') : InP w' A c es := ⟨h.nest.on hb, h.cap, h.max⟩
theorem InP.len {w : World} {A : Option Addr} {c : Nat} {es : List El} (h : InP w A c es) : es.length ≤ maxLen := Nat.le_trans h.cap h.max
/-- A list of parameters is told. -/
def GivesP (p : Par) (W : World) (e : Ending) (w' : World) : Prop := ∃ A c es, e = .returned (.agg #[.slice A es.length c, .bool p.o]) ∧ InP w' A c es ∧ qs es = p.l ∧ Below W.heap.size W w'
/-- What a text's parameters are, or an error. -/
def GivesL (r : Option (List (List Int))) (W : World) (e : Ending) (w' : World) : Prop :=
  match r with
  | some l => ∃ A c es, e = .returned (.tuple #[.slice A es.length c, .int .i64 0]) ∧ InP w' A c es ∧ qs es = l ∧ Below W.heap.size W w'
  | none => ∃ A c, e = .returned (.tuple #[.slice A 0 c, .int .i64 2]) ∧ Below W.heap.size W w'
def ParseC : Prop := ∀ (bs : List Nat) (w : World), (∀ c ∈ bs, c < 256) → bs.length ≤ 600 → Calls Tryd.prog 6 #[.string (strS bs)] w (GivesL (parseP bs) w)
def getP (l : List (List Int)) (k usual : Int) : Int := if 0 ≤ k then (match l[k.toNat]? with | some (n :: _) => if n = -1 then usual else n | _ => usual) else usual
def GetC : Prop := ∀ (A : Option Addr) (c : Nat) (es : List El) (k usual : Int) (w : World), InP w A c es → Calls Tryd.prog 16 #[.slice A es.length c, .int .i64 k, .int .i64 usual] w fun e w' => e = .returned (.int .i64 (getP (qs es) k usual)) ∧ Below w.heap.size w w'

theorem ex_parse : parseP [49, 59, 51, 56, 58, 50, 58, 58, 53] = some [[1], [38, 2, -1, 5]] := by kernel_rfl
set_option maxRecDepth 100000 in
set_option maxHeartbeats 4000000 in
theorem awake_c (hp : ParseC) (hget : GetC) (w : World) : Calls Tryd.prog 5 #[] w fun e w' => e = .returned (.bool true) ∧ Below w.heap.size w w' := by
  have hc := hp [49, 59, 51, 56, 58, 50, 58, 58, 53] w (by decide) (by decide)
  rw [ex_parse] at hc
  unfold GivesL at hc
  dsimp only at hc
  go_enter Tryd.func5, Tryd.ntmps5
  go_wp2_with fail
  refine hc.mono ?_
  rintro e w1 ⟨A, c, es, rfl, hin, hq, hb1⟩
  have hl2 : es.length = 2 := by rw [← qs_length, hq]; rfl
  obtain ⟨e0, e1, rfl⟩ : ∃ e0 e1, es = [e0, e1] := by
    match es, hl2 with
    | [a, b], _ => exact ⟨a, b, rfl⟩
  clear hl2
  simp only [qs, List.map_cons, List.map_nil, List.cons.injEq, and_true] at hq
  obtain ⟨hq0, hq1⟩ := hq
  obtain ⟨b, o, rfl, hbl, d1, ok1⟩ := hin.nest.at_ (k := 1) (e := e1) rfl
  have hl1 : e1.q.length = 4 := by rw [hq1]; rfl
  obtain ⟨b3, o3, ha3, l3, y1⟩ := ok1.rd.at_ (k := 2) (x := -1) (by rw [hq1]; rfl)
  rw [hl1, ha3] at d1
  unfold intV at y1
  have hcap := ok1.cap
  have hg1 := hget _ _ _ 0 9 w1 hin
  have g1 : getP (qs [e0, e1]) 0 9 = 1 := by simp [getP, qs, hq0]
  have g2 : ∀ V, InP V (some ⟨b, o, none⟩) c [e0, e1] → Calls Tryd.prog 16 #[.slice (some ⟨b, o, none⟩) [e0, e1].length c, .int .i64 7, .int .i64 9] V fun e w' => e = .returned (.int .i64 9) ∧ Below V.heap.size V w' := fun V hV => by
    have h := hget _ _ _ 7 9 V hV
    have g : getP (qs [e0, e1]) 7 9 = 9 := by simp [getP, qs]
    rwa [g] at h
  rw [g1] at hg1
  have HG := Lib.hid g2
  have HI := Lib.hid hin
  simp only [List.length_cons, List.length_nil] at hg1 ⊢
  clear g1 g2 hq0 hq1 hl1 ok1 hin hcap
  go_wp2_with fail
  refine hg1.mono ?_
  rintro e w2 ⟨rfl, hb2⟩
  have hg2 := HG.out w2 (HI.out.on hb2)
  have hbel := hb1.trans (hb2.mono hb1.size)
  simp only [List.length_cons, List.length_nil] at hg2
  clear hb2 d1 y1 hg1
  go_wp2_with fail
  refine hg2.mono ?_
  rintro e w3 ⟨rfl, hb3⟩
  have hbel3 := hbel.trans (hb3.mono hbel.size)
  go_wp2_with fail
  go_ret
  exact ⟨rfl, hbel3⟩
end Go.Proofs.YtaaojffikpfllaaDoor
