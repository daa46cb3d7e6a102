/- States and actions in memory; what calls of package parse are to be, as contracts. Seven cells stored in a block that nothing told lies in. -/
import Derived.Test.YtiaippdaogmcmaaDoorPar05
import Derived.Test.YtiaippdaogmcmaaDoorMath6
namespace Go.Proofs.YtiaippdaogmcmaaDoor
open Go Go.RowKit
set_option linter.unusedVariables false
set_option linter.unusedSimpArgs false

def stCells (s : S6) (A : Option Addr) (n c : Nat) : Array Value := #[.int .i64 s.at_, .string (strS s.inter), .bool s.over, .slice A n c, .bool s.par.o, .string (strS s.text), .int .u8 (s.kind : Int)]
def stV (s : S6) (A : Option Addr) (n c : Nat) : Value := .agg (stCells s A n c)
theorem stV_eq (s : S6) (A : Option Addr) (n c : Nat) : stV s A n c = .agg #[.int .i64 s.at_, .string (strS s.inter), .bool s.over, .slice A n c, .bool s.par.o, .string (strS s.text), .int .u8 (s.kind : Int)] := rfl
structure InS (w : World) (A : Option Addr) (c : Nat) (es : List El) (s : S6) : Prop where
  inp : InP w A c es
  reads : qs es = s.par.l
theorem InS.on {w w' : World} {A : Option Addr} {c : Nat} {es : List El} {s : S6} (h : InS w A c es s) (hb : Below w.heap.size w w') : InS w' A c es s := ⟨h.inp.on hb, h.reads⟩
theorem InS.zero (w : World) : InS w none 0 [] zeroS := ⟨⟨Nest.nil, Nat.le_refl _, by decide⟩, rfl⟩
/-- Bytes are bytes. -/
structure Byt6 (s : S6) : Prop where
  inter : ∀ c ∈ s.inter, c < 256
  text : ∀ c ∈ s.text, c < 256
  kind : s.kind < 256
  at_ : I64 s.at_
/-- An action in memory. -/
structure AcE where
  what : Int
  r : Int
  fin : Nat
  inter : List Nat
  A : Option Addr
  c : Nat
  es : List El
  text : List Nat
def AcE.plain (e : AcE) : A6 := ⟨e.what, e.r, e.fin, e.inter, qs e.es, e.text⟩
def acCells (e : AcE) : List Value := [.int .i64 e.what, .int .i64 e.r, .int .u8 (e.fin : Int), .string (strS e.inter), .slice e.A e.es.length e.c, .string (strS e.text)]
def flatA (l : List AcE) : List Value := l.flatMap acCells
def acts (l : List AcE) : List A6 := l.map AcE.plain
theorem acts_len (l : List AcE) : (acts l).length = l.length := by simp [acts]
theorem acts_app (a b : List AcE) : acts (a ++ b) = acts a ++ acts b := by simp [acts]
theorem flatA_length (l : List AcE) : (flatA l).length = l.length * 6 := by
  induction l with
  | nil => rfl
  | cons x l ih => simp [flatA, acCells] at ih ⊢; omega
theorem flatA_append (a b : List AcE) : flatA (a ++ b) = flatA a ++ flatA b := by simp [flatA]
theorem flatA_at {l : List AcE} {k : Nat} {x : AcE} (h : l[k]? = some x) (j : Nat) (hj : j < 6) : (flatA l)[k * 6 + j]? = (acCells x)[j]? := by
  induction l generalizing k with
  | nil => simp at h
  | cons y l ih =>
    have e : flatA (y :: l) = acCells y ++ flatA l := by simp [flatA]
    rw [e]
    cases k with
    | zero =>
      simp at h; subst h
      rw [List.getElem?_append_left (by simp [acCells]; omega)]
      simp
    | succ k =>
      simp at h
      rw [List.getElem?_append_right (by simp [acCells]; omega), ← ih h]
      congr 1
      simp [acCells]; omega
/-- A slice at A reads as actions. -/
structure InA (w : World) (A : Option Addr) (c : Nat) (l : List AcE) : Prop where
  rd : l ≠ [] → ∃ b o, A = some ⟨b, o, none⟩ ∧ b < w.heap.size ∧ ∀ (k : Nat) e, l[k]? = some e → ∀ (j : Nat) u, (acCells e)[j]? = some u → w.cell? ⟨b, o + k * 6 + j, none⟩ = some u
  par : ∀ e ∈ l, InP w e.A e.c e.es
  cap : l.length ≤ c
  max : c ≤ maxLen
theorem InA.on {w w' : World} {A : Option Addr} {c : Nat} {l : List AcE} (h : InA w A c l) (hb : Below w.heap.size w w') : InA w' A c l := by
  refine ⟨fun hl => ?_, fun e he => (h.par e he).on hb, h.cap, h.max⟩
  obtain ⟨b, o, e, hB, hc⟩ := h.rd hl
  exact ⟨b, o, e, Nat.lt_of_lt_of_le hB hb.size, fun k x hx j u hu => (hb.cell (by exact hB)).trans (hc k x hx j u hu)⟩
theorem InA.nil {w : World} {A : Option Addr} {c : Nat} (hc : c ≤ maxLen) : InA w A c [] := ⟨fun h => absurd rfl h, by simp, Nat.zero_le _, hc⟩
theorem InA.at_ {w : World} {A : Option Addr} {c : Nat} {l : List AcE} {k : Nat} {e : AcE} (h : InA w A c l) (hx : l[k]? = some e) : ∃ b o, A = some ⟨b, o, none⟩ ∧ b < w.heap.size ∧
    w.cell? ⟨b, o + k * 6, none⟩ = some (.int .i64 e.what) ∧ w.cell? ⟨b, o + k * 6 + 1, none⟩ = some (.int .i64 e.r) ∧ w.cell? ⟨b, o + k * 6 + 2, none⟩ = some (.int .u8 (e.fin : Int)) ∧ w.cell? ⟨b, o + k * 6 + 3, none⟩ = some (.string (strS e.inter)) ∧
    w.cell? ⟨b, o + k * 6 + 4, none⟩ = some (.slice e.A e.es.length e.c) ∧ w.cell? ⟨b, o + k * 6 + 5, none⟩ = some (.string (strS e.text)) ∧ InP w e.A e.c e.es := by
  obtain ⟨b, o, ha, hB, hc⟩ := h.rd (by rintro rfl; simp at hx)
  exact ⟨b, o, ha, hB, hc k e hx 0 _ rfl, hc k e hx 1 _ rfl, hc k e hx 2 _ rfl, hc k e hx 3 _ rfl, hc k e hx 4 _ rfl, hc k e hx 5 _ rfl, h.par e (List.mem_of_getElem? hx)⟩
theorem InA.of_own {w : World} {base : Nat} {t : TypeId} {A : Option Addr} {n c : Nat} {l : List AcE} (h : w.ownsRow base t 6 (.slice A n c) n (flatA l)) (hp : ∀ e ∈ l, InP w e.A e.c e.es) : InA w A c l := by
  have hn : n = l.length := by have := h.1; rw [flatA_length] at this; omega
  refine ⟨fun hl => ?_, hp, ?_, (own_cap h).2⟩
  · rcases h.2 with ⟨hv, h0⟩ | ⟨g, cap, cur, hv, hb, hg, hnc, hcm, hcs, ht⟩
    · exact absurd (List.eq_nil_of_length_eq_zero (by omega)) hl
    · injection hv with h1 h2 h3
      subst h1
      refine ⟨g, 0, rfl, (Array.getElem?_eq_some_iff.1 hg).1, fun k e hk j u hu => ?_⟩
      have hj : j < 6 := by
        have := (List.getElem?_eq_some_iff.1 hu).1
        simp [acCells] at this; omega
      have := h.cells (g := g) rfl (k * 6 + j) u ((flatA_at hk j hj).trans hu)
      rw [← this]
      congr 1
      unfold Addr.add; split <;> simp_all; try omega
  · have := (own_cap h).1; omega
/-- What a step tells lies in no older block; parameters but in those of the state's. -/
def FarS (A0 : Option Addr) (es0 : List El) (W : World) (A : Option Addr) (es : List El) (B : Option Addr) (l : List AcE) : Prop :=
  ∀ X, X < W.heap.size → (∀ a, B = some a → l ≠ [] → a.block ≠ X) ∧ (Off X A0 es0 → Off X A es ∧ ∀ e ∈ l, Off X e.A e.es)
/-- What a step leaves. -/
def GivesS (x : S6 × List A6) (A0 : Option Addr) (es0 : List El) (W : World) (e : Ending) (w' : World) : Prop :=
  ∃ A c es B d l, e = .returned (.tuple #[stV x.1 A es.length c, .slice B l.length d]) ∧ InS w' A c es x.1 ∧ InA w' B d l ∧ acts l = x.2 ∧ FarS A0 es0 W A es B l ∧ Below W.heap.size W w'
/-- The row of actions bears no parameters; what is told of parameters lies in no older block but those of the state's. -/
def FarF (A0 : Option Addr) (es0 : List El) (W : World) (A : Option Addr) (es : List El) (v : Value) (l : List AcE) : Prop :=
  (∀ g, v.ownBlock = some g → Off g A es ∧ ∀ e ∈ l, Off g e.A e.es) ∧ ∀ X, X < W.heap.size → Off X A0 es0 → Off X A es ∧ ∀ e ∈ l, Off X e.A e.es
/-- What letters leave: the actions lie in a row of the call's own. -/
def GivesF (x : S6 × List A6) (A0 : Option Addr) (es0 : List El) (W : World) (e : Ending) (w' : World) : Prop :=
  ∃ A c es B d l, e = .returned (.tuple #[stV x.1 A es.length c, .slice B l.length d]) ∧ InS w' A c es x.1 ∧ w'.ownsRow W.heap.size 44 6 (.slice B l.length d) l.length (flatA l) ∧ (∀ e ∈ l, InP w' e.A e.c e.es) ∧ acts l = x.2 ∧ Below W.heap.size W w' ∧
    FarF A0 es0 W A es (.slice B l.length d) l
def SizeS (s : S6) : Prop := s.inter.length ≤ 1000000 ∧ s.text.length ≤ 1000000
def Sane6C : Prop := ∀ (s : S6) (A : Option Addr) (c : Nat) (es : List El) (w : World), InS w A c es s → Byt6 s → SizeS s →
  Calls Tryd.prog 13 #[stV s A es.length c] w fun e w' => e = .returned (.bool (decide (SaneS s))) ∧ Below w.heap.size w w'
def Step6C : Prop := ∀ (s : S6) (A : Option Addr) (c : Nat) (es : List El) (r : Int) (w : World), InS w A c es s → Byt6 s → SizeS s → I64 r →
  Calls Tryd.prog 16 #[stV s A es.length c, .int .i64 r] w (GivesS (stepS s r) A es w)
def Feed6C : Prop := ∀ (s : S6) (A : Option Addr) (c : Nat) (es : List El) (L : Option Addr) (k : Nat) (rs : List Int) (w : World), InS w A c es s → Byt6 s → SizeS s → Its w w.heap.size L rs → rs.length ≤ k → k ≤ maxLen → rs.length ≤ 1300 → (∀ r ∈ rs, I64 r) →
  Calls Tryd.prog 9 #[stV s A es.length c, .slice L rs.length k] w (GivesF (feedS s rs) A es w)
theorem zero_byt : Byt6 zeroS := ⟨by simp [zeroS, begunS], by simp [zeroS, begunS], by decide, by unfold I64; decide⟩
theorem zero_size : SizeS zeroS := ⟨by decide, by decide⟩
theorem sane_size6 {s : S6} (h : SaneS s) : SizeS s := ⟨by have := h.short; omega, by have := h.fits; omega⟩

/- Bytes stay bytes. -/
theorem put_lt (r : Int) : ∀ c ∈ putF r, c < 256 := bytes_lt (norm_let r)
theorem at_sane {s : S6} (h : SaneS s) : I64 s.at_ := by
  have := h.lo; have := h.hi; unfold I64; omega
theorem inter_lt {l : List Nat} (h : interB l = true) : ∀ c ∈ l, c < 256 := by
  cases l with
  | nil => simp
  | cons x l =>
    simp only [interB, Bool.and_eq_true, Bool.or_eq_true, List.all_eq_true] at h
    intro c hc
    rcases List.mem_cons.1 hc with rfl | hc
    · rcases h.1 with h1 | h1
      · simp [midB] at h1; omega
      · simp [signB] at h1; omega
    · have := h.2 c hc; simp [midB] at this; omega
theorem step_text {s : S6} (ht : ∀ c ∈ s.text, c < 256) (r : Int) : ∀ c ∈ (rStepS s r).1.text, c < 256 := by
  have h0 : ∀ c ∈ ([] : List Nat), c < 256 := by simp
  unfold rStepS
  split
  · exact h0
  split
  · exact h0
  split
  · unfold highS
    repeat' split
    all_goals exact h0
  split
  · unfold textS
    repeat' split
    all_goals first | exact h0 | exact ht | skip
    unfold addS
    split
    · intro c hc
      rcases List.mem_append.1 hc with hc | hc
      · exact ht c hc
      · exact put_lt r c hc
    · exact ht
  split
  · exact ht
  split
  · exact ht
  split
  · exact h0
  split
  · unfold escS collectS
    repeat' split
    all_goals first | exact h0 | exact ht
  · unfold ctlS finalS collectS
    repeat' split
    all_goals first | exact h0 | exact ht
theorem step_kind {s : S6} (hk : s.kind < 256) (r : Int) : (rStepS s r).1.kind < 256 := by
  have h0 : (0 : Nat) < 256 := by decide
  unfold rStepS
  split
  · exact h0
  split
  · exact h0
  split
  · unfold highS
    repeat' split
    all_goals first | exact h0 | (simp [kindS])
  split
  · unfold textS addS
    repeat' split
    all_goals first | exact h0 | exact hk
  split
  · exact hk
  split
  · exact hk
  split
  · exact h0
  split
  · unfold escS collectS
    repeat' split
    all_goals first | exact h0 | exact hk | (simp [kindS]; omega)
  · unfold ctlS finalS collectS
    repeat' split
    all_goals first | exact h0 | exact hk
theorem step_byt {s : S6} (h : Byt6 s) (r : Int) : Byt6 (stepS s r).1 := by
  have hs := step6_sane s r
  refine ⟨inter_lt hs.mid, ?_, ?_, at_sane hs⟩
  · unfold stepS
    split
    · exact step_text h.text r
    · simp [zeroS, begunS]
  · unfold stepS
    split
    · exact step_kind h.kind r
    · decide
theorem fold_byt (l : List Int) (s : S6) (out : List A6) (h : Byt6 s) : Byt6 (l.foldl oneS (s, out)).1 := by
  induction l generalizing s out with
  | nil => exact h
  | cons r l ih => exact ih _ _ (step_byt h r)
theorem feed_byt {s : S6} (h : Byt6 s) (l : List Int) : Byt6 (feedS s l).1 := by
  unfold feedS
  split
  · exact fold_byt l s [] h
  · exact zero_byt
end Go.Proofs.YtiaippdaogmcmaaDoor

namespace Go.Proofs.YtiaippdaogmcmaaDoor
open Go Go.RowKit
set_option linter.unusedVariables false
set_option linter.unusedSimpArgs false

theorem InS.off {w : World} {A : Option Addr} {c : Nat} {es : List El} {s : S6} (h : InS w A c es s) {X : Nat} (ho : Off X A es) (p : Addr) (hp : p.block = X) (u : Value) : InS (w.setCell p u) A c es s := ⟨h.inp.off ho p hp u, h.reads⟩
theorem InA.off {w : World} {A : Option Addr} {c : Nat} {l : List AcE} (h : InA w A c l) {X : Nat} (hrow : ∀ a, A = some a → l ≠ [] → a.block ≠ X) (hpar : ∀ e ∈ l, Off X e.A e.es) (p : Addr) (hp : p.block = X) (u : Value) : InA (w.setCell p u) A c l := by
  refine ⟨fun hl => ?_, fun e he => (h.par e he).off (hpar e he) p hp u, h.cap, h.max⟩
  obtain ⟨b, o, ea, hb, hc⟩ := h.rd hl
  have hne : b ≠ X := hrow _ ea hl
  have e : (w.setCell p u).heap.size = w.heap.size := by simp [World.setCell]
  exact ⟨b, o, ea, by rw [e]; exact hb, fun k x hx j v hv => (World.cell?_setCell_other w p _ u (fun k => hne (by rw [← hp, k]))).trans (hc k x hx j v hv)⟩
/-- Seven cells are stored. -/
def set7 (W : World) (g : Nat) (v0 v1 v2 v3 v4 v5 v6 : Value) : World := ((((((W.setCell ⟨g, 0, none⟩ v0).setCell ⟨g, 1, none⟩ v1).setCell ⟨g, 2, none⟩ v2).setCell ⟨g, 3, none⟩ v3).setCell ⟨g, 4, none⟩ v4).setCell ⟨g, 5, none⟩ v5).setCell ⟨g, 6, none⟩ v6
theorem InS.set7 {w : World} {A : Option Addr} {c : Nat} {es : List El} {s : S6} (h : InS w A c es s) {X : Nat} (ho : Off X A es) (v0 v1 v2 v3 v4 v5 v6 : Value) : InS (set7 w X v0 v1 v2 v3 v4 v5 v6) A c es s :=
  ((((((h.off ho _ rfl _).off ho _ rfl _).off ho _ rfl _).off ho _ rfl _).off ho _ rfl _).off ho _ rfl _).off ho _ rfl _
theorem InA.set7 {w : World} {A : Option Addr} {c : Nat} {l : List AcE} (h : InA w A c l) {X : Nat} (h1 : ∀ a, A = some a → l ≠ [] → a.block ≠ X) (h2 : ∀ e ∈ l, Off X e.A e.es) (v0 v1 v2 v3 v4 v5 v6 : Value) : InA (set7 w X v0 v1 v2 v3 v4 v5 v6) A c l :=
  ((((((h.off h1 h2 _ rfl _).off h1 h2 _ rfl _).off h1 h2 _ rfl _).off h1 h2 _ rfl _).off h1 h2 _ rfl _).off h1 h2 _ rfl _).off h1 h2 _ rfl _
end Go.Proofs.YtiaippdaogmcmaaDoor
