/- Regions that draw their order: all but a forced tail only reads (region_tail); all operations read, and calls leave old memory as it was (region_ext). Cells and rows as values and in memory. Arguments: a pen, a cell, a row. Rows in a slice of rows: in memory. An argument: a slice of rows. An argument: what is kept (rows, and how many at most). append of whatever slice that reads as a list (nil, empty, or not) to a row that the call owns: as one law for the walk. Slices of rows that a call owns: made, copied, appended, stored. Rows that a call owns: a cut as one value; an empty row of rows; what lies elsewhere stays where a row is stored. Cuts of rows from a place on, and up to one, as one value. -/
import Derived.Test.YtinbdpfjpcgikaaBase1
import Derived.WalkKit
import Derived.BigQuiet
import Derived.BigRegion
import Derived.Deep.QuietTactic
import Derived.StillTailTactics
import Derived.Lib.Hide
import Derived.OrdersHeld
import Derived.ChangeSame
import Derived.Laws.IdiomArrays
import Derived.Deep.AppendLies
import Derived.Laws.OwnMore
import Derived.Test.YtinbdpfjpcgikaaChecked
import Derived.Laws.CopyOwn
import Derived.Laws.CopyRow
import Derived.Laws.MakeOwn
import Derived.OwnWalk
namespace Go.Proofs.Ytinbdpfjpcgikaa
set_option linter.unusedVariables false
set_option linter.unusedSimpArgs false
open Go Go.RowKit

section
variable {P : Program} {ops : Array Oper}
theorem still_of_quiet {w : World} {o : Oper} {a : Act} {K K' : Act → Prop} (hk : ∀ a, K a → K' a) (h : o.quiet P a (fun w' => w' = w) K) : o.still P a w K' := by
  obtain ⟨v, h1, h2⟩ := h
  have h3 := h1 w rfl
  unfold Oper.quietAt at h3
  unfold Oper.still
  generalize (execOp a.eval o).run P w = r at *
  cases r with
  | ok n w' =>
    cases n <;> simp only [Oper.quietUpon] at h3 <;> simp only [Oper.stillUpon]
    case value u =>
      obtain ⟨e1, e2⟩ := h3
      rw [e2]; exact ⟨e1, hk _ h2⟩
    case skip =>
      obtain ⟨e1, e2⟩ := h3
      rw [← e2]; exact ⟨e1, hk _ h2⟩
    case enter f args =>
      obtain ⟨e1, e2⟩ := h3
      exact ⟨e1, v, e2, hk _ h2⟩
  | halt x w' => simp only [Oper.quietUpon] at h3
theorem wpStill_of_quiet {w : World} {Q : Act → Prop} : ∀ (l : List Oper) (a : Act), wpQuiet P ops (fun w' => w' = w) Q l a → wpStill P ops w Q l a
  | [], _, h => h
  | o :: l, a, h => by
    unfold wpQuiet at h
    unfold wpStill
    split
    · rename_i hw; rw [if_pos hw] at h; exact still_of_quiet (fun a => wpStill_of_quiet l a) h
    · rename_i hw; rw [if_neg hw] at h; exact wpStill_of_quiet l _ h

theorem region_tail {id : Nat} {Q : Exit → Act → World → Prop} {a : Act} {w : World} {l : List Oper} (n : Nat) (hm : P.follows .mixedOrders = true) (hB : Region.lexTailB .any l.toArray n = true)
    (h : wpQuiet P l.toArray (fun w' => w' = w.drew) (fun a' => wpList P l.toArray Q (l.drop n) a' w.drew) (l.take n) a) : (Code.region id l.toArray true).wp P Q a w :=
  wp_region_still_tail n hm hB (wpStill_of_quiet _ _ h)

/-- A world that is as w was below block B. -/
structure Ext (w : World) (B : Nat) where
  val : World
  below : Below B w val

/-- A world of which p holds. -/
structure Has (p : World → Prop) where
  val : World
  ok : p val

instance extNe (w : World) (B : Nat) : Nonempty (Ext w B) := ⟨⟨w, Below.refl _ _⟩⟩

theorem Ext.cell {w : World} {B : Nat} {p : Addr} {v : Value} (hp : p.block < B) (h : w.cell? p = some v) : ∀ u : Ext w B, u.val.cell? p = some v :=
  fun u => (u.below.cell hp).trans h

theorem region_ext {id : Nat} {Q : Exit → Act → World → Prop} {a : Act} {w : World} {l : List Oper} (B : Nat) (hm : P.follows .mixedOrders = true) (hB : Region.lexB .any l.toArray = true)
    (h : wpQuiet P l.toArray (fun w' => ∃ u : Ext w B, w' = u.val) (fun a' => ∀ w', Below B w w' → Q .normal a' w') l a) : (Code.region id l.toArray true).wp P Q a w := by
  refine wp_region_quiet (C := fun w' => ∃ u : Ext w B, w' = u.val) hm hB ⟨⟨w.drew, (Below.refl _ _).drew⟩, rfl⟩ ?_
  have e : (fun a' => ∀ w', (∃ u : Ext w B, w' = u.val) → Q .normal a' w') = (fun a' => ∀ w', Below B w w' → Q .normal a' w') := by
    funext a'
    apply propext
    constructor
    · intro h w' hb; exact h w' ⟨⟨w', hb⟩, rfl⟩
    · rintro h w' ⟨u, rfl⟩; exact h _ u.below
  rw [e]
  simpa using h
theorem Ext.call {w : World} {B : Nat} {f : FuncId} {args : Array Value} {v : Value} (u : Ext w B) (h : Calls P f args u.val fun e w' => e = .returned v ∧ Below u.val.heap.size u.val w') (hB : B ≤ w.heap.size) :
    Calls P f args u.val fun e w' => e = .returned v ∧ ∃ u' : Ext w B, w' = u'.val :=
  h.mono fun _ w' ⟨he, hb⟩ => ⟨he, ⟨w', u.below.trans (hb.mono (Nat.le_trans hB u.below.size))⟩, rfl⟩
end

section
variable {P : Program} {ops : Array Oper}
/-- Operations whose outcome, if any, is a value. -/
def isV (o : Oper) : Bool :=
  match o.op with
  | .nilCheck _ | .move _ | .assign _ | .pick _ _ _ | .build _ _ | .load _ _ | .binOp _ _ _ _ _ | .unOp _ _ _ | .convert _ _ _ | .slice _ _ _ _ _ | .fieldAddr _ _ _ | .field _ _ _ | .indexAddr _ _ _ | .index _ _ _ | .extract _ _ => true
  | .call c => (match c.callee with | .builtin .len => true | .builtin .max => true | .builtin .min => true | _ => false)
  | _ => false

theorem isV_run {o : Oper} {ρ : Operand → Value} {w w' : World} {n : Next} (h : isV o = true) (hr : (execOp ρ o).run P w = .ok n w') : ∃ v, n = .value v := by
  have key : ∀ (s : Sem Value), (do pure (Next.value (← s)) : Sem Next).run P w = .ok n w' → ∃ v, n = .value v := by
    intro s hs
    rw [Sem.run_bind] at hs
    cases hq : s.run P w with
    | ok v w1 => rw [hq] at hs; simp at hs; exact ⟨v, hs.1.symm⟩
    | halt x w1 => rw [hq] at hs; simp at hs
  unfold isV at h
  unfold execOp at hr
  cases ho : o.op <;> simp only [ho] at h hr <;> try (cases h; done)
  case nilCheck x =>
    split at hr
    · simp [runtimePanic] at hr
    · simp [runtimePanic] at hr
    · simp [runtimePanic] at hr
    · split at hr
      · simp [runtimePanic] at hr
      · rw [Sem.run_bind] at hr
        generalize (program : Sem Program).run P w = r1 at hr
        cases r1 with
        | halt x w1 => simp at hr
        | ok pv w1 =>
          rw [Result.andThen_ok, Sem.run_bind] at hr
          generalize Sem.run P (nilAhead _ _ _ _) w1 = r2 at hr
          cases r2 with
          | halt x w2 => simp at hr
          | ok bv w2 =>
            rw [Result.andThen_ok] at hr
            split at hr
            · rw [Sem.run_bind] at hr
              simp [unsupported] at hr
            · simp at hr; exact ⟨_, hr.1.symm⟩
      · simp at hr; exact ⟨_, hr.1.symm⟩
    · simp at hr; exact ⟨_, hr.1.symm⟩
  case move x => simp at hr; exact ⟨_, hr.1.symm⟩
  case assign x => simp at hr; exact ⟨_, hr.1.symm⟩
  case pick c a b => 
    rw [Sem.run_bind] at hr
    cases hq : (asBool (ρ c)).run P w with
    | ok v w1 => rw [hq] at hr; rw [Result.andThen_ok] at hr; cases v <;> (simp only [Sem.run_pure, Result.ok.injEq] at hr; exact ⟨_, hr.1.symm⟩)
    | halt x w1 => rw [hq] at hr; simp at hr
  case call c =>
    cases hc : c.callee with
    | value f => rw [hc] at h; cases h
    | invoke r m => rw [hc] at h; cases h
    | builtin b =>
      rw [hc] at h
      have e : (resolve ρ c o.type).run P w = .ok { target := .builtin b c.argTypes o.type (c.args.map fun | .const _ => true | _ => false), args := c.args.map ρ } w := by
        unfold resolve; rw [hc]; rfl
      rw [Sem.run_bind, e, Result.andThen_ok] at hr
      unfold invoke builtin at hr
      cases b <;> first | (cases h; done) | exact key _ hr
  all_goals exact key _ hr

theorem yieldsIf_of_quiet {o : Oper} {a : Act} {C : World → Prop} {v : Value} (hv : isV o = true) (hw : Region.wanted o (yielded ops a.tmps) = true) (h1 : ∀ w, C w → o.quietAt P a C w v) : YieldsIf P ops C o v a := by
  refine .inl ⟨hw, fun w hC => ?_⟩
  have h := h1 w hC
  unfold Oper.quietAt at h
  cases hr : (execOp a.eval o).run P w with
  | halt x w' => rw [hr] at h; simp only [Oper.quietUpon] at h
  | ok n w' =>
    obtain ⟨u, rfl⟩ := isV_run hv hr
    rw [hr] at h
    simp only [Oper.quietUpon] at h
    obtain ⟨rfl, rfl⟩ := h
    rfl

/-- Operations run one by one: behind each the class is shown anew; then K. -/
def wpChain (P : Program) (ops : Array Oper) (Q : Exit → Act → World → Prop) (S : World → Prop) (K : Act → World → Prop) : List Oper → Act → World → Prop
  | [], a, w => K a w
  | o :: rest, a, w => wpList P ops (fun e a' w' => match e with | .normal => S w' ∧ wpChain P ops Q S K rest a' w' | e => Q e a' w') [o] a w

def sel (l : List Oper) : List Nat → List Oper
  | [] => []
  | i :: is => (l.drop i).take 1 ++ sel l is

/-- A plan: segments; of each the first numbers are taken first (pure), the others run one by one. -/
def wpPlan (P : Program) (l : List Oper) (Q : Exit → Act → World → Prop) (S : World → Prop) : List (List Nat × List Nat) → Act → World → Prop
  | [], a, w => Q .normal a w
  | s :: rest, a, w => wpQuiet P l.toArray S (fun a' => wpChain P l.toArray Q S (fun a'' w'' => wpPlan P l Q S rest a'' w'') (sel l s.2) a' w) (sel l s.1) a

def takesB (md : Region.Mode) (ops : Array Oper) : List Nat → Array Bool → Bool
  | [], _ => true
  | k :: ks, listed => ((Region.ready md ops listed).contains k && (Region.free md ops listed k && ((ops[k]?).map isV).getD false)) && takesB md ops ks (listed.setIfInBounds k true)
def runsB (md : Region.Mode) (ops : Array Oper) : List Nat → Array Bool → Bool
  | [], _ => true
  | k :: ks, listed => ((Region.ready md ops listed == [k]) && (ops[k]?).isSome) && runsB md ops ks (listed.setIfInBounds k true)
def listAll (listed : Array Bool) : List Nat → Array Bool
  | [] => listed
  | k :: ks => listAll (listed.setIfInBounds k true) ks
def planFrom (md : Region.Mode) (ops : Array Oper) : Nat → List (List Nat × List Nat) → Array Bool → Bool
  | _, [], listed => (Region.ready md ops listed).isEmpty
  | fuel, s :: rest, listed => takesB md ops s.1 listed && (runsB md ops s.2 (listAll listed s.1) && (decide (s.1.length + s.2.length ≤ fuel) && planFrom md ops (fuel - (s.1.length + s.2.length)) rest (listAll (listAll listed s.1) s.2)))
def planB (md : Region.Mode) (ops : Array Oper) (plan : List (List Nat × List Nat)) : Bool := Region.noSelect ops && planFrom md ops ops.size plan (Array.replicate ops.size false)

theorem sel_one {l : List Oper} {k : Nat} {o : Oper} {ks : List Nat} (h : l[k]? = some o) : sel l (k :: ks) = o :: sel l ks := by
  obtain ⟨hk, rfl⟩ := List.getElem?_eq_some_iff.1 h
  show (l.drop k).take 1 ++ sel l ks = _
  rw [List.drop_eq_getElem_cons hk]
  rfl

theorem op_of_chain {l : List Oper} {Q : Exit → Act → World → Prop} {S : World → Prop} {K : Act → World → Prop} {k : Nat} {o : Oper} {rest : List Oper} {a : Act} {w : World} {G : Act → World → Prop} (h0 : l.toArray[k]? = some o)
    (h : wpChain P l.toArray Q S K (o :: rest) a w) (go : ∀ a' w', (S w' ∧ wpChain P l.toArray Q S K rest a' w') → G a' w') : wpOp P l.toArray Q k G a w := by
  unfold wpOp
  simp only [h0]
  unfold wpChain wpList at h
  have push : ∀ {K' : Act → World → Prop}, (∀ a' w', (wpList P l.toArray (fun e a' w' => match e with | .normal => S w' ∧ wpChain P l.toArray Q S K rest a' w' | e => Q e a' w') [] a' w') → K' a' w') →
      o.wp P a w (wpList P l.toArray (fun e a' w' => match e with | .normal => S w' ∧ wpChain P l.toArray Q S K rest a' w' | e => Q e a' w') []) (fun e a' w' => match e with | .normal => S w' ∧ wpChain P l.toArray Q S K rest a' w' | e => Q e a' w') → o.wp P a w K' Q := by
    intro K' hK' hh
    unfold Oper.wp at hh ⊢
    generalize (execOp a.eval o).run P w = r at *
    cases r with
    | ok nx w' =>
      cases nx <;> simp only [Oper.upon] at hh ⊢
      case value u => exact hK' _ _ hh
      case skip => exact hK' _ _ hh
      case defer d => exact hK' _ _ hh
      case enter f args =>
        refine Calls.mono hh fun e w'' he => ?_
        cases e with
        | returned u => exact hK' _ _ he
        | panicked c => exact he
        | outgrown => obtain ⟨x, y, hz⟩ := he; exact ⟨x, y, hz⟩
      case row row args => exact Rows.mono hh fun u w'' he => hK' _ _ he
    | halt x w' =>
      cases x <;> simp only [Oper.upon] at hh ⊢
      case panic u => exact hh
  split at h
  · rename_i hw
    rw [if_pos hw]
    rcases h with h | ⟨h1, x, y, hz⟩
    · exact .inl (push (fun a' w' hh => go a' w' hh) h)
    · exact .inr ⟨h1, x, y, hz⟩
  · rename_i hw
    rw [if_neg hw]
    exact go _ _ h

theorem runs_any {md : Region.Mode} {l : List Oper} {Q : Exit → Act → World → Prop} {S : World → Prop} {K : Act → World → Prop} {f0 : Nat} : ∀ (ks : List Nat) (fuel : Nat) (listed : Array Bool) (a : Act) (w : World), fuel = f0 + ks.length →
    runsB md l.toArray ks listed = true → (∀ a w, S w → K a w → wpAnyH P md l.toArray Q S f0 (listAll listed ks) a w) → S w → wpChain P l.toArray Q S K (sel l ks) a w → wpAnyH P md l.toArray Q S fuel listed a w
  | [], fuel, listed, a, w, hf, _, hK, hS, h => by subst hf; exact hK a w hS h
  | k :: ks, fuel, listed, a, w, hf, hB, hK, hS, h => by
    simp only [runsB, Bool.and_eq_true, beq_iff_eq] at hB
    obtain ⟨⟨hr, hs⟩, hB'⟩ := hB
    obtain ⟨o, h0⟩ := Option.isSome_iff_exists.1 hs
    have h0' : l[k]? = some o := by simpa using h0
    rw [sel_one h0'] at h
    obtain ⟨f1, rfl⟩ : ∃ f1, fuel = f1 + 1 := ⟨f0 + ks.length, by simp at hf; omega⟩
    have hf1 : f1 = f0 + ks.length := by simp at hf; omega
    refine wpAnyH_all hr (by simp) fun i hi => ?_
    rw [List.mem_singleton] at hi
    subst hi
    exact op_of_chain h0 h fun a' w' ⟨h1, h2⟩ => ⟨h1, runs_any ks f1 _ a' w' hf1 hB' hK h1 h2⟩

theorem put_panic {Q : Exit → Act → World → Prop} (hQ : ∀ c a (d : Tmp) v w, Q (.panic c) (Act.put a (some d) v) w → Q (.panic c) a w) {c : List PanicEntry} {a : Act} {d : Option Tmp} {v : Value} {w : World} (h : Q (.panic c) (a.put d v) w) : Q (.panic c) a w := by
  cases d with
  | none => exact h
  | some d => exact hQ c a d v w h

theorem takes_any {md : Region.Mode} {l : List Oper} {Q : Exit → Act → World → Prop} {S : World → Prop} (hs : Region.noSelect l.toArray = true) (hQ : ∀ c a (d : Tmp) v w, Q (.panic c) (Act.put a (some d) v) w → Q (.panic c) a w) {w : World} (hS : S w) {K : Act → Prop} {f0 : Nat} :
    ∀ (ks : List Nat) (fuel : Nat) (listed : Array Bool) (a : Act), fuel = f0 + ks.length → takesB md l.toArray ks listed = true → (∀ a, K a → wpAnyH P md l.toArray Q S f0 (listAll listed ks) a w) →
    wpQuiet P l.toArray S K (sel l ks) a → wpAnyH P md l.toArray Q S fuel listed a w
  | [], fuel, listed, a, hf, _, hK, h => by subst hf; exact hK a h
  | k :: ks, fuel, listed, a, hf, hB, hK, h => by
    simp only [takesB, Bool.and_eq_true] at hB
    obtain ⟨⟨hr, hfr, hv⟩, hB'⟩ := hB
    obtain ⟨o, h0, hv'⟩ : ∃ o, l.toArray[k]? = some o ∧ isV o = true := by
      cases hq : l.toArray[k]? with
      | none => rw [hq] at hv; simp at hv
      | some o => rw [hq] at hv; exact ⟨o, rfl, by simpa using hv⟩
    have h0' : l[k]? = some o := by simpa using h0
    rw [sel_one h0'] at h
    obtain ⟨f1, rfl⟩ : ∃ f1, fuel = f1 + 1 := ⟨f0 + ks.length, by simp at hf; omega⟩
    have hf1 : f1 = f0 + ks.length := by simp at hf; omega
    have step : ∀ a', wpQuiet P l.toArray S K (sel l ks) a' → wpAnyH P md l.toArray Q S f1 (listed.setIfInBounds k true) a' w := fun a' ha =>
      takes_any hs hQ hS ks f1 _ a' hf1 hB' hK ha
    unfold wpQuiet at h
    split at h
    · rename_i hw
      obtain ⟨v, h1, h2⟩ := h
      exact wpAnyH_take h0 hs hfr hr (fun c a w h => put_panic hQ h) (yieldsIf_of_quiet hv' hw h1) hS (step _ h2)
    · rename_i hw
      exact wpAnyH_take h0 hs hfr hr (fun c a w h => put_panic hQ h) (.inr ⟨by simpa using hw, rfl⟩) hS (step _ h)

theorem plan_any {md : Region.Mode} {l : List Oper} {Q : Exit → Act → World → Prop} {S : World → Prop} (hs : Region.noSelect l.toArray = true) (hQ : ∀ c a (d : Tmp) v w, Q (.panic c) (Act.put a (some d) v) w → Q (.panic c) a w) :
    ∀ (plan : List (List Nat × List Nat)) (fuel : Nat) (listed : Array Bool) (a : Act) (w : World), planFrom md l.toArray fuel plan listed = true → S w → wpPlan P l Q S plan a w → wpAnyH P md l.toArray Q S fuel listed a w
  | [], fuel, listed, a, w, hB, _, h => wpAnyH_done (by simpa [planFrom] using hB) h fuel
  | s :: rest, fuel, listed, a, w, hB, hS, h => by
    simp only [planFrom, Bool.and_eq_true, decide_eq_true_eq] at hB
    obtain ⟨h1, h2, h3, h4⟩ := hB
    refine takes_any (f0 := fuel - s.1.length) hs hQ hS s.1 fuel listed a (by omega) h1 (fun a' ha' => ?_) h
    exact runs_any (f0 := fuel - (s.1.length + s.2.length)) s.2 _ _ a' w (by omega) h2 (fun a'' w'' hS'' hK => plan_any hs hQ rest _ _ a'' w'' h4 hS'' hK) hS ha'

theorem region_plan {id : Nat} {Q : Exit → Act → World → Prop} {a : Act} {w : World} {l : List Oper} (plan : List (List Nat × List Nat)) (S : World → Prop) (hm : P.follows .mixedOrders = true) (hB : planB .any l.toArray plan = true)
    (hQ : ∀ c a (d : Tmp) v w, Q (.panic c) (Act.put a (some d) v) w → Q (.panic c) a w) (hS : S w.drew)
    (h : wpPlan P l Q S plan a w.drew) : (Code.region id l.toArray true).wp P Q a w := by
  simp only [planB, Bool.and_eq_true] at hB
  exact wp_region_held hm (S := S) (plan_any hB.1 hQ plan _ _ a _ hB.2 hS h)

/-- The same plan, with whatever behind it. -/
def wpPlanK (P : Program) (l : List Oper) (Q : Exit → Act → World → Prop) (S : World → Prop) (K : Act → World → Prop) : List (List Nat × List Nat) → Act → World → Prop
  | [], a, w => K a w
  | s :: rest, a, w => wpQuiet P l.toArray S (fun a' => wpChain P l.toArray Q S (fun a'' w'' => wpPlanK P l Q S K rest a'' w'') (sel l s.2) a' w) (sel l s.1) a
def planTo (md : Region.Mode) (ops : Array Oper) (f0 : Nat) (E : Array Bool → Bool) : Nat → List (List Nat × List Nat) → Array Bool → Bool
  | fuel, [], listed => decide (fuel = f0) && E listed
  | fuel, s :: rest, listed => takesB md ops s.1 listed && (runsB md ops s.2 (listAll listed s.1) && (decide (s.1.length + s.2.length ≤ fuel) && planTo md ops f0 E (fuel - (s.1.length + s.2.length)) rest (listAll (listAll listed s.1) s.2)))
theorem planK_any {md : Region.Mode} {l : List Oper} {Q : Exit → Act → World → Prop} {S : World → Prop} {K : Act → World → Prop} {f0 : Nat} {E : Array Bool → Bool} (hs : Region.noSelect l.toArray = true) (hQ : ∀ c a (d : Tmp) v w, Q (.panic c) (Act.put a (some d) v) w → Q (.panic c) a w)
    (hK : ∀ listed a w, E listed = true → S w → K a w → wpAnyH P md l.toArray Q S f0 listed a w) :
    ∀ (plan : List (List Nat × List Nat)) (fuel : Nat) (listed : Array Bool) (a : Act) (w : World), planTo md l.toArray f0 E fuel plan listed = true → S w → wpPlanK P l Q S K plan a w → wpAnyH P md l.toArray Q S fuel listed a w
  | [], fuel, listed, a, w, hB, hS, h => by
    simp only [planTo, Bool.and_eq_true, decide_eq_true_eq] at hB
    obtain ⟨rfl, hE⟩ := hB
    exact hK listed a w hE hS h
  | s :: rest, fuel, listed, a, w, hB, hS, h => by
    simp only [planTo, Bool.and_eq_true, decide_eq_true_eq] at hB
    obtain ⟨h1, h2, h3, h4⟩ := hB
    refine takes_any (f0 := fuel - s.1.length) hs hQ hS s.1 fuel listed a (by omega) h1 (fun a' ha' => ?_) h
    exact runs_any (f0 := fuel - (s.1.length + s.2.length)) s.2 _ _ a' w (by omega) h2 (fun a'' w'' hS'' hk => planK_any hs hQ hK rest _ _ a'' w'' h4 hS'' hk) hS ha'

/-- Behind the first plan two operations may come up, in either order: each with a plan of its own behind it. -/
def planB2 (md : Region.Mode) (ops : Array Oper) (pre : List (List Nat × List Nat)) (f0 i j : Nat) (pi pj : List (List Nat × List Nat)) : Bool :=
  Region.noSelect ops && planTo md ops (f0 + 1) (fun listed => (Region.ready md ops listed == [i, j]) && ((ops[i]?).isSome && ((ops[j]?).isSome && (planFrom md ops f0 pi (listed.setIfInBounds i true) && planFrom md ops f0 pj (listed.setIfInBounds j true))))) ops.size pre (Array.replicate ops.size false)
theorem region_plan2 {id : Nat} {Q : Exit → Act → World → Prop} {a : Act} {w : World} {l : List Oper} (pre : List (List Nat × List Nat)) (f0 i j : Nat) (pi pj : List (List Nat × List Nat)) (S : World → Prop) (hm : P.follows .mixedOrders = true) (hB : planB2 .any l.toArray pre f0 i j pi pj = true)
    (hQ : ∀ c a (d : Tmp) v w, Q (.panic c) (Act.put a (some d) v) w → Q (.panic c) a w) (hS : S w.drew)
    (h : wpPlanK P l Q S (fun a w => wpChain P l.toArray Q S (fun a w => wpPlan P l Q S pi a w) (sel l [i]) a w ∧ wpChain P l.toArray Q S (fun a w => wpPlan P l Q S pj a w) (sel l [j]) a w) pre a w.drew) : (Code.region id l.toArray true).wp P Q a w := by
  simp only [planB2, Bool.and_eq_true] at hB
  refine wp_region_held hm (S := S) (planK_any hB.1 hQ ?_ pre _ _ a _ hB.2 hS h)
  intro listed a w hE hS' hk
  simp only [Bool.and_eq_true, beq_iff_eq] at hE
  obtain ⟨hr, hi, hj, hpi, hpj⟩ := hE
  obtain ⟨oi, h0i⟩ := Option.isSome_iff_exists.1 hi
  obtain ⟨oj, h0j⟩ := Option.isSome_iff_exists.1 hj
  obtain ⟨k1, k2⟩ := hk
  rw [sel_one (show l[i]? = some oi by simpa using h0i)] at k1
  rw [sel_one (show l[j]? = some oj by simpa using h0j)] at k2
  refine wpAnyH_all hr (by simp) fun x hx => ?_
  simp only [List.mem_cons, List.not_mem_nil, or_false] at hx
  rcases hx with rfl | rfl
  · exact op_of_chain h0i k1 fun a' w' ⟨h1, h2⟩ => ⟨h1, plan_any hB.1 hQ pi _ _ a' w' hpi h1 h2⟩
  · exact op_of_chain h0j k2 fun a' w' ⟨h1, h2⟩ => ⟨h1, plan_any hB.1 hQ pj _ _ a' w' hpj h1 h2⟩

/-- Operations in one order, and one more (a new variable, say) that may come up at any time among them. -/
def wpFloat (P : Program) (l : List Oper) (Q : Exit → Act → World → Prop) (S : World → Prop) (K : Act → World → Prop) (x : Nat) : List Nat → Act → World → Prop
  | [], a, w => wpChain P l.toArray Q S K (sel l [x]) a w
  | k :: ks, a, w => wpChain P l.toArray Q S (fun a w => wpChain P l.toArray Q S K (sel l (k :: ks)) a w) (sel l [x]) a w ∧ wpChain P l.toArray Q S (fun a w => wpFloat P l Q S K x ks a w) (sel l [k]) a w
def floatFrom (md : Region.Mode) (ops : Array Oper) (f1 : Nat) (post : List (List Nat × List Nat)) (x : Nat) : List Nat → Array Bool → Bool
  | [], listed => (Region.ready md ops listed == [x]) && ((ops[x]?).isSome && planFrom md ops f1 post (listed.setIfInBounds x true))
  | k :: ks, listed => ((Region.ready md ops listed == [k, x]) || (Region.ready md ops listed == [x, k])) && ((ops[x]?).isSome && ((ops[k]?).isSome &&
      (runsB md ops (k :: ks) (listed.setIfInBounds x true) && (planFrom md ops f1 post (listAll (listed.setIfInBounds x true) (k :: ks)) && floatFrom md ops f1 post x ks (listed.setIfInBounds k true)))))
theorem float_any {md : Region.Mode} {l : List Oper} {Q : Exit → Act → World → Prop} {S : World → Prop} {f1 x : Nat} {post : List (List Nat × List Nat)} (hs : Region.noSelect l.toArray = true) (hQ : ∀ c a (d : Tmp) v w, Q (.panic c) (Act.put a (some d) v) w → Q (.panic c) a w) :
    ∀ (ks : List Nat) (fuel : Nat) (listed : Array Bool) (a : Act) (w : World), fuel = f1 + ks.length + 1 → floatFrom md l.toArray f1 post x ks listed = true → wpFloat P l Q S (fun a w => wpPlan P l Q S post a w) x ks a w → wpAnyH P md l.toArray Q S fuel listed a w
  | [], fuel, listed, a, w, hf, hB, h => by
    simp only [floatFrom, Bool.and_eq_true, beq_iff_eq] at hB
    obtain ⟨hr, hx, hp⟩ := hB
    obtain ⟨o, h0⟩ := Option.isSome_iff_exists.1 hx
    subst hf
    unfold wpFloat at h
    rw [sel_one (show l[x]? = some o by simpa using h0)] at h
    refine wpAnyH_all hr (by simp) fun i hi => ?_
    rw [List.mem_singleton] at hi
    subst hi
    exact op_of_chain h0 h fun a' w' ⟨h1, h2⟩ => ⟨h1, plan_any hs hQ post _ _ a' w' hp h1 h2⟩
  | k :: ks, fuel, listed, a, w, hf, hB, h => by
    simp only [floatFrom, Bool.and_eq_true, Bool.or_eq_true, beq_iff_eq] at hB
    obtain ⟨hr, hx, hk, hrun, hp, hfl⟩ := hB
    obtain ⟨ox, h0x⟩ := Option.isSome_iff_exists.1 hx
    obtain ⟨ok, h0k⟩ := Option.isSome_iff_exists.1 hk
    obtain ⟨f2, rfl⟩ : ∃ f2, fuel = f2 + 1 := ⟨f1 + (ks.length + 1), by simp at hf; omega⟩
    unfold wpFloat at h
    obtain ⟨k1, k2⟩ := h
    rw [sel_one (show l[x]? = some ox by simpa using h0x)] at k1
    rw [sel_one (show l[k]? = some ok by simpa using h0k)] at k2
    have stepx : wpOp P l.toArray Q x (fun a' w' => S w' ∧ wpAnyH P md l.toArray Q S f2 (listed.setIfInBounds x true) a' w') a w :=
      op_of_chain h0x k1 fun a' w' ⟨h1, h2⟩ => ⟨h1, runs_any (f0 := f1) (k :: ks) f2 _ a' w' (by simp at hf ⊢; omega) hrun (fun a'' w'' hS'' hK => plan_any hs hQ post _ _ a'' w'' hp hS'' hK) h1 h2⟩
    have stepk : wpOp P l.toArray Q k (fun a' w' => S w' ∧ wpAnyH P md l.toArray Q S f2 (listed.setIfInBounds k true) a' w') a w :=
      op_of_chain h0k k2 fun a' w' ⟨h1, h2⟩ => ⟨h1, float_any hs hQ ks f2 _ a' w' (by simp at hf; omega) hfl h2⟩
    rcases hr with hr | hr
    · refine wpAnyH_all hr (by simp) fun i hi => ?_
      simp only [List.mem_cons, List.not_mem_nil, or_false] at hi
      rcases hi with rfl | rfl
      · exact stepk
      · exact stepx
    · refine wpAnyH_all hr (by simp) fun i hi => ?_
      simp only [List.mem_cons, List.not_mem_nil, or_false] at hi
      rcases hi with rfl | rfl
      · exact stepx
      · exact stepk
def floatB (md : Region.Mode) (ops : Array Oper) (pre : List (List Nat × List Nat)) (f1 : Nat) (ks : List Nat) (x : Nat) (post : List (List Nat × List Nat)) : Bool :=
  Region.noSelect ops && planTo md ops (f1 + ks.length + 1) (fun listed => floatFrom md ops f1 post x ks listed) ops.size pre (Array.replicate ops.size false)
theorem region_float {id : Nat} {Q : Exit → Act → World → Prop} {a : Act} {w : World} {l : List Oper} (pre : List (List Nat × List Nat)) (f1 : Nat) (ks : List Nat) (x : Nat) (post : List (List Nat × List Nat)) (S : World → Prop) (hm : P.follows .mixedOrders = true) (hB : floatB .any l.toArray pre f1 ks x post = true)
    (hQ : ∀ c a (d : Tmp) v w, Q (.panic c) (Act.put a (some d) v) w → Q (.panic c) a w) (hS : S w.drew)
    (h : wpPlanK P l Q S (fun a w => wpFloat P l Q S (fun a w => wpPlan P l Q S post a w) x ks a w) pre a w.drew) : (Code.region id l.toArray true).wp P Q a w := by
  simp only [floatB, Bool.and_eq_true] at hB
  exact wp_region_held hm (S := S) (planK_any hB.1 hQ (fun listed a w hE _ hk => float_any hB.1 hQ ks _ listed a w rfl hE hk) pre _ _ a _ hB.2 hS h)
end
end Go.Proofs.Ytinbdpfjpcgikaa

namespace Go.Proofs.Ytinbdpfjpcgikaa
open Go Go.RowKit
set_option linter.unusedVariables false
set_option linter.unusedSimpArgs false

def clCells (c : Cl) : List Value := [.int .i64 c.r, .int .i64 c.m0, .int .i64 c.m1, .int .i64 c.w, .int .i64 c.pen.fg, .int .i64 c.pen.bg, .int .i64 c.pen.fl]
def clV (c : Cl) : Value := .agg #[.int .i64 c.r, .int .i64 c.m0, .int .i64 c.m1, .int .i64 c.w, .int .i64 c.pen.fg, .int .i64 c.pen.bg, .int .i64 c.pen.fl]
def ClOk (c : Cl) : Prop := I64 c.r ∧ I64 c.m0 ∧ I64 c.m1 ∧ I64 c.w ∧ PnOk c.pen
theorem OneC.ok {c : Cl} (h : OneC c) : ClOk c := by
  obtain ⟨h1, ⟨h2, h3, h4⟩, h5, _⟩ := h
  unfold LetC at h2 h3 h4
  exact ⟨by unfold I64; omega, by unfold I64; omega, by unfold I64; omega, by unfold I64; omega, h5.ok⟩
theorem blank_ok {p : Pn} (h : PnOk p) : ClOk (blankC p) := ⟨by simp [blankC, I64], by simp [blankC, I64], by simp [blankC, I64], by simp [blankC, I64], h⟩
/-- A slice at A reads as cells. -/
structure InC (w : World) (A : Option Addr) (c : Nat) (l : List Cl) : Prop where
  rd : l ≠ [] → ∃ b o, A = some ⟨b, o, none⟩ ∧ b < w.heap.size ∧ ∀ (k : Nat) e, l[k]? = some e → ∀ (j : Nat) u, (clCells e)[j]? = some u → w.cell? ⟨b, o + k * 7 + j, none⟩ = some u
  cap : l.length ≤ c
  max : c ≤ maxLen
theorem InC.on {w w' : World} {A : Option Addr} {c : Nat} {l : List Cl} (h : InC w A c l) (hb : Below w.heap.size w w') : InC w' A c l := by
  refine ⟨fun hl => ?_, h.cap, h.max⟩
  obtain ⟨b, o, e, hB, hc⟩ := h.rd hl
  exact ⟨b, o, e, Nat.lt_of_lt_of_le hB hb.size, fun k x hx j u hu => (hb.cell (by exact hB)).trans (hc k x hx j u hu)⟩
theorem InC.nil {w : World} {A : Option Addr} {c : Nat} (hc : c ≤ maxLen) : InC w A c [] := ⟨fun h => absurd rfl h, Nat.zero_le _, hc⟩
theorem InC.len {w : World} {A : Option Addr} {c : Nat} {l : List Cl} (h : InC w A c l) : l.length ≤ maxLen := Nat.le_trans h.cap h.max
theorem InC.at_ {w : World} {A : Option Addr} {c : Nat} {l : List Cl} {k : Nat} {e : Cl} (h : InC w A c l) (hx : l[k]? = some e) : ∃ b o, A = some ⟨b, o, none⟩ ∧ b < w.heap.size ∧
    w.cell? ⟨b, o + k * 7, none⟩ = some (.int .i64 e.r) ∧ w.cell? ⟨b, o + k * 7 + 1, none⟩ = some (.int .i64 e.m0) ∧ w.cell? ⟨b, o + k * 7 + 2, none⟩ = some (.int .i64 e.m1) ∧ w.cell? ⟨b, o + k * 7 + 3, none⟩ = some (.int .i64 e.w) ∧
    w.cell? ⟨b, o + k * 7 + 4, none⟩ = some (.int .i64 e.pen.fg) ∧ w.cell? ⟨b, o + k * 7 + 5, none⟩ = some (.int .i64 e.pen.bg) ∧ w.cell? ⟨b, o + k * 7 + 6, none⟩ = some (.int .i64 e.pen.fl) := by
  obtain ⟨b, o, ha, hB, hc⟩ := h.rd (by rintro rfl; simp at hx)
  exact ⟨b, o, ha, hB, hc k e hx 0 _ rfl, hc k e hx 1 _ rfl, hc k e hx 2 _ rfl, hc k e hx 3 _ rfl, hc k e hx 4 _ rfl, hc k e hx 5 _ rfl, hc k e hx 6 _ rfl⟩
def rwCells (r : Rw) (A : Option Addr) (c : Nat) : Array Value := #[.slice A r.cs.length c, .bool r.wrap, .int .i64 r.dir, .bool r.ex]
def rwV (r : Rw) (A : Option Addr) (c : Nat) : Value := .agg (rwCells r A c)
theorem rwV_eq (r : Rw) (A : Option Addr) (c : Nat) : rwV r A c = .agg #[.slice A r.cs.length c, .bool r.wrap, .int .i64 r.dir, .bool r.ex] := rfl
def RwOk (r : Rw) : Prop := I64 r.dir ∧ ∀ c ∈ r.cs, ClOk c
theorem SaneR.ok {r : Rw} (h : SaneR r) : RwOk r := ⟨by have := h.2.2.2; unfold I64; omega, fun c hc => (h.2.1 c hc).ok⟩
/-- A row is told. -/
def GivesRow (r : Rw) (W : World) (e : Ending) (w' : World) : Prop := ∃ A c, e = .returned (rwV r A c) ∧ InC w' A c r.cs ∧ Below W.heap.size W w'
def Sane8C : Prop := ∀ (r : Rw) (A : Option Addr) (c : Nat) (w : World), InC w A c r.cs → RwOk r → Calls Try.prog 37 #[rwV r A c] w fun e w' => e = .returned (.bool (decide (SaneR r))) ∧ Below w.heap.size w w'
end Go.Proofs.Ytinbdpfjpcgikaa

namespace Go.Proofs.Ytinbdpfjpcgikaa
open Go Go.RowKit Go.ChangeShapes Go.WideShapes Go.ChangeAt Go.Deep
set_option linter.unusedVariables false
set_option linter.unusedSimpArgs false

section
variable {H : Type} {enc : TypeId × Value → H} {W : World}
theorem pen_cells {fuel : Nat} {c0 c1 c2 : Value} {x : DataW H × List MemPlace} (h : DataW.trod enc Try.prog W 0 (fun _ => true) true fuel 64 [c0, c1, c2] = some x) :
    ∃ p : Pn, c0 = .int .i64 p.fg ∧ c1 = .int .i64 p.bg ∧ c2 = .int .i64 p.fl ∧ PnOk p := by
  have hI : Try.prog.cellsOf 3 = 1 := by kernel_rfl
  obtain ⟨xs, n, _, hx, _, hlen, hg⟩ := DataW.trod_struct Try.underlying64 h
  have g0 : DataW.trod enc Try.prog W 0 (fun _ => true) true n 3 (([c0, c1, c2].drop 0).take (Try.prog.cellsOf 3)) = xs[0]? := hg 0 _ rfl
  have g1 : DataW.trod enc Try.prog W 0 (fun _ => true) true n 3 (([c0, c1, c2].drop 1).take (Try.prog.cellsOf 3)) = xs[1]? := hg 1 _ rfl
  have g2 : DataW.trod enc Try.prog W 0 (fun _ => true) true n 3 (([c0, c1, c2].drop 2).take (Try.prog.cellsOf 3)) = xs[2]? := hg 2 _ rfl
  rw [hI] at g0 g1 g2
  match xs, hlen with
  | [y0, y1, y2], _ =>
    simp at g0 g1 g2
    obtain ⟨k0, e0, _, w0⟩ := DataW.trod_int Try.underlying3 g0
    obtain ⟨k1, e1, _, w1⟩ := DataW.trod_int Try.underlying3 g1
    obtain ⟨k2, e2, _, w2⟩ := DataW.trod_int Try.underlying3 g2
    simp only [List.cons.injEq, and_true] at e0 e1 e2
    exact ⟨⟨k0, k1, k2⟩, e0, e1, e2, wf_i64 w0, wf_i64 w1, wf_i64 w2⟩
theorem arr2_cells {fuel : Nat} {c0 c1 : Value} {x : DataW H × List MemPlace} (h : DataW.trod enc Try.prog W 0 (fun _ => true) true fuel 62 [c0, c1] = some x) :
    ∃ a b : Int, c0 = .int .i64 a ∧ c1 = .int .i64 b ∧ I64 a ∧ I64 b := by
  have hI : Try.prog.cellsOf 3 = 1 := by kernel_rfl
  cases fuel with
  | zero => simp [DataW.trod] at h
  | succ n =>
    unfold DataW.trod at h
    rw [Try.underlying62] at h
    have r2 : List.range 2 = [0, 1] := rfl
    simp [r2, hI] at h
    obtain ⟨_, h⟩ := h
    cases h0 : DataW.trod enc Try.prog W 0 (fun _ => true) true n 3 [c0] with
    | none => simp [h0] at h
    | some y0 =>
      cases h1 : DataW.trod enc Try.prog W 0 (fun _ => true) true n 3 [c1] with
      | none => simp [h0, h1] at h
      | some y1 =>
        obtain ⟨k0, e0, _, w0⟩ := DataW.trod_int Try.underlying3 h0
        obtain ⟨k1, e1, _, w1⟩ := DataW.trod_int Try.underlying3 h1
        simp only [List.cons.injEq, and_true] at e0 e1
        exact ⟨k0, k1, e0, e1, wf_i64 w0, wf_i64 w1⟩
set_option maxRecDepth 100000 in
theorem cell_cells {fuel : Nat} {cs : List Value} {x : DataW H × List MemPlace} (h : DataW.trod enc Try.prog W 0 (fun _ => true) true fuel 66 cs = some x) : ∃ e : Cl, cs = clCells e ∧ ClOk e := by
  obtain ⟨xs, n, _, hx, hl, hlen, hg⟩ := DataW.trod_struct Try.underlying66 h
  have hC : Try.prog.cellsOf 66 = 7 := by kernel_rfl
  have hI : Try.prog.cellsOf 3 = 1 := by kernel_rfl
  have hA : Try.prog.cellsOf 62 = 2 := by kernel_rfl
  have hP : Try.prog.cellsOf 64 = 3 := by kernel_rfl
  match cs, hl.trans hC with
  | [c0, c1, c2, c3, c4, c5, c6], _ =>
    have g0 : DataW.trod enc Try.prog W 0 (fun _ => true) true n 3 (([c0, c1, c2, c3, c4, c5, c6].drop 0).take (Try.prog.cellsOf 3)) = xs[0]? := hg 0 _ rfl
    have g1 : DataW.trod enc Try.prog W 0 (fun _ => true) true n 62 (([c0, c1, c2, c3, c4, c5, c6].drop 1).take (Try.prog.cellsOf 62)) = xs[1]? := hg 1 _ rfl
    have g2 : DataW.trod enc Try.prog W 0 (fun _ => true) true n 3 (([c0, c1, c2, c3, c4, c5, c6].drop 3).take (Try.prog.cellsOf 3)) = xs[2]? := hg 2 _ rfl
    have g3 : DataW.trod enc Try.prog W 0 (fun _ => true) true n 64 (([c0, c1, c2, c3, c4, c5, c6].drop 4).take (Try.prog.cellsOf 64)) = xs[3]? := hg 3 _ rfl
    rw [hI] at g0 g2
    rw [hA] at g1
    rw [hP] at g3
    match xs, hlen with
    | [y0, y1, y2, y3], _ =>
      simp at g0 g1 g2 g3
      obtain ⟨r, e0, _, w0⟩ := DataW.trod_int Try.underlying3 g0
      obtain ⟨m0, m1, e1, e1', w1, w1'⟩ := arr2_cells g1
      obtain ⟨cw, e2, _, w2⟩ := DataW.trod_int Try.underlying3 g2
      obtain ⟨p, e3, e4, e5, w3⟩ := pen_cells g3
      simp only [List.cons.injEq, and_true] at e0 e2
      subst e0 e1 e1' e2 e3 e4 e5
      exact ⟨⟨r, m0, m1, cw, p⟩, rfl, wf_i64 w0, w1, w1', wf_i64 w2, w3⟩
end
set_option maxRecDepth 100000 in
theorem penArg8 {H : Type} {enc : TypeId × Value → H} {W : World} {base : Nat} {v : Value} {d : DataW H} {ps : List MemPlace} (hok : Value.okWide Try.prog W .any base 64 v) (h : DataW.Trod enc Try.prog W 0 (fun _ => true) true 64 v d ps) :
    ∃ p, v = pnV p ∧ PnOk p := by
  obtain ⟨cs, rfl, hsz⟩ := okWide_struct Try.underlying64 hok
  have hC : Try.prog.cellsOf 64 = 3 := by kernel_rfl
  obtain ⟨l⟩ := cs
  match l, hsz.trans hC with
  | [c0, c1, c2], _ =>
    obtain ⟨fuel, hf⟩ := h
    obtain ⟨p, rfl, rfl, rfl, hp⟩ := pen_cells (W := W) hf
    exact ⟨p, rfl, hp⟩
set_option maxRecDepth 100000 in
theorem cellArg {H : Type} {enc : TypeId × Value → H} {W : World} {base : Nat} {v : Value} {d : DataW H} {ps : List MemPlace} (hok : Value.okWide Try.prog W .any base 66 v) (h : DataW.Trod enc Try.prog W 0 (fun _ => true) true 66 v d ps) :
    ∃ x, v = clV x ∧ ClOk x := by
  obtain ⟨cs, rfl, hsz⟩ := okWide_struct Try.underlying66 hok
  obtain ⟨l⟩ := cs
  obtain ⟨fuel, hf⟩ := h
  obtain ⟨e, he, hk⟩ := cell_cells (W := W) hf
  have he' : l = clCells e := he
  subst he'
  exact ⟨e, rfl, hk⟩
theorem cellsTab {H : Type} {enc : TypeId × Value → H} {W : World} {fuel : Nat} {v : Value} {x : DataW H × List MemPlace} (h : DataW.trod enc Try.prog W 0 (fun _ => true) true fuel 33 [v] = some x) :
    ∃ A c l, v = .slice A (List.length l) c ∧ InC W A c l ∧ ∀ e ∈ l, ClOk e := by
  have hC : Try.prog.cellsOf 66 = 7 := by kernel_rfl
  rcases open_slice Try.underlying33 h with ⟨hcs, hx⟩ | ⟨a, len, cap, m, n, D, Pl, hcs, hb, hl, hm, hmm, hx, hel⟩
  · simp only [List.cons.injEq, and_true] at hcs
    exact ⟨none, 0, [], hcs, InC.nil (Nat.zero_le _), by simp⟩
  · simp only [List.cons.injEq, and_true] at hcs
    simp only [if_true] at hmm
    subst hmm
    have one : ∀ k, k < m → ∃ e : Cl, (∀ j u, (clCells e)[j]? = some u → W.cell? ((a.add (k * 7)).add j) = some u) ∧ ClOk e := by
      intro k hk
      obtain ⟨cs', hc, hd⟩ := hel k hk
      rw [hC] at hc
      obtain ⟨_, hcl, hat⟩ := World.cells?_some hc
      obtain ⟨e, he, hok⟩ := cell_cells (W := W) hd
      refine ⟨e, fun j u hu => ?_, hok⟩
      have hj : j < 7 := (List.getElem?_eq_some_iff.1 hu).1
      rw [hat j hj, he, hu]
    let g : Nat → Cl := fun k => if hk : k < m then Classical.choose (one k hk) else ⟨0, 0, 0, 0, zeroN⟩
    have hg : ∀ k (hk : k < m), (∀ j u, (clCells (g k))[j]? = some u → W.cell? ((a.add (k * 7)).add j) = some u) ∧ ClOk (g k) := by
      intro k hk
      have := Classical.choose_spec (one k hk)
      simpa only [g, dif_pos hk] using this
    refine ⟨some a, m, (List.range len).map g, by rw [hcs]; simp, ⟨fun hne => ?_, by simp; omega, hm⟩, ?_⟩
    · have hlen : 0 < len := by
        rcases Nat.eq_zero_or_pos len with h0 | h0
        · subst h0; simp at hne
        · exact h0
      obtain ⟨b, o, spot⟩ := a
      have h0 := (hg 0 (by omega)).1 0 _ rfl
      have hspot : spot = none := by simpa [Addr.add] using World.cell?_spot h0
      subst hspot
      have add_mid : ∀ x j, (⟨b, x, none⟩ : Addr).add j = ⟨b, x + j, none⟩ := fun x j => by unfold Addr.add; split <;> simp_all
      have hbW : b < W.heap.size := by
        have := World.block_lt_of_cell? W _ h0
        simpa [add_mid] using this
      refine ⟨b, o, rfl, hbW, fun k x hx j u hu => ?_⟩
      rw [List.getElem?_map] at hx
      obtain ⟨k', hk', rfl⟩ := Option.map_eq_some_iff.1 hx
      obtain ⟨h1, h2⟩ := List.getElem?_eq_some_iff.1 hk'
      simp at h1 h2
      subst h2
      have h3 := (hg k (by omega)).1 j u hu
      simpa only [add_mid] using h3
    · intro e he
      obtain ⟨k, hk, rfl⟩ := List.mem_map.1 he
      exact (hg k (by have := List.mem_range.1 hk; omega)).2
set_option maxRecDepth 100000 in
theorem row_cells {H : Type} {enc : TypeId × Value → H} {W : World} {fuel : Nat} {cs : List Value} {x : DataW H × List MemPlace} (h : DataW.trod enc Try.prog W 0 (fun _ => true) true fuel 35 cs = some x) :
    ∃ (r : Rw) (A : Option Addr) (c : Nat), cs = (rwCells r A c).toList ∧ InC W A c r.cs ∧ RwOk r := by
  obtain ⟨xs, n, _, hx, hl, hlen, hg⟩ := DataW.trod_struct Try.underlying35 h
  have hC : Try.prog.cellsOf 35 = 4 := by kernel_rfl
  have hI : Try.prog.cellsOf 3 = 1 := by kernel_rfl
  have hB : Try.prog.cellsOf 4 = 1 := by kernel_rfl
  have hS : Try.prog.cellsOf 33 = 1 := by kernel_rfl
  match cs, hl.trans hC with
  | [c0, c1, c2, c3], _ =>
    have g0 : DataW.trod enc Try.prog W 0 (fun _ => true) true n 33 (([c0, c1, c2, c3].drop 0).take (Try.prog.cellsOf 33)) = xs[0]? := hg 0 _ rfl
    have g1 : DataW.trod enc Try.prog W 0 (fun _ => true) true n 4 (([c0, c1, c2, c3].drop 1).take (Try.prog.cellsOf 4)) = xs[1]? := hg 1 _ rfl
    have g2 : DataW.trod enc Try.prog W 0 (fun _ => true) true n 3 (([c0, c1, c2, c3].drop 2).take (Try.prog.cellsOf 3)) = xs[2]? := hg 2 _ rfl
    have g3 : DataW.trod enc Try.prog W 0 (fun _ => true) true n 4 (([c0, c1, c2, c3].drop 3).take (Try.prog.cellsOf 4)) = xs[3]? := hg 3 _ rfl
    rw [hI] at g2
    rw [hB] at g1 g3
    rw [hS] at g0
    match xs, hlen with
    | [y0, y1, y2, y3], _ =>
      simp at g0 g1 g2 g3
      obtain ⟨A, c, l, rfl, hin, hok⟩ := cellsTab g0
      obtain ⟨b1, e1, _⟩ := DataW.trod_bool Try.underlying4 g1
      obtain ⟨k2, e2, _, w2⟩ := DataW.trod_int Try.underlying3 g2
      obtain ⟨b3, e3, _⟩ := DataW.trod_bool Try.underlying4 g3
      simp only [List.cons.injEq, and_true] at e1 e2 e3
      subst e1 e2 e3
      exact ⟨⟨l, b1, k2, b3⟩, A, c, rfl, hin, wf_i64 w2, hok⟩
set_option maxRecDepth 100000 in
theorem rowArg {H : Type} {enc : TypeId × Value → H} {W : World} {base : Nat} {v : Value} {d : DataW H} {ps : List MemPlace} (hok : Value.okWide Try.prog W .any base 35 v) (h : DataW.Trod enc Try.prog W 0 (fun _ => true) true 35 v d ps) :
    ∃ (r : Rw) (A : Option Addr) (c : Nat), v = rwV r A c ∧ InC W A c r.cs ∧ RwOk r := by
  obtain ⟨cs, rfl, hsz⟩ := okWide_struct Try.underlying35 hok
  obtain ⟨l⟩ := cs
  obtain ⟨fuel, hf⟩ := h
  obtain ⟨r, A, c, he, h1, h2⟩ := row_cells (W := W) hf
  have he' : l = (rwCells r A c).toList := he
  subst he'
  exact ⟨r, A, c, rfl, h1, h2⟩
end Go.Proofs.Ytinbdpfjpcgikaa

namespace Go.Proofs.Ytinbdpfjpcgikaa
open Go Go.RowKit
set_option linter.unusedVariables false
set_option linter.unusedSimpArgs false

/-- A row, and where its cells lie. -/
structure Rl where
  A : Option Addr
  c : Nat
  r : Rw
def rlCells (e : Rl) : List Value := [.slice e.A e.r.cs.length e.c, .bool e.r.wrap, .int .i64 e.r.dir, .bool e.r.ex]
def rlV (e : Rl) : Value := .agg #[.slice e.A e.r.cs.length e.c, .bool e.r.wrap, .int .i64 e.r.dir, .bool e.r.ex]
theorem rlV_rw (e : Rl) : rlV e = rwV e.r e.A e.c := rfl
def rws (es : List Rl) : List Rw := es.map Rl.r
theorem rws_length (es : List Rl) : (rws es).length = es.length := by simp [rws]
theorem rws_app (a b : List Rl) : rws (a ++ b) = rws a ++ rws b := by simp [rws]
theorem rws_take (es : List Rl) (k : Nat) : rws (es.take k) = (rws es).take k := by simp [rws, List.map_take]
theorem rws_drop (es : List Rl) (k : Nat) : rws (es.drop k) = (rws es).drop k := by simp [rws, List.map_drop]
theorem rws_at {es : List Rl} {k : Nat} {e : Rl} (h : es[k]? = some e) : (rws es)[k]? = some e.r := by simp [rws, h]
/-- A slice at A reads as these rows' own four cells each. -/
structure RdG (w : World) (A : Option Addr) (c : Nat) (l : List Rl) : Prop where
  rd : l ≠ [] → ∃ b o, A = some ⟨b, o, none⟩ ∧ b < w.heap.size ∧ ∀ (k : Nat) e, l[k]? = some e → ∀ (j : Nat) u, (rlCells e)[j]? = some u → w.cell? ⟨b, o + k * 4 + j, none⟩ = some u
  cap : l.length ≤ c
  max : c ≤ maxLen
theorem RdG.on {w w' : World} {A : Option Addr} {c : Nat} {l : List Rl} (h : RdG w A c l) (hb : Below w.heap.size w w') : RdG w' A c l := by
  refine ⟨fun hl => ?_, h.cap, h.max⟩
  obtain ⟨b, o, e, hB, hc⟩ := h.rd hl
  exact ⟨b, o, e, Nat.lt_of_lt_of_le hB hb.size, fun k x hx j u hu => (hb.cell (by exact hB)).trans (hc k x hx j u hu)⟩
theorem RdG.nil {w : World} {A : Option Addr} {c : Nat} (hc : c ≤ maxLen) : RdG w A c [] := ⟨fun h => absurd rfl h, Nat.zero_le _, hc⟩
theorem RdG.len {w : World} {A : Option Addr} {c : Nat} {l : List Rl} (h : RdG w A c l) : l.length ≤ maxLen := Nat.le_trans h.cap h.max
theorem RdG.at_ {w : World} {A : Option Addr} {c : Nat} {l : List Rl} {k : Nat} {e : Rl} (h : RdG w A c l) (hx : l[k]? = some e) : ∃ b o, A = some ⟨b, o, none⟩ ∧ b < w.heap.size ∧
    w.cell? ⟨b, o + k * 4, none⟩ = some (.slice e.A e.r.cs.length e.c) ∧ w.cell? ⟨b, o + k * 4 + 1, none⟩ = some (.bool e.r.wrap) ∧ w.cell? ⟨b, o + k * 4 + 2, none⟩ = some (.int .i64 e.r.dir) ∧ w.cell? ⟨b, o + k * 4 + 3, none⟩ = some (.bool e.r.ex) := by
  obtain ⟨b, o, ha, hB, hc⟩ := h.rd (by rintro rfl; simp at hx)
  exact ⟨b, o, ha, hB, hc k e hx 0 _ rfl, hc k e hx 1 _ rfl, hc k e hx 2 _ rfl, hc k e hx 3 _ rfl⟩
theorem RdG.sub {w : World} {A : Option Addr} {c : Nat} {l : List Rl} (h : RdG w A c l) (M : Nat) : RdG w (if c = M then A else A.map (·.add (M * 4))) (c - M) (l.drop M) := by
  have hcap := h.cap
  have hmax := h.max
  refine ⟨fun hl => ?_, by rw [List.length_drop]; omega, by unfold maxLen at hmax ⊢; omega⟩
  have hM : M < l.length := by
    rcases Nat.lt_or_ge M l.length with k | k
    · exact k
    · exact absurd (List.drop_eq_nil_of_le k) hl
  obtain ⟨b, o, ha, hB, hc⟩ := h.rd (by rintro rfl; simp at hM)
  rw [if_neg (by omega), ha]
  refine ⟨b, o + M * 4, by simp [Addr.add], hB, fun k e hk j u hu => ?_⟩
  rw [List.getElem?_drop] at hk
  have := hc (M + k) e hk j u hu
  rw [show o + M * 4 + k * 4 + j = o + (M + k) * 4 + j from by omega]
  exact this
theorem RdG.less {w : World} {A : Option Addr} {c : Nat} {l : List Rl} (h : RdG w A c l) (M : Nat) : RdG w A c (l.take M) := by
  refine ⟨fun hl => ?_, by rw [List.length_take]; have := h.cap; omega, h.max⟩
  obtain ⟨b, o, e, hB, hc⟩ := h.rd (by rintro rfl; simp at hl)
  refine ⟨b, o, e, hB, fun k x hx => hc k x ?_⟩
  rw [List.getElem?_take] at hx
  split at hx
  · exact hx
  · cases hx
/-- A slice of rows, whole: each row's cells read too. -/
structure InG (w : World) (A : Option Addr) (c : Nat) (l : List Rl) : Prop where
  rows : RdG w A c l
  els : ∀ e ∈ l, InC w e.A e.c e.r.cs
theorem InG.on {w w' : World} {A : Option Addr} {c : Nat} {l : List Rl} (h : InG w A c l) (hb : Below w.heap.size w w') : InG w' A c l := ⟨h.rows.on hb, fun e he => (h.els e he).on hb⟩
theorem InG.nil {w : World} {A : Option Addr} {c : Nat} (hc : c ≤ maxLen) : InG w A c [] := ⟨RdG.nil hc, by simp⟩
theorem InG.sub {w : World} {A : Option Addr} {c : Nat} {l : List Rl} (h : InG w A c l) (M : Nat) : InG w (if c = M then A else A.map (·.add (M * 4))) (c - M) (l.drop M) := ⟨h.rows.sub M, fun e he => h.els e (List.mem_of_mem_drop he)⟩
theorem InG.less {w : World} {A : Option Addr} {c : Nat} {l : List Rl} (h : InG w A c l) (M : Nat) : InG w A c (l.take M) := ⟨h.rows.less M, fun e he => h.els e (List.mem_of_mem_take he)⟩
def RsOk (l : List Rw) : Prop := ∀ r ∈ l, RwOk r
/-- Rows are told. -/
def GivesG (l : List Rw) (W : World) (e : Ending) (w' : World) : Prop := ∃ A c es, e = .returned (.slice A (List.length es) c) ∧ InG w' A c es ∧ rws es = l ∧ Below W.heap.size W w'
end Go.Proofs.Ytinbdpfjpcgikaa

namespace Go.Proofs.Ytinbdpfjpcgikaa
open Go Go.RowKit Go.ChangeShapes Go.WideShapes Go.ChangeAt Go.Deep
set_option linter.unusedVariables false
set_option linter.unusedSimpArgs false

theorem rowsTab {H : Type} {enc : TypeId × Value → H} {W : World} {fuel : Nat} {v : Value} {x : DataW H × List MemPlace} (h : DataW.trod enc Try.prog W 0 (fun _ => true) true fuel 22 [v] = some x) :
    ∃ A c l, v = .slice A (List.length l) c ∧ InG W A c l ∧ RsOk (rws l) := by
  have hC : Try.prog.cellsOf 35 = 4 := by kernel_rfl
  rcases open_slice Try.underlying22 h with ⟨hcs, hx⟩ | ⟨a, len, cap, m, n, D, Pl, hcs, hb, hl, hm, hmm, hx, hel⟩
  · simp only [List.cons.injEq, and_true] at hcs
    exact ⟨none, 0, [], hcs, InG.nil (Nat.zero_le _), by simp [RsOk, rws]⟩
  · simp only [List.cons.injEq, and_true] at hcs
    simp only [if_true] at hmm
    subst hmm
    have one : ∀ k, k < m → ∃ e : Rl, (∀ j u, (rlCells e)[j]? = some u → W.cell? ((a.add (k * 4)).add j) = some u) ∧ InC W e.A e.c e.r.cs ∧ RwOk e.r := by
      intro k hk
      obtain ⟨cs', hc, hd⟩ := hel k hk
      rw [hC] at hc
      obtain ⟨_, hcl, hat⟩ := World.cells?_some hc
      obtain ⟨r, A, c, he, hin, hok⟩ := row_cells (W := W) hd
      refine ⟨⟨A, c, r⟩, fun j u hu => ?_, hin, hok⟩
      have hj : j < 4 := (List.getElem?_eq_some_iff.1 hu).1
      have he' : cs' = rlCells ⟨A, c, r⟩ := he
      rw [hat j hj, he', hu]
    let g : Nat → Rl := fun k => if hk : k < m then Classical.choose (one k hk) else ⟨none, 0, ⟨[], false, 0, false⟩⟩
    have hg : ∀ k (hk : k < m), (∀ j u, (rlCells (g k))[j]? = some u → W.cell? ((a.add (k * 4)).add j) = some u) ∧ InC W (g k).A (g k).c (g k).r.cs ∧ RwOk (g k).r := by
      intro k hk
      have := Classical.choose_spec (one k hk)
      simpa only [g, dif_pos hk] using this
    refine ⟨some a, m, (List.range len).map g, by rw [hcs]; simp, ⟨⟨fun hne => ?_, by simp; omega, hm⟩, ?_⟩, ?_⟩
    · have hlen : 0 < len := by
        rcases Nat.eq_zero_or_pos len with h0 | h0
        · subst h0; simp at hne
        · exact h0
      obtain ⟨b, o, spot⟩ := a
      have h0 := (hg 0 (by omega)).1 0 _ rfl
      have hspot : spot = none := by simpa [Addr.add] using World.cell?_spot h0
      subst hspot
      have add_mid : ∀ x j, (⟨b, x, none⟩ : Addr).add j = ⟨b, x + j, none⟩ := fun x j => by unfold Addr.add; split <;> simp_all
      have hbW : b < W.heap.size := by
        have := World.block_lt_of_cell? W _ h0
        simpa [add_mid] using this
      refine ⟨b, o, rfl, hbW, fun k x hx j u hu => ?_⟩
      rw [List.getElem?_map] at hx
      obtain ⟨k', hk', rfl⟩ := Option.map_eq_some_iff.1 hx
      obtain ⟨h1, h2⟩ := List.getElem?_eq_some_iff.1 hk'
      simp at h1 h2
      subst h2
      have h3 := (hg k (by omega)).1 j u hu
      simpa only [add_mid] using h3
    · intro e he
      obtain ⟨k, hk, rfl⟩ := List.mem_map.1 he
      exact (hg k (by have := List.mem_range.1 hk; omega)).2.1
    · intro r hr
      obtain ⟨e, he, rfl⟩ := List.mem_map.1 hr
      obtain ⟨k, hk, rfl⟩ := List.mem_map.1 he
      exact (hg k (by have := List.mem_range.1 hk; omega)).2.2
theorem rowsArg {H : Type} {enc : TypeId × Value → H} {W : World} {base : Nat} {v : Value} {d : DataW H} {ps : List MemPlace} (hok : Value.okWide Try.prog W .any base 22 v) (h : DataW.Trod enc Try.prog W 0 (fun _ => true) true 22 v d ps) :
    ∃ A c es, v = .slice A (List.length es) c ∧ InG W A c es ∧ RsOk (rws es) := by
  obtain ⟨A, len, cap, rfl⟩ := okWide_slice Try.underlying22 hok
  obtain ⟨fuel, hf⟩ := h
  have hf' : DataW.trod enc Try.prog W 0 (fun _ => true) true fuel 22 [.slice A len cap] = some (d, ps) := hf
  exact rowsTab hf'
end Go.Proofs.Ytinbdpfjpcgikaa

namespace Go.Proofs.Ytinbdpfjpcgikaa
open Go Go.RowKit Go.ChangeShapes Go.WideShapes Go.ChangeAt Go.Deep
set_option linter.unusedVariables false
set_option linter.unusedSimpArgs false

set_option maxRecDepth 100000 in
theorem kept_cells {H : Type} {enc : TypeId × Value → H} {W : World} {fuel : Nat} {cs : List Value} {x : DataW H × List MemPlace} (h : DataW.trod enc Try.prog W 0 (fun _ => true) true fuel 24 cs = some x) :
    ∃ (A : Option Addr) (c : Nat) (es : List Rl) (m : Int), cs = [.slice A es.length c, .int .i64 m] ∧ InG W A c es ∧ RsOk (rws es) ∧ I64 m := by
  obtain ⟨xs, n, _, hx, hl, hlen, hg⟩ := DataW.trod_struct Try.underlying24 h
  have hC : Try.prog.cellsOf 24 = 2 := by kernel_rfl
  have hI : Try.prog.cellsOf 3 = 1 := by kernel_rfl
  have hS : Try.prog.cellsOf 22 = 1 := by kernel_rfl
  match cs, hl.trans hC with
  | [c0, c1], _ =>
    have g0 : DataW.trod enc Try.prog W 0 (fun _ => true) true n 22 (([c0, c1].drop 0).take (Try.prog.cellsOf 22)) = xs[0]? := hg 0 _ rfl
    have g1 : DataW.trod enc Try.prog W 0 (fun _ => true) true n 3 (([c0, c1].drop 1).take (Try.prog.cellsOf 3)) = xs[1]? := hg 1 _ rfl
    rw [hI] at g1
    rw [hS] at g0
    match xs, hlen with
    | [y0, y1], _ =>
      simp at g0 g1
      obtain ⟨A, c, l, rfl, hin, hok⟩ := rowsTab g0
      obtain ⟨k1, e1, _, w1⟩ := DataW.trod_int Try.underlying3 g1
      simp only [List.cons.injEq, and_true] at e1
      subst e1
      exact ⟨A, c, l, k1, rfl, hin, hok, wf_i64 w1⟩
set_option maxRecDepth 100000 in
theorem keptArg {H : Type} {enc : TypeId × Value → H} {W : World} {base : Nat} {v : Value} {d : DataW H} {ps : List MemPlace} (hok : Value.okWide Try.prog W .any base 24 v) (h : DataW.Trod enc Try.prog W 0 (fun _ => true) true 24 v d ps) :
    ∃ (A : Option Addr) (c : Nat) (es : List Rl) (m : Int), v = .agg #[.slice A es.length c, .int .i64 m] ∧ InG W A c es ∧ RsOk (rws es) ∧ I64 m := by
  obtain ⟨cs, rfl, hsz⟩ := okWide_struct Try.underlying24 hok
  obtain ⟨l⟩ := cs
  obtain ⟨fuel, hf⟩ := h
  obtain ⟨A, c, es, m, he, h1, h2, h3⟩ := kept_cells (W := W) hf
  have he' : l = [.slice A es.length c, .int .i64 m] := he
  subst he'
  exact ⟨A, c, es, m, rfl, h1, h2, h3⟩
end Go.Proofs.Ytinbdpfjpcgikaa

namespace Go.Proofs.Ytinbdpfjpcgikaa
open Go Go.RowKit
set_option linter.unusedVariables false
set_option linter.unusedSimpArgs false

section
variable {P : Program} {w : World}
theorem run_append_zero (base : Nat) (t ty e : TypeId) (i : TypeInfo) (size : Nat) (ht : P.underlying t = some (.slice e)) (hi : P.info? e = some i)
    (v : Value) (n : Nat) (xs : List Value) (hown : w.ownsRow base e size v n xs) (A : Option Addr) (c : Nat) :
    (Builtin.append_ #[t, t] ty #[v, .slice A 0 c]).run P w = .ok v w := by
  rcases hown.2 with ⟨rfl, rfl⟩ | ⟨g, cap, cur, rfl, _, _, hnc, _⟩
  · cases A <;> simp [Builtin.append_, run_underlying ht, sizeOf, typeInfo, hi, Builtin.lenOf, Builtin.firstCells, loadCells, loadCellsFrom, Result.andThen]
  · cases A <;> simp [Builtin.append_, run_underlying ht, sizeOf, typeInfo, hi, Builtin.lenOf, Builtin.firstCells, hnc, storeCells, loadCells, loadCellsFrom, Result.andThen]
theorem wpList_append_rd {α : Type} {f : α → Value} (hone : ∀ x, (f x).oneCell' = true) {ops : Array Oper} {rest : List Oper} {o : Oper} {a : Act} {Q : Exit → Act → World → Prop} (hgd : o.guard = none) (s x : Operand) (t : TypeId)
    (ho : o.op = .call { callee := .builtin .append, args := #[s, x], argTypes := #[t, t] })
    (base : Nat) (e : TypeId) (i : TypeInfo) (z : Value) (bytes : Nat) (ht : P.underlying t = some (.slice e)) (hi : P.info? e = some i) (hz : i.zero = some z)
    (hsize : i.size = 1) (hby : i.bytes = bytes) (hzs : z.cells.size = 1)
    (v : Value) (n : Nat) (xs : List Value) (hs : a.eval s = v) (hown : w.ownsRow base e 1 v n xs)
    (A : Option Addr) (c B : Nat) (l : List α) (hx : a.eval x = .slice A l.length c) (hR : Rd f w B A l)
    (h63 : n + l.length ≤ maxLen) (hbytes : (n + l.length) * bytes ≤ 140737488355328) (hbase : base ≤ w.heap.size)
    (h : ∀ v' w', w'.ownsRow base e 1 v' (n + l.length) (xs ++ l.map f) → Own1 w w' v v' → wpList P ops Q rest (a.put o.dst v') w') : wpList P ops Q (o :: rest) a w := by
  by_cases hl : l = []
  · subst hl
    have hrun := run_append_zero (P := P) (w := w) base t o.type e i 1 ht hi v n xs hown A c
    refine wpList_plain hgd fun K hK => ?_
    have hx' : a.eval x = .slice A 0 c := hx
    unfold Oper.wp
    simp [execOp, ho, resolve, invoke, builtin, hs, hx', hrun, Result.andThen]
    refine hK _ _ (h v w (by simpa using hown) (Own1.refl _ _))
  · obtain ⟨b, off, rfl, hb, hc⟩ := hR hl
    have hlen : 0 < l.length := List.length_pos_iff.2 hl
    refine wpList_append_lies w hgd s x t ho base e i z 1 bytes ht hi hz hsize hby hzs (by decide) v n xs hs hown ⟨b, off, none⟩ l.length c (l.map f) hx (by simp) hR.src (by intro u hu; simp at hu; obtain ⟨y, _, rfl⟩ := hu; exact hone y) hlen h63 hbytes hbase w.heap.size rfl ?_
    intro g cap w' h1 h2 h3 h4
    refine h _ w' h1 (Own1.grown h2 ?_)
    rcases h3 with h3 | h3
    · exact .inl h3
    · right; intro g' hg'; simp [Value.ownBlock] at hg'; omega
end
end Go.Proofs.Ytinbdpfjpcgikaa

namespace Go.Proofs.Ytinbdpfjpcgikaa
open Go Go.RowKit
set_option linter.unusedVariables false
set_option linter.unusedSimpArgs false

def flatG (l : List Rl) : List Value := l.flatMap rlCells
theorem rlCells_len (c : Rl) : (rlCells c).length = 4 := rfl
theorem flatG_nil : flatG [] = [] := rfl
theorem flatG_cons (c : Rl) (l : List Rl) : flatG (c :: l) = rlCells c ++ flatG l := by simp [flatG]
theorem flatG_app (a b : List Rl) : flatG (a ++ b) = flatG a ++ flatG b := by simp [flatG]
theorem flatG_len (l : List Rl) : (flatG l).length = l.length * 4 := by
  induction l with
  | nil => rfl
  | cons c l ih => rw [flatG_cons, List.length_append, ih, rlCells_len, List.length_cons]; omega
theorem flatG_at {l : List Rl} {k : Nat} {x : Rl} (h : l[k]? = some x) (j : Nat) (hj : j < 4) : (flatG l)[k * 4 + j]? = (rlCells x)[j]? := by
  induction l generalizing k with
  | nil => simp at h
  | cons y l ih =>
    rw [flatG_cons]
    cases k with
    | zero =>
      simp at h; subst h
      rw [List.getElem?_append_left (by rw [rlCells_len]; omega)]
      simp
    | succ k =>
      simp at h
      rw [List.getElem?_append_right (by rw [rlCells_len]; omega), ← ih h, rlCells_len]
      congr 1
      omega
theorem flatG_one (l : List Rl) : ∀ u ∈ flatG l, u.oneCell' = true := by
  intro u hu
  unfold flatG at hu
  obtain ⟨c, _, hc⟩ := List.mem_flatMap.1 hu
  simp only [rlCells, List.mem_cons, List.not_mem_nil, or_false] at hc
  rcases hc with rfl | rfl | rfl | rfl <;> rfl
theorem flatG_take (l : List Rl) (k : Nat) : (flatG l).take (k * 4) = flatG (l.take k) := by
  by_cases h : k ≤ l.length
  · have e : flatG l = flatG (l.take k) ++ flatG (l.drop k) := by rw [← flatG_app, List.take_append_drop]
    rw [e, List.take_append_of_le_length (by rw [flatG_len, List.length_take]; omega), List.take_of_length_le (by rw [flatG_len, List.length_take]; omega)]
  · rw [List.take_of_length_le (by rw [flatG_len]; omega), List.take_of_length_le (by omega)]
theorem flatG_drop (l : List Rl) (k : Nat) : (flatG l).drop (k * 4) = flatG (l.drop k) := by
  by_cases h : k ≤ l.length
  · have e : flatG l = flatG (l.take k) ++ flatG (l.drop k) := by rw [← flatG_app, List.take_append_drop]
    rw [e, List.drop_append_of_le_length (by rw [flatG_len, List.length_take]; omega), List.drop_of_length_le (by rw [flatG_len, List.length_take]; omega), List.nil_append]
  · rw [List.drop_of_length_le (by rw [flatG_len]; omega), List.drop_of_length_le (by omega)]; rfl
/-- Where a row of the call's own lies. -/
def OwnG (w : World) (base : Nat) (A : Option Addr) (c : Nat) (l : List Rl) : Prop := w.ownsRow base 35 4 (.slice A l.length c) l.length (flatG l)
theorem OwnG.in_ {w : World} {base : Nat} {A : Option Addr} {c : Nat} {l : List Rl} (h : OwnG w base A c l) : RdG w A c l := by
  have hc := own_cap h
  refine ⟨fun hl => ?_, hc.1, hc.2⟩
  rcases h.2 with ⟨hv, hn⟩ | ⟨g, cap, cur, hv, hb, hg, hnc, hcm, hcs, ht⟩
  · exact absurd (List.eq_nil_of_length_eq_zero hn) hl
  · injection hv with h1 h2 h3
    subst h1
    refine ⟨g, 0, rfl, (Array.getElem?_eq_some_iff.1 hg).1, fun k e hk j u hu => ?_⟩
    have hj : j < 4 := (List.getElem?_eq_some_iff.1 hu).1
    have hf := flatG_at hk j hj
    rw [hu] at hf
    have := h.cells (g := g) rfl (k * 4 + j) _ hf
    rw [← this]
    congr 1
    unfold Addr.add; split <;> simp_all <;> omega
theorem OwnG.on {w w' : World} {base : Nat} {A : Option Addr} {c : Nat} {l : List Rl} (h : OwnG w base A c l) (hb : Below w.heap.size w w') : OwnG w' base A c l := own_below h hb
theorem OwnG.cap {w : World} {base : Nat} {A : Option Addr} {c : Nat} {l : List Rl} (h : OwnG w base A c l) : l.length ≤ c ∧ c ≤ maxLen := own_cap h
theorem OwnG.at_ {w : World} {base : Nat} {A : Option Addr} {c : Nat} {l : List Rl} (h : OwnG w base A c l) (hl : l ≠ []) : ∃ g, A = some ⟨g, 0, none⟩ ∧ base ≤ g ∧ g < w.heap.size ∧ ∀ i, w.frozen? ⟨g, i, none⟩ = false := by
  rcases h.2 with ⟨hv, hn⟩ | ⟨g, cap, cur, hv, hb, hg, hnc, hcm, hcs, ht⟩
  · exact absurd (List.eq_nil_of_length_eq_zero hn) hl
  · injection hv with h1 h2 h3
    exact ⟨g, h1, hb, (Array.getElem?_eq_some_iff.1 hg).1, fun i => frozen_of_row w g i cur _ hg⟩
/-- A whole row is stored: four cells, one by one. -/
def putG (w : World) (g k : Nat) (x : Rl) : World :=
  (((w.setCell ⟨g, k * 4, none⟩ (.slice x.A x.r.cs.length x.c)).setCell ⟨g, k * 4 + 1, none⟩ (.bool x.r.wrap)).setCell ⟨g, k * 4 + 2, none⟩ (.int .i64 x.r.dir)).setCell ⟨g, k * 4 + 3, none⟩ (.bool x.r.ex)
theorem flatG_set {l : List Rl} {k : Nat} {x : Rl} (hk : k < l.length) :
    ((((flatG l).set (k * 4) (.slice x.A x.r.cs.length x.c)).set (k * 4 + 1) (.bool x.r.wrap)).set (k * 4 + 2) (.int .i64 x.r.dir)).set (k * 4 + 3) (.bool x.r.ex) = flatG (l.set k x) := by
  have e : l = l.take k ++ l[k] :: l.drop (k + 1) := by
    rw [← List.drop_eq_getElem_cons hk, List.take_append_drop]
  have hlen : (flatG (l.take k)).length = k * 4 := by rw [flatG_len, List.length_take]; omega
  have e2 : l.set k x = l.take k ++ x :: l.drop (k + 1) := by
    rw [List.set_eq_take_append_cons_drop, if_pos hk]
  rw [e2]
  conv => lhs; rw [e]
  rw [flatG_app, flatG_app, flatG_cons, flatG_cons]
  have h7 : ∀ (j : Nat) (v : Value) (t : List Value), (flatG (l.take k) ++ t).set (k * 4 + j) v = flatG (l.take k) ++ t.set j v := fun j v t => by
    rw [List.set_append_right _ _ (by omega), hlen]
    congr 2
    omega
  have h70 : ∀ (v : Value) (t : List Value), (flatG (l.take k) ++ t).set (k * 4) v = flatG (l.take k) ++ t.set 0 v := fun v t => h7 0 v t
  rw [h70, h7, h7, h7]
  simp [rlCells]
theorem OwnG.put {w : World} {base g c : Nat} {l : List Rl} (h : OwnG w base (some ⟨g, 0, none⟩) c l) {k : Nat} (hk : k < l.length) (x : Rl) : OwnG (putG w g k x) base (some ⟨g, 0, none⟩) c (l.set k x) := by
  unfold OwnG at h ⊢
  rw [List.length_set, ← flatG_set hk]
  unfold putG
  exact own_set (own_set (own_set (own_set h (by omega) _) (by omega) _) (by omega) _) (by omega) _
theorem putG_below {w0 w : World} {B g k : Nat} {x : Rl} (h : Below B w0 w) (hg : B ≤ g) : Below B w0 (putG w g k x) := by
  unfold putG
  exact (((h.setCell (p := ⟨g, k * 4, none⟩) hg _).setCell (p := ⟨g, k * 4 + 1, none⟩) hg _).setCell (p := ⟨g, k * 4 + 2, none⟩) hg _).setCell (p := ⟨g, k * 4 + 3, none⟩) hg _
/-- One field of a cell is stored. -/
theorem OwnG.set1 {w : World} {base g c : Nat} {l : List Rl} (h : OwnG w base (some ⟨g, 0, none⟩) c l) {k : Nat} {y x : Rl} (hk : l[k]? = some y) (j : Nat) (hj : j < 4) (v : Value) (e : (rlCells y).set j v = rlCells x) :
    OwnG (w.setCell ⟨g, k * 4 + j, none⟩ v) base (some ⟨g, 0, none⟩) c (l.set k x) := by
  obtain ⟨hlt, hy⟩ := List.getElem?_eq_some_iff.1 hk
  unfold OwnG at h ⊢
  have := own_set h (j := k * 4 + j) (by omega) v
  rw [List.length_set]
  have e1 : l = l.take k ++ l[k] :: l.drop (k + 1) := by
    rw [← List.drop_eq_getElem_cons hlt, List.take_append_drop]
  have hlen : (flatG (l.take k)).length = k * 4 := by rw [flatG_len, List.length_take]; omega
  have e2 : flatG (l.set k x) = (flatG l).set (k * 4 + j) v := by
    rw [List.set_eq_take_append_cons_drop, if_pos hlt, flatG_app, flatG_cons, ← e]
    conv => rhs; rw [e1]
    rw [flatG_app, flatG_cons, hy, List.set_append_right _ _ (by omega), hlen, show k * 4 + j - k * 4 = j from by omega, List.set_append_left _ _ (by rw [rlCells_len]; omega)]
  rw [e2]
  exact this
theorem OwnG.box {w : World} {base g : Nat} {A : Option Addr} {c : Nat} {l : List Rl} {t : TypeId} {cs : Array Value} (h : OwnG w base A c l) (hb : Box w g t cs) (hne : 35 ≠ t) : (Value.slice A l.length c).ownBlock ≠ some g := by
  intro hg
  rcases h.2 with ⟨hv, _⟩ | ⟨g', cap, cur, hv, _, hg2, _⟩
  · rw [hv] at hg; simp [Value.ownBlock] at hg
  · rw [hv] at hg; simp [Value.ownBlock] at hg; subst hg
    rw [hb] at hg2
    injection hg2 with hg2; injection hg2 with _ h2
    exact hne h2.symm
/- made -/
def zeroG : Rl := ⟨none, 0, ⟨[], false, 0, false⟩⟩
theorem infoRowG : (Try.prog.info? 35).map (fun i => (i.zero, i.size, i.bytes)) = some (some (.agg #[.slice none 0 0, .bool false, .int .i64 0, .bool false]), 4, 48) := by kernel_rfl
theorem made_rows (n : Nat) : (madeCells #[.slice none 0 0, .bool false, .int .i64 0, .bool false] (n * 4)).toList = flatG (List.replicate n zeroG) := by
  apply List.ext_getElem?
  intro i
  by_cases hi : i < n * 4
  · have e : i = i / 4 * 4 + i % 4 := by omega
    have h1 : (List.replicate n zeroG)[i / 4]? = some zeroG := by
      rw [List.getElem?_replicate, if_pos (by omega)]
    have h2 := flatG_at h1 (i % 4) (by omega)
    rw [← e] at h2
    rw [h2]
    have h3 : (madeCells #[.slice none 0 0, .bool false, .int .i64 0, .bool false] (n * 4)).toList[i]? = some (#[Value.slice none 0 0, .bool false, .int .i64 0, .bool false][i % 4]!) := by
      simp [madeCells, hi]
    rw [h3]
    have h4 : i % 4 < 4 := by omega
    generalize i % 4 = j at *
    match j, h4 with
    | 0, _ => rfl
    | 1, _ => rfl
    | 2, _ => rfl
    | 3, _ => rfl
  · rw [List.getElem?_eq_none (by simp [madeCells]; omega), List.getElem?_eq_none (by rw [flatG_len]; simp; omega)]
section
variable {w : World} {ops : Array Oper} {rest : List Oper} {o : Oper} {a : Act} {Q : Exit → Act → World → Prop}
/-- make([]api.Cell, n). -/
theorem wpList_make_rows (hg : o.guard = none) (x y : Operand) (hop : o.op = Op.makeSlice 22 x y) (base n : Nat) (kl kc : IntKind) (L C : Int) (hl : a.eval x = .int kl L) (hc : a.eval y = .int kc C) (hL : L = (n : Int)) (hC : C = (n : Int)) (hn : n ≤ 1000000) (hb : base ≤ w.heap.size)
    (hK : ∀ w', OwnG w' base (some ⟨w.heap.size, 0, none⟩) n (List.replicate n zeroG) → Below w.heap.size w w' → wpList Try.prog ops Q rest (a.put o.dst (.slice (some ⟨w.heap.size, 0, none⟩) n n)) w') : wpList Try.prog ops Q (o :: rest) a w := by
  obtain ⟨i0, hi, hz0, hz1, hz2⟩ := info_parts infoRowG
  refine wpList_make_full w hg x y 22 hop base 35 i0 _ 4 Try.underlying22 hi hz0 hz1 kl kc L C n hl hc hL hC (by rw [hz2]; omega) (by unfold maxLen; omega) hb fun w' h1 h2 => hK w' ?_ ⟨h2.os, h2.tape, h2.output, h2.size, fun k hk => h2.block k hk (by simp)⟩
  unfold OwnG
  rw [← made_rows, List.length_replicate]
  exact h1
end
/- copied -/
theorem run_copy_rows (w : World) (dT sT ty : TypeId) (g o dLen dCap : Nat) (a : Addr) (sLen sCap : Nat) (cur : Array Value) (t : TypeId) (cs : List Value) (hu : Try.prog.underlying dT = some (.slice 35))
    (hg : w.heap[g]? = some (.cells cur t (0, 0))) (hn : cs.length = Nat.min sLen dLen * 4)
    (hsrc : ∀ j v, cs[j]? = some v → w.cell? (a.add j) = some v) (hfit : o + cs.length ≤ cur.size) (h1 : ∀ v ∈ cs, v.oneCell' = true) :
    (Builtin.copy_ #[dT, sT] ty #[.slice (some ⟨g, o, none⟩) dLen dCap, .slice (some a) sLen sCap]).run Try.prog w =
      .ok (goInt (Nat.min sLen dLen)) (w.setRow g (cur.toList.take o ++ cs ++ cur.toList.drop (o + cs.length)).toArray) := by
  obtain ⟨i0, hi, hz0, hz1, hz2⟩ := info_parts infoRowG
  have hl := run_loadCells_list (P := Try.prog) w a cs hsrc
  have hst := run_storeCells_at Try.prog g o t cs 0 cur w hg (by simpa using hfit) h1
  rw [hn] at hl
  simp [Builtin.copy_, run_underlying hu, Builtin.lenOf, Builtin.firstCells, sizeOf, typeInfo, hi, hz1, hl, hst]
theorem run_copy_rows0 (w : World) (dT sT ty : TypeId) (d a : Option Addr) (dLen dCap sLen sCap : Nat) (hu : Try.prog.underlying dT = some (.slice 35)) (hn : Nat.min sLen dLen = 0) :
    (Builtin.copy_ #[dT, sT] ty #[.slice d dLen dCap, .slice a sLen sCap]).run Try.prog w = .ok (goInt 0) w := by
  obtain ⟨i0, hi, hz0, hz1, hz2⟩ := info_parts infoRowG
  have hl : ∀ (x : Addr), (loadCells x 0).run Try.prog w = .ok #[] w := fun x => by simpa using run_loadCells_list (P := Try.prog) w x [] (by simp)
  cases d <;> cases a <;> simp [Builtin.copy_, run_underlying hu, Builtin.lenOf, Builtin.firstCells, sizeOf, typeInfo, hi, hz1, hn, storeCells, hl]
theorem take_spliceG {α : Type} (L cs : List α) (a N : Nat) (h : a + cs.length ≤ N) (hN : N ≤ L.length) : (L.take a ++ cs ++ L.drop (a + cs.length)).take N = (L.take N).take a ++ cs ++ (L.take N).drop (a + cs.length) := by
  have hla : (L.take a ++ cs).length = a + cs.length := by rw [List.length_append, List.length_take]; omega
  rw [List.take_append, List.take_of_length_le (by omega), hla, List.take_take, Nat.min_eq_left (by omega), List.drop_take]
/-- What stands behind a copy of src over l from place k on. -/
def copyG (l : List Rl) (k m : Nat) (src : List Rl) : List Rl := l.take k ++ src.take m ++ l.drop (k + m)
theorem copyG_len (l : List Rl) (k m : Nat) (src : List Rl) (h : k + m ≤ l.length) (h2 : m ≤ src.length) : (copyG l k m src).length = l.length := by
  unfold copyG; simp only [List.length_append, List.length_take, List.length_drop]; omega
theorem RdG.src {w : World} {A : Option Addr} {c : Nat} {l : List Rl} (h : RdG w A c l) {ad : Addr} (ha : A = some ad) : ∀ j v, (flatG l)[j]? = some v → w.cell? (ad.add j) = some v := by
  intro j v hj
  have hlt : j < l.length * 4 := by
    have := (List.getElem?_eq_some_iff.1 hj).1
    rwa [flatG_len] at this
  obtain ⟨x, hx⟩ : ∃ x, l[j / 4]? = some x := ⟨_, List.getElem?_eq_getElem (by omega)⟩
  obtain ⟨b, o, e, _, hc⟩ := h.rd (by rintro rfl; simp at hx)
  rw [ha] at e
  injection e with e
  subst e
  have h2 := flatG_at hx (j % 4) (by omega)
  rw [show j / 4 * 4 + j % 4 = j from by omega, hj] at h2
  have h3 := hc _ x hx (j % 4) v h2.symm
  rw [← h3]
  have ea : (⟨b, o, none⟩ : Addr).add j = ⟨b, o + j, none⟩ := by unfold Addr.add; split <;> simp_all
  rw [ea, show o + j / 4 * 4 + j % 4 = o + j from by omega]
section
variable {w : World} {ops : Array Oper} {rest : List Oper} {o : Oper} {a : Act} {Q : Exit → Act → World → Prop}
/-- copy(dst[k:..], src): dst lies in a row of the call's own. -/
theorem wpList_copy_rows (hgd : o.guard = none) (d s : Operand) (ho : o.op = .call { callee := .builtin .copy, args := #[d, s], argTypes := #[22, 22] })
    (base c g : Nat) (l : List Rl) (hown : OwnG w base (some ⟨g, 0, none⟩) c l) (k m : Nat) (dp : Option Addr) (dLen dCap : Nat) (hd : a.eval d = .slice dp dLen dCap)
    (A : Option Addr) (c' : Nat) (src : List Rl) (n' : Nat) (hs : a.eval s = .slice A n' c') (hn' : n' = src.length) (hin : RdG w A c' src) (hm : Nat.min src.length dLen = m) (hk : k + m ≤ l.length) (hdp : 0 < m → dp = some ⟨g, k * 4, none⟩)
    (h : ∀ w', OwnG w' base (some ⟨g, 0, none⟩) c (copyG l k m src) → Own1 w w' (.slice (some ⟨g, 0, none⟩) l.length c) (.slice (some ⟨g, 0, none⟩) l.length c) → wpList Try.prog ops Q rest (a.put o.dst (goInt m)) w') : wpList Try.prog ops Q (o :: rest) a w := by
  subst hn'
  by_cases h0 : m = 0
  · subst h0
    have hrun := run_copy_rows0 w 22 22 o.type dp A dLen dCap src.length c' Try.underlying22 hm
    refine wpList_plain hgd fun K hK => ?_
    unfold Oper.wp
    simp [execOp, ho, resolve, invoke, builtin, hd, hs, hrun, Result.andThen]
    refine hK _ _ (h w ?_ (Own1.refl _ _))
    have : copyG l k 0 src = l := by unfold copyG; simp
    rw [this]; exact hown
  · have hms : m ≤ src.length := by rw [← hm]; exact Nat.min_le_left _ _
    obtain rfl := hdp (by omega)
    obtain ⟨b, of, ha, hbl, _⟩ := hin.rd (by rintro rfl; simp at hms; omega)
    have hin' : RdG w A c' (src.take m) := by
      refine ⟨fun hl => ?_, by rw [List.length_take]; have := hin.cap; omega, hin.max⟩
      obtain ⟨b, o, e, hB, hc⟩ := hin.rd (by rintro rfl; simp at hl)
      refine ⟨b, o, e, hB, fun k x hx => hc k x ?_⟩
      rw [List.getElem?_take] at hx
      split at hx
      · exact hx
      · cases hx
    rcases hown.2 with ⟨hv, hn⟩ | ⟨g', cap, cur, hv, hb, hg, hnc, hcm, hcs, ht⟩
    · injection hv with hv; cases hv
    · injection hv with h1 h2 h3
      injection h1 with h1; injection h1 with h1; subst h1; subst h3
      have hlen : (flatG (src.take m)).length = m * 4 := by rw [flatG_len, List.length_take]; omega
      have hrun := run_copy_rows w 22 22 o.type g (k * 4) dLen dCap ⟨b, of, none⟩ src.length c' cur 35 (flatG (src.take m)) Try.underlying22 hg (by rw [hlen, hm]) (hin'.src ha) (by rw [hlen, hcs]; omega) (flatG_one _)
      rw [hm] at hrun
      subst ha
      refine wpList_plain hgd fun K hK => ?_
      unfold Oper.wp
      simp [execOp, ho, resolve, invoke, builtin, hd, hs, hrun, Result.andThen]
      refine hK _ _ (h _ ⟨?_, .inr ⟨g, c, _, ?_, hb, setRow_heap w g cur _ 35 _ hg, ?_, hcm, ?_, ?_⟩⟩ ⟨⟨rfl, rfl, rfl, by simp [World.setRow], fun k' hk' hne => setRow_other w g k' _ (fun e => hne (by rw [e]; rfl))⟩, .inl rfl⟩)
      · rw [flatG_len, copyG_len l k m src hk hms]
      · rw [copyG_len l k m src hk hms]
      · rw [copyG_len l k m src hk hms]; exact hnc
      · simp only [List.size_toArray, List.length_append, List.length_take, List.length_drop, hlen, Array.length_toList]; omega
      · rw [copyG_len l k m src hk hms]
        show List.take (l.length * 4) (cur.toList.take (k * 4) ++ (flatG (src.take m) ++ cur.toList.drop (k * 4 + (flatG (src.take m)).length))) = _
        rw [← List.append_assoc]
        have hcl : cur.toList.length = c * 4 := by simpa using hcs
        have hN : l.length * 4 ≤ cur.toList.length := by omega
        have hN2 : k * 4 + (flatG (src.take m)).length ≤ l.length * 4 := by rw [hlen]; omega
        rw [take_spliceG _ _ _ _ hN2 hN, ht, flatG_take, hlen, show k * 4 + m * 4 = (k + m) * 4 from by omega, flatG_drop]
        unfold copyG
        rw [flatG_app, flatG_app]
/- appended -/
theorem run_append_rows0 (base : Nat) (t ty : TypeId) (ht : Try.prog.underlying t = some (.slice 35)) (v : Value) (n : Nat) (xs : List Value) (hown : w.ownsRow base 35 4 v n xs) (A : Option Addr) (c : Nat) :
    (Builtin.append_ #[t, t] ty #[v, .slice A 0 c]).run Try.prog w = .ok v w := by
  obtain ⟨i0, hi, hz0, hz1, hz2⟩ := info_parts infoRowG
  exact run_append_zero (P := Try.prog) (w := w) base t ty 35 i0 4 ht hi v n xs hown A c
theorem wpList_append_rows (hgd : o.guard = none) (s x : Operand) (ho : o.op = .call { callee := .builtin .append, args := #[s, x], argTypes := #[22, 22] })
    (base c : Nat) (B : Option Addr) (l : List Rl) (n : Nat) (hs : a.eval s = .slice B n c) (hnl : n = l.length) (hown : OwnG w base B c l)
    (A : Option Addr) (c' : Nat) (src : List Rl) (n' : Nat) (hx : a.eval x = .slice A n' c') (hn' : n' = src.length) (hin : RdG w A c' src) (hb : l.length + src.length ≤ 1000000) (hbase : base ≤ w.heap.size)
    (h : ∀ B' d w', OwnG w' base B' d (l ++ src) → Own1 w w' (.slice B l.length c) (.slice B' (l ++ src).length d) → wpList Try.prog ops Q rest (a.put o.dst (.slice B' (l ++ src).length d)) w') : wpList Try.prog ops Q (o :: rest) a w := by
  obtain ⟨i0, hi, hz0, hz1, hz2⟩ := info_parts infoRowG
  subst hnl hn'
  by_cases hl : src = []
  · subst hl
    have hrun := run_append_rows0 (w := w) base 22 o.type Try.underlying22 _ _ _ hown A c'
    refine wpList_plain hgd fun K hK => ?_
    have hx' : a.eval x = .slice A 0 c' := hx
    unfold Oper.wp
    simp [execOp, ho, resolve, invoke, builtin, hs, hx', hrun, Result.andThen]
    have := h B c w (by simpa using hown) (by simpa using Own1.refl _ _)
    refine hK _ _ (by simpa using this)
  · obtain ⟨b, off, ha, hb', hc⟩ := hin.rd hl
    have hsrc := hin.src ha
    subst ha
    have hlen : 0 < src.length := List.length_pos_iff.2 hl
    refine wpList_append_lies w hgd s x 22 ho base 35 i0 _ 4 48 Try.underlying22 hi hz0 hz1 hz2 rfl (by decide) _ l.length (flatG l) hs hown ⟨b, off, none⟩ src.length c' (flatG src) hx (flatG_len _) hsrc (flatG_one _) hlen (by unfold maxLen; omega) (by omega) hbase w.heap.size rfl ?_
    intro g cap w' h1 h2 h3 h4
    have := h (some ⟨g, 0, none⟩) cap w' (by unfold OwnG; rw [List.length_append, flatG_app]; exact h1) (Own1.grown h2 ?_)
    · rwa [List.length_append] at this
    · rcases h3 with h3 | h3
      · exact .inl h3
      · right; intro g' hg'; simp [Value.ownBlock] at hg'; omega
end
end Go.Proofs.Ytinbdpfjpcgikaa

namespace Go.Proofs.Ytinbdpfjpcgikaa
open Go Go.RowKit
set_option linter.unusedVariables false
set_option linter.unusedSimpArgs false

theorem infoRow4 : (Try.prog.info? 35).map (·.size) = some 4 := by kernel_rfl
theorem elemRows : Try.prog.elem 22 = 35 := by simp [Program.elem, Try.underlying22]
theorem sizeRow (V : World) : (sizeOf (Try.prog.elem 22)).run Try.prog V = .ok 4 V := by
  rw [elemRows]
  have hi := infoRow4
  cases hq : Try.prog.info? 35 with
  | none => rw [hq] at hi; simp at hi
  | some j =>
    rw [hq] at hi
    simp at hi
    simp [sizeOf, typeInfo, hq, hi]
theorem undRows : Try.prog.underlying 22 = some (.slice (Try.prog.elem 22)) := by
  rw [elemRows]; exact Try.underlying22
theorem cutG_lh (A : Option Addr) (n c a b : Nat) (h1 : a ≤ b) (h2 : b ≤ c) (V : World) :
    (Instr.sliceAt 22 (.slice A n c) (some (.int .i64 (a : Int))) (some (.int .i64 (b : Int))) none).run Try.prog V = .ok (.slice (if c = a then A else A.map (·.add (a * 4))) (b - a) (c - a)) V := by
  rw [run_sliceAt_slice V _ _ _ _ _ undRows, run_slice_lh V _ A n c undRows .i64 .i64 a b (by omega) (by omega) (by omega), sizeRow]
  simp [sliced, Result.andThen]
/-- A reslice of rows, as one value. -/
theorem InG.cut {w : World} {A : Option Addr} {c : Nat} {l : List Rl} (h : InG w A c l) {a b : Nat} (h1 : a ≤ b) (h2 : b ≤ l.length) :
    ∃ B d, (∀ V, (Instr.sliceAt 22 (.slice A l.length c) (some (.int .i64 (a : Int))) (some (.int .i64 (b : Int))) none).run Try.prog V = .ok (.slice B (b - a) d) V) ∧ InG w B d ((l.take b).drop a) ∧ ((l.take b).drop a).length = b - a := by
  refine ⟨_, _, fun V => ?_, (h.less b).sub a, ?_⟩
  · rw [cutG_lh A l.length c a b h1 (by have := h.rows.cap; omega)]
  · rw [List.length_drop, List.length_take, Nat.min_eq_left h2]
theorem empty_ownG (W : World) (b : Nat) (hb : b ≤ W.heap.size) : OwnG (W.alloc (.cells #[] 35)) b (some ⟨W.heap.size, 0, none⟩) 0 [] :=
  ⟨rfl, .inr ⟨W.heap.size, 0, #[], rfl, hb, heap_alloc_new W _, Nat.le_refl _, by simp [maxLen], rfl, rfl⟩⟩
theorem nil_ownG (W : World) (b : Nat) : OwnG W b none 0 [] := ⟨rfl, .inl ⟨rfl, rfl⟩⟩
theorem OwnG.le {w : World} {base b : Nat} {A : Option Addr} {c : Nat} {l : List Rl} (h : OwnG w base A c l) (hb : b ≤ base) : OwnG w b A c l := own_le h hb
/-- A row whose cells don't lie in block g. -/
def FarG (g : Nat) (e : Rl) : Prop := e.r.cs ≠ [] → ∀ b o, e.A = some ⟨b, o, none⟩ → b ≠ g
theorem InC.storeG {W : World} {A : Option Addr} {c : Nat} {l : List Cl} (h : InC W A c l) {g : Nat} (hne : l ≠ [] → ∀ b o, A = some ⟨b, o, none⟩ → b ≠ g) (k : Nat) (x : Rl) : InC (putG W g k x) A c l := by
  refine ⟨fun hl => ?_, h.cap, h.max⟩
  obtain ⟨b, o, e, hB, hc⟩ := h.rd hl
  have hn := hne hl b o e
  have hstep : ∀ (V : World) (i : Nat) (v : Value) (q : Nat), (V.setCell ⟨g, i, none⟩ v).cell? ⟨b, q, none⟩ = V.cell? ⟨b, q, none⟩ := fun V i v q => by
    have := Below.heap_setCell V ⟨g, i, none⟩ v b (by simpa using hn)
    unfold World.cell?
    simp only [this]
  refine ⟨b, o, e, by unfold putG; simpa using hB, fun k' x' hx j u hu => ?_⟩
  rw [← hc k' x' hx j u hu]
  unfold putG
  rw [hstep, hstep, hstep, hstep]
theorem FarG.old {w : World} {g : Nat} {e : Rl} (h : InC w e.A e.c e.r.cs) (hg : w.heap.size ≤ g) : FarG g e := fun hl b o he => by
  obtain ⟨b', o', e', hB, _⟩ := h.rd hl
  rw [he] at e'
  injection e' with e'
  injection e' with e1
  omega
theorem cell_far (V : World) (g i : Nat) (v : Value) (b q : Nat) (hn : b ≠ g) : (V.setCell ⟨g, i, none⟩ v).cell? ⟨b, q, none⟩ = V.cell? ⟨b, q, none⟩ := by
  have := Below.heap_setCell V ⟨g, i, none⟩ v b (by simpa using hn)
  unfold World.cell?
  simp only [this]
/-- A small box is stored to: cells and rows in memory stay. -/
theorem InC.far1 {W : World} {A : Option Addr} {c g : Nat} {l : List Cl} {t : TypeId} {cs : Array Value} (h : InC W A c l) (hb : Box W g t cs) (hcs : cs.size ≤ 3) (i : Nat) (v : Value) : InC (W.setCell ⟨g, i, none⟩ v) A c l := by
  refine ⟨fun hl => ?_, h.cap, h.max⟩
  obtain ⟨b, o, e, hB, hc⟩ := h.rd hl
  have hn : b ≠ g := by
    rintro rfl
    obtain ⟨x, m, rfl⟩ := List.exists_cons_of_ne_nil hl
    have h6 := hc 0 x rfl 6 _ rfl
    rw [hb.cell, Array.getElem?_eq_none (by omega)] at h6
    cases h6
  refine ⟨b, o, e, by simpa using hB, fun k x hx j u hu => ?_⟩
  rw [← hc k x hx j u hu, cell_far _ _ _ _ _ _ hn]
theorem RdG.far1 {W : World} {A : Option Addr} {c g : Nat} {l : List Rl} {t : TypeId} {cs : Array Value} (h : RdG W A c l) (hb : Box W g t cs) (hcs : cs.size ≤ 3) (i : Nat) (v : Value) : RdG (W.setCell ⟨g, i, none⟩ v) A c l := by
  refine ⟨fun hl => ?_, h.cap, h.max⟩
  obtain ⟨b, o, e, hB, hc⟩ := h.rd hl
  have hn : b ≠ g := by
    rintro rfl
    obtain ⟨x, m, rfl⟩ := List.exists_cons_of_ne_nil hl
    have h6 := hc 0 x rfl 3 _ rfl
    rw [hb.cell, Array.getElem?_eq_none (by omega)] at h6
    cases h6
  refine ⟨b, o, e, by simpa using hB, fun k x hx j u hu => ?_⟩
  rw [← hc k x hx j u hu, cell_far _ _ _ _ _ _ hn]
theorem InG.far1 {W : World} {A : Option Addr} {c g : Nat} {l : List Rl} {t : TypeId} {cs : Array Value} (h : InG W A c l) (hb : Box W g t cs) (hcs : cs.size ≤ 3) (i : Nat) (v : Value) : InG (W.setCell ⟨g, i, none⟩ v) A c l :=
  ⟨h.rows.far1 hb hcs i v, fun e he => (h.els e he).far1 hb hcs i v⟩
/-- Rows of the call's own, whole. -/
structure OwnH (w : World) (base g d : Nat) (l : List Rl) : Prop where
  own : OwnG w base (some ⟨g, 0, none⟩) d l
  els : ∀ e ∈ l, InC w e.A e.c e.r.cs ∧ FarG g e
theorem OwnH.on {w w' : World} {base g d : Nat} {l : List Rl} (h : OwnH w base g d l) (hb : Below w.heap.size w w') : OwnH w' base g d l := ⟨h.own.on hb, fun e he => ⟨(h.els e he).1.on hb, (h.els e he).2⟩⟩
theorem OwnH.in_ {w : World} {base g d : Nat} {l : List Rl} (h : OwnH w base g d l) : InG w (some ⟨g, 0, none⟩) d l := ⟨h.own.in_, fun e he => (h.els e he).1⟩
theorem OwnH.put {w : World} {base g d : Nat} {l : List Rl} (h : OwnH w base g d l) {k : Nat} (hk : k < l.length) {x : Rl} (hx : InC w x.A x.c x.r.cs) (hf : FarG g x) : OwnH (putG w g k x) base g d (l.set k x) := by
  refine ⟨h.own.put hk x, fun e he => ?_⟩
  rcases List.mem_or_eq_of_mem_set he with h1 | h1
  · exact ⟨(h.els e h1).1.storeG (h.els e h1).2 k x, (h.els e h1).2⟩
  · subst h1; exact ⟨hx.storeG hf k _, hf⟩
theorem OwnH.base_le {w : World} {base g d : Nat} {l : List Rl} (h : OwnH w base g d l) : base ≤ g ∧ g < w.heap.size := by
  have := own_block h.own (g := g) rfl
  exact this
theorem OwnH.cells {w : World} {base g d : Nat} {l : List Rl} (h : OwnH w base g d l) {k : Nat} {e : Rl} (hk : l[k]? = some e) :
    (w.frozen? ⟨g, k * 4, none⟩ = false ∧ w.frozen? ⟨g, k * 4 + 1, none⟩ = false ∧ w.frozen? ⟨g, k * 4 + 2, none⟩ = false ∧ w.frozen? ⟨g, k * 4 + 3, none⟩ = false) ∧
    (w.cell? ⟨g, k * 4, none⟩ = some (.slice e.A e.r.cs.length e.c) ∧ w.cell? ⟨g, k * 4 + 1, none⟩ = some (.bool e.r.wrap) ∧ w.cell? ⟨g, k * 4 + 2, none⟩ = some (.int .i64 e.r.dir) ∧ w.cell? ⟨g, k * 4 + 3, none⟩ = some (.bool e.r.ex)) := by
  obtain ⟨g', e1, _, _, hf⟩ := h.own.at_ (by rintro rfl; simp at hk)
  injection e1 with e1
  injection e1 with e1
  subst e1
  obtain ⟨b, o, e2, _, hc⟩ := h.own.in_.at_ hk
  injection e2 with e2
  injection e2 with e2 e3
  subst e2; subst e3
  simp only [Nat.zero_add] at hc
  exact ⟨⟨hf _, hf _, hf _, hf _⟩, hc⟩
end Go.Proofs.Ytinbdpfjpcgikaa

namespace Go.Proofs.Ytinbdpfjpcgikaa
open Go Go.RowKit
set_option linter.unusedVariables false
set_option linter.unusedSimpArgs false

theorem cutG_l (A : Option Addr) (n c M : Nat) (hM : M ≤ n) (V : World) :
    (Instr.sliceAt 22 (.slice A n c) (some (.int .i64 (M : Int))) none none).run Try.prog V = .ok (.slice (if c = M then A else A.map (·.add (M * 4))) (n - M) (c - M)) V := by
  rw [run_sliceAt_slice V _ _ _ _ _ undRows, run_slice_l V _ A n c undRows .i64 M (by omega) (by omega), sizeRow]
  simp [sliced, Result.andThen]
theorem cutG_h (A : Option Addr) (n c b : Nat) (h2 : b ≤ c) (V : World) :
    (Instr.sliceAt 22 (.slice A n c) none (some (.int .i64 (b : Int))) none).run Try.prog V = .ok (.slice A b c) V := by
  rw [run_sliceAt_slice V _ _ _ _ _ undRows, run_slice_h V _ A n c undRows .i64 b (by omega) (by omega), sizeRow]
  simp [sliced, Result.andThen]
  intro _
  cases A with
  | none => rfl
  | some a => simp [Addr.add]
theorem InG.from_ {w : World} {A : Option Addr} {c : Nat} {l : List Rl} (h : InG w A c l) {a : Nat} (h1 : a ≤ l.length) :
    ∃ B d, (∀ V, (Instr.sliceAt 22 (.slice A l.length c) (some (.int .i64 (a : Int))) none none).run Try.prog V = .ok (.slice B (l.drop a).length d) V) ∧ InG w B d (l.drop a) := by
  refine ⟨_, _, fun V => ?_, h.sub a⟩
  rw [cutG_l A l.length c a h1, List.length_drop]
theorem InG.upto {w : World} {A : Option Addr} {c : Nat} {l : List Rl} (h : InG w A c l) {b : Nat} (h2 : b ≤ l.length) :
    (∀ V, (Instr.sliceAt 22 (.slice A l.length c) none (some (.int .i64 (b : Int))) none).run Try.prog V = .ok (.slice A (l.take b).length c) V) ∧ InG w A c (l.take b) := by
  refine ⟨fun V => ?_, h.less b⟩
  rw [cutG_h A l.length c b (by have := h.rows.cap; omega), List.length_take, Nat.min_eq_left h2]
end Go.Proofs.Ytinbdpfjpcgikaa
