/- Regions that draw their order: all but a forced tail only reads (region_tail); all operations read, and calls leave old memory as it was (region_ext). -/
import Derived.WalkKit
import Derived.BigQuiet
import Derived.BigRegion
import Derived.Deep.QuietTactic
import Derived.StillTailTactics
import Derived.Lib.Hide
import Derived.OrdersHeld
namespace Go.Proofs.Ytcadbapccdclaaa
set_option linter.unusedVariables false
set_option linter.unusedSimpArgs false
open Go Go.RowKit

section
variable {P : Program} {ops : Array Oper}
theorem still_of_quiet {w : World} {o : Oper} {a : Act} {K K' : Act → Prop} (hk : ∀ a, K a → K' a) (h : o.quiet P a (fun w' => w' = w) K) : o.still P a w K' := by
  obtain ⟨v, h1, h2⟩ := h
  have h3 := h1 w rfl
  unfold Oper.quietAt at h3
  unfold Oper.still
  generalize (execOp a.eval o).run P w = r at *
  cases r with
  | ok n w' =>
    cases n <;> simp only [Oper.quietUpon] at h3 <;> simp only [Oper.stillUpon]
    case value u =>
      obtain ⟨e1, e2⟩ := h3
      rw [e2]; exact ⟨e1, hk _ h2⟩
    case skip =>
      obtain ⟨e1, e2⟩ := h3
      rw [← e2]; exact ⟨e1, hk _ h2⟩
    case enter f args =>
      obtain ⟨e1, e2⟩ := h3
      exact ⟨e1, v, e2, hk _ h2⟩
  | halt x w' => simp only [Oper.quietUpon] at h3
theorem wpStill_of_quiet {w : World} {Q : Act → Prop} : ∀ (l : List Oper) (a : Act), wpQuiet P ops (fun w' => w' = w) Q l a → wpStill P ops w Q l a
  | [], _, h => h
  | o :: l, a, h => by
    unfold wpQuiet at h
    unfold wpStill
    split
    · rename_i hw; rw [if_pos hw] at h; exact still_of_quiet (fun a => wpStill_of_quiet l a) h
    · rename_i hw; rw [if_neg hw] at h; exact wpStill_of_quiet l _ h

theorem region_tail {id : Nat} {Q : Exit → Act → World → Prop} {a : Act} {w : World} {l : List Oper} (n : Nat) (hm : P.follows .mixedOrders = true) (hB : Region.lexTailB .any l.toArray n = true)
    (h : wpQuiet P l.toArray (fun w' => w' = w.drew) (fun a' => wpList P l.toArray Q (l.drop n) a' w.drew) (l.take n) a) : (Code.region id l.toArray true).wp P Q a w :=
  wp_region_still_tail n hm hB (wpStill_of_quiet _ _ h)

/-- A world that is as w was below block B. -/
structure Ext (w : World) (B : Nat) where
  val : World
  below : Below B w val

/-- A world of which p holds. -/
structure Has (p : World → Prop) where
  val : World
  ok : p val

instance extNe (w : World) (B : Nat) : Nonempty (Ext w B) := ⟨⟨w, Below.refl _ _⟩⟩

theorem Ext.cell {w : World} {B : Nat} {p : Addr} {v : Value} (hp : p.block < B) (h : w.cell? p = some v) : ∀ u : Ext w B, u.val.cell? p = some v :=
  fun u => (u.below.cell hp).trans h

theorem region_ext {id : Nat} {Q : Exit → Act → World → Prop} {a : Act} {w : World} {l : List Oper} (B : Nat) (hm : P.follows .mixedOrders = true) (hB : Region.lexB .any l.toArray = true)
    (h : wpQuiet P l.toArray (fun w' => ∃ u : Ext w B, w' = u.val) (fun a' => ∀ w', Below B w w' → Q .normal a' w') l a) : (Code.region id l.toArray true).wp P Q a w := by
  refine wp_region_quiet (C := fun w' => ∃ u : Ext w B, w' = u.val) hm hB ⟨⟨w.drew, (Below.refl _ _).drew⟩, rfl⟩ ?_
  have e : (fun a' => ∀ w', (∃ u : Ext w B, w' = u.val) → Q .normal a' w') = (fun a' => ∀ w', Below B w w' → Q .normal a' w') := by
    funext a'
    apply propext
    constructor
    · intro h w' hb; exact h w' ⟨⟨w', hb⟩, rfl⟩
    · rintro h w' ⟨u, rfl⟩; exact h _ u.below
  rw [e]
  simpa using h
theorem Ext.call {w : World} {B : Nat} {f : FuncId} {args : Array Value} {v : Value} (u : Ext w B) (h : Calls P f args u.val fun e w' => e = .returned v ∧ Below u.val.heap.size u.val w') (hB : B ≤ w.heap.size) :
    Calls P f args u.val fun e w' => e = .returned v ∧ ∃ u' : Ext w B, w' = u'.val :=
  h.mono fun _ w' ⟨he, hb⟩ => ⟨he, ⟨w', u.below.trans (hb.mono (Nat.le_trans hB u.below.size))⟩, rfl⟩
end

section
variable {P : Program} {ops : Array Oper}
/-- Operations whose outcome, if any, is a value. -/
def isV (o : Oper) : Bool :=
  match o.op with
  | .nilCheck _ | .move _ | .assign _ | .pick _ _ _ | .build _ _ | .load _ _ | .binOp _ _ _ _ _ | .unOp _ _ _ | .convert _ _ _ | .slice _ _ _ _ _ | .fieldAddr _ _ _ | .field _ _ _ | .indexAddr _ _ _ | .index _ _ _ | .extract _ _ => true
  | .call c => (match c.callee with | .builtin .len => true | .builtin .max => true | .builtin .min => true | _ => false)
  | _ => false

theorem isV_run {o : Oper} {ρ : Operand → Value} {w w' : World} {n : Next} (h : isV o = true) (hr : (execOp ρ o).run P w = .ok n w') : ∃ v, n = .value v := by
  have key : ∀ (s : Sem Value), (do pure (Next.value (← s)) : Sem Next).run P w = .ok n w' → ∃ v, n = .value v := by
    intro s hs
    rw [Sem.run_bind] at hs
    cases hq : s.run P w with
    | ok v w1 => rw [hq] at hs; simp at hs; exact ⟨v, hs.1.symm⟩
    | halt x w1 => rw [hq] at hs; simp at hs
  unfold isV at h
  unfold execOp at hr
  cases ho : o.op <;> simp only [ho] at h hr <;> try (cases h; done)
  case nilCheck x =>
    split at hr
    · simp [runtimePanic] at hr
    · simp [runtimePanic] at hr
    · simp [runtimePanic] at hr
    · split at hr
      · simp [runtimePanic] at hr
      · rw [Sem.run_bind] at hr
        generalize (program : Sem Program).run P w = r1 at hr
        cases r1 with
        | halt x w1 => simp at hr
        | ok pv w1 =>
          rw [Result.andThen_ok, Sem.run_bind] at hr
          generalize Sem.run P (nilAhead _ _ _ _) w1 = r2 at hr
          cases r2 with
          | halt x w2 => simp at hr
          | ok bv w2 =>
            rw [Result.andThen_ok] at hr
            split at hr
            · rw [Sem.run_bind] at hr
              simp [unsupported] at hr
            · simp at hr; exact ⟨_, hr.1.symm⟩
      · simp at hr; exact ⟨_, hr.1.symm⟩
    · simp at hr; exact ⟨_, hr.1.symm⟩
  case move x => simp at hr; exact ⟨_, hr.1.symm⟩
  case assign x => simp at hr; exact ⟨_, hr.1.symm⟩
  case pick c a b => 
    rw [Sem.run_bind] at hr
    cases hq : (asBool (ρ c)).run P w with
    | ok v w1 => rw [hq] at hr; rw [Result.andThen_ok] at hr; cases v <;> (simp only [Sem.run_pure, Result.ok.injEq] at hr; exact ⟨_, hr.1.symm⟩)
    | halt x w1 => rw [hq] at hr; simp at hr
  case call c =>
    cases hc : c.callee with
    | value f => rw [hc] at h; cases h
    | invoke r m => rw [hc] at h; cases h
    | builtin b =>
      rw [hc] at h
      have e : (resolve ρ c o.type).run P w = .ok { target := .builtin b c.argTypes o.type (c.args.map fun | .const _ => true | _ => false), args := c.args.map ρ } w := by
        unfold resolve; rw [hc]; rfl
      rw [Sem.run_bind, e, Result.andThen_ok] at hr
      unfold invoke builtin at hr
      cases b <;> first | (cases h; done) | exact key _ hr
  all_goals exact key _ hr

theorem yieldsIf_of_quiet {o : Oper} {a : Act} {C : World → Prop} {v : Value} (hv : isV o = true) (hw : Region.wanted o (yielded ops a.tmps) = true) (h1 : ∀ w, C w → o.quietAt P a C w v) : YieldsIf P ops C o v a := by
  refine .inl ⟨hw, fun w hC => ?_⟩
  have h := h1 w hC
  unfold Oper.quietAt at h
  cases hr : (execOp a.eval o).run P w with
  | halt x w' => rw [hr] at h; simp only [Oper.quietUpon] at h
  | ok n w' =>
    obtain ⟨u, rfl⟩ := isV_run hv hr
    rw [hr] at h
    simp only [Oper.quietUpon] at h
    obtain ⟨rfl, rfl⟩ := h
    rfl

/-- Operations run one by one: behind each the class is shown anew; then K. -/
def wpChain (P : Program) (ops : Array Oper) (Q : Exit → Act → World → Prop) (S : World → Prop) (K : Act → World → Prop) : List Oper → Act → World → Prop
  | [], a, w => K a w
  | o :: rest, a, w => wpList P ops (fun e a' w' => match e with | .normal => S w' ∧ wpChain P ops Q S K rest a' w' | e => Q e a' w') [o] a w

def sel (l : List Oper) : List Nat → List Oper
  | [] => []
  | i :: is => (l.drop i).take 1 ++ sel l is

/-- A plan: segments; of each the first numbers are taken first (pure), the others run one by one. -/
def wpPlan (P : Program) (l : List Oper) (Q : Exit → Act → World → Prop) (S : World → Prop) : List (List Nat × List Nat) → Act → World → Prop
  | [], a, w => Q .normal a w
  | s :: rest, a, w => wpQuiet P l.toArray S (fun a' => wpChain P l.toArray Q S (fun a'' w'' => wpPlan P l Q S rest a'' w'') (sel l s.2) a' w) (sel l s.1) a

def takesB (md : Region.Mode) (ops : Array Oper) : List Nat → Array Bool → Bool
  | [], _ => true
  | k :: ks, listed => ((Region.ready md ops listed).contains k && (Region.free md ops listed k && ((ops[k]?).map isV).getD false)) && takesB md ops ks (listed.setIfInBounds k true)
def runsB (md : Region.Mode) (ops : Array Oper) : List Nat → Array Bool → Bool
  | [], _ => true
  | k :: ks, listed => ((Region.ready md ops listed == [k]) && (ops[k]?).isSome) && runsB md ops ks (listed.setIfInBounds k true)
def listAll (listed : Array Bool) : List Nat → Array Bool
  | [] => listed
  | k :: ks => listAll (listed.setIfInBounds k true) ks
def planFrom (md : Region.Mode) (ops : Array Oper) : Nat → List (List Nat × List Nat) → Array Bool → Bool
  | _, [], listed => (Region.ready md ops listed).isEmpty
  | fuel, s :: rest, listed => takesB md ops s.1 listed && (runsB md ops s.2 (listAll listed s.1) && (decide (s.1.length + s.2.length ≤ fuel) && planFrom md ops (fuel - (s.1.length + s.2.length)) rest (listAll (listAll listed s.1) s.2)))
def planB (md : Region.Mode) (ops : Array Oper) (plan : List (List Nat × List Nat)) : Bool := Region.noSelect ops && planFrom md ops ops.size plan (Array.replicate ops.size false)

theorem sel_one {l : List Oper} {k : Nat} {o : Oper} {ks : List Nat} (h : l[k]? = some o) : sel l (k :: ks) = o :: sel l ks := by
  obtain ⟨hk, rfl⟩ := List.getElem?_eq_some_iff.1 h
  show (l.drop k).take 1 ++ sel l ks = _
  rw [List.drop_eq_getElem_cons hk]
  rfl

theorem op_of_chain {l : List Oper} {Q : Exit → Act → World → Prop} {S : World → Prop} {K : Act → World → Prop} {k : Nat} {o : Oper} {rest : List Oper} {a : Act} {w : World} {G : Act → World → Prop} (h0 : l.toArray[k]? = some o)
    (h : wpChain P l.toArray Q S K (o :: rest) a w) (go : ∀ a' w', (S w' ∧ wpChain P l.toArray Q S K rest a' w') → G a' w') : wpOp P l.toArray Q k G a w := by
  unfold wpOp
  simp only [h0]
  unfold wpChain wpList at h
  have push : ∀ {K' : Act → World → Prop}, (∀ a' w', (wpList P l.toArray (fun e a' w' => match e with | .normal => S w' ∧ wpChain P l.toArray Q S K rest a' w' | e => Q e a' w') [] a' w') → K' a' w') →
      o.wp P a w (wpList P l.toArray (fun e a' w' => match e with | .normal => S w' ∧ wpChain P l.toArray Q S K rest a' w' | e => Q e a' w') []) (fun e a' w' => match e with | .normal => S w' ∧ wpChain P l.toArray Q S K rest a' w' | e => Q e a' w') → o.wp P a w K' Q := by
    intro K' hK' hh
    unfold Oper.wp at hh ⊢
    generalize (execOp a.eval o).run P w = r at *
    cases r with
    | ok nx w' =>
      cases nx <;> simp only [Oper.upon] at hh ⊢
      case value u => exact hK' _ _ hh
      case skip => exact hK' _ _ hh
      case defer d => exact hK' _ _ hh
      case enter f args =>
        refine Calls.mono hh fun e w'' he => ?_
        cases e with
        | returned u => exact hK' _ _ he
        | panicked c => exact he
        | outgrown => obtain ⟨x, y, hz⟩ := he; exact ⟨x, y, hz⟩
      case row row args => exact Rows.mono hh fun u w'' he => hK' _ _ he
    | halt x w' =>
      cases x <;> simp only [Oper.upon] at hh ⊢
      case panic u => exact hh
  split at h
  · rename_i hw
    rw [if_pos hw]
    rcases h with h | ⟨h1, x, y, hz⟩
    · exact .inl (push (fun a' w' hh => go a' w' hh) h)
    · exact .inr ⟨h1, x, y, hz⟩
  · rename_i hw
    rw [if_neg hw]
    exact go _ _ h

theorem runs_any {md : Region.Mode} {l : List Oper} {Q : Exit → Act → World → Prop} {S : World → Prop} {K : Act → World → Prop} {f0 : Nat} : ∀ (ks : List Nat) (fuel : Nat) (listed : Array Bool) (a : Act) (w : World), fuel = f0 + ks.length →
    runsB md l.toArray ks listed = true → (∀ a w, S w → K a w → wpAnyH P md l.toArray Q S f0 (listAll listed ks) a w) → S w → wpChain P l.toArray Q S K (sel l ks) a w → wpAnyH P md l.toArray Q S fuel listed a w
  | [], fuel, listed, a, w, hf, _, hK, hS, h => by subst hf; exact hK a w hS h
  | k :: ks, fuel, listed, a, w, hf, hB, hK, hS, h => by
    simp only [runsB, Bool.and_eq_true, beq_iff_eq] at hB
    obtain ⟨⟨hr, hs⟩, hB'⟩ := hB
    obtain ⟨o, h0⟩ := Option.isSome_iff_exists.1 hs
    have h0' : l[k]? = some o := by simpa using h0
    rw [sel_one h0'] at h
    obtain ⟨f1, rfl⟩ : ∃ f1, fuel = f1 + 1 := ⟨f0 + ks.length, by simp at hf; omega⟩
    have hf1 : f1 = f0 + ks.length := by simp at hf; omega
    refine wpAnyH_all hr (by simp) fun i hi => ?_
    rw [List.mem_singleton] at hi
    subst hi
    exact op_of_chain h0 h fun a' w' ⟨h1, h2⟩ => ⟨h1, runs_any ks f1 _ a' w' hf1 hB' hK h1 h2⟩

theorem put_panic {Q : Exit → Act → World → Prop} (hQ : ∀ c a (d : Tmp) v w, Q (.panic c) (Act.put a (some d) v) w → Q (.panic c) a w) {c : List PanicEntry} {a : Act} {d : Option Tmp} {v : Value} {w : World} (h : Q (.panic c) (a.put d v) w) : Q (.panic c) a w := by
  cases d with
  | none => exact h
  | some d => exact hQ c a d v w h

theorem takes_any {md : Region.Mode} {l : List Oper} {Q : Exit → Act → World → Prop} {S : World → Prop} (hs : Region.noSelect l.toArray = true) (hQ : ∀ c a (d : Tmp) v w, Q (.panic c) (Act.put a (some d) v) w → Q (.panic c) a w) {w : World} (hS : S w) {K : Act → Prop} {f0 : Nat} :
    ∀ (ks : List Nat) (fuel : Nat) (listed : Array Bool) (a : Act), fuel = f0 + ks.length → takesB md l.toArray ks listed = true → (∀ a, K a → wpAnyH P md l.toArray Q S f0 (listAll listed ks) a w) →
    wpQuiet P l.toArray S K (sel l ks) a → wpAnyH P md l.toArray Q S fuel listed a w
  | [], fuel, listed, a, hf, _, hK, h => by subst hf; exact hK a h
  | k :: ks, fuel, listed, a, hf, hB, hK, h => by
    simp only [takesB, Bool.and_eq_true] at hB
    obtain ⟨⟨hr, hfr, hv⟩, hB'⟩ := hB
    obtain ⟨o, h0, hv'⟩ : ∃ o, l.toArray[k]? = some o ∧ isV o = true := by
      cases hq : l.toArray[k]? with
      | none => rw [hq] at hv; simp at hv
      | some o => rw [hq] at hv; exact ⟨o, rfl, by simpa using hv⟩
    have h0' : l[k]? = some o := by simpa using h0
    rw [sel_one h0'] at h
    obtain ⟨f1, rfl⟩ : ∃ f1, fuel = f1 + 1 := ⟨f0 + ks.length, by simp at hf; omega⟩
    have hf1 : f1 = f0 + ks.length := by simp at hf; omega
    have step : ∀ a', wpQuiet P l.toArray S K (sel l ks) a' → wpAnyH P md l.toArray Q S f1 (listed.setIfInBounds k true) a' w := fun a' ha =>
      takes_any hs hQ hS ks f1 _ a' hf1 hB' hK ha
    unfold wpQuiet at h
    split at h
    · rename_i hw
      obtain ⟨v, h1, h2⟩ := h
      exact wpAnyH_take h0 hs hfr hr (fun c a w h => put_panic hQ h) (yieldsIf_of_quiet hv' hw h1) hS (step _ h2)
    · rename_i hw
      exact wpAnyH_take h0 hs hfr hr (fun c a w h => put_panic hQ h) (.inr ⟨by simpa using hw, rfl⟩) hS (step _ h)

theorem plan_any {md : Region.Mode} {l : List Oper} {Q : Exit → Act → World → Prop} {S : World → Prop} (hs : Region.noSelect l.toArray = true) (hQ : ∀ c a (d : Tmp) v w, Q (.panic c) (Act.put a (some d) v) w → Q (.panic c) a w) :
    ∀ (plan : List (List Nat × List Nat)) (fuel : Nat) (listed : Array Bool) (a : Act) (w : World), planFrom md l.toArray fuel plan listed = true → S w → wpPlan P l Q S plan a w → wpAnyH P md l.toArray Q S fuel listed a w
  | [], fuel, listed, a, w, hB, _, h => wpAnyH_done (by simpa [planFrom] using hB) h fuel
  | s :: rest, fuel, listed, a, w, hB, hS, h => by
    simp only [planFrom, Bool.and_eq_true, decide_eq_true_eq] at hB
    obtain ⟨h1, h2, h3, h4⟩ := hB
    refine takes_any (f0 := fuel - s.1.length) hs hQ hS s.1 fuel listed a (by omega) h1 (fun a' ha' => ?_) h
    exact runs_any (f0 := fuel - (s.1.length + s.2.length)) s.2 _ _ a' w (by omega) h2 (fun a'' w'' hS'' hK => plan_any hs hQ rest _ _ a'' w'' h4 hS'' hK) hS ha'

theorem region_plan {id : Nat} {Q : Exit → Act → World → Prop} {a : Act} {w : World} {l : List Oper} (plan : List (List Nat × List Nat)) (S : World → Prop) (hm : P.follows .mixedOrders = true) (hB : planB .any l.toArray plan = true)
    (hQ : ∀ c a (d : Tmp) v w, Q (.panic c) (Act.put a (some d) v) w → Q (.panic c) a w) (hS : S w.drew)
    (h : wpPlan P l Q S plan a w.drew) : (Code.region id l.toArray true).wp P Q a w := by
  simp only [planB, Bool.and_eq_true] at hB
  exact wp_region_held hm (S := S) (plan_any hB.1 hQ plan _ _ a _ hB.2 hS h)

/-- The same plan, with whatever behind it. -/
def wpPlanK (P : Program) (l : List Oper) (Q : Exit → Act → World → Prop) (S : World → Prop) (K : Act → World → Prop) : List (List Nat × List Nat) → Act → World → Prop
  | [], a, w => K a w
  | s :: rest, a, w => wpQuiet P l.toArray S (fun a' => wpChain P l.toArray Q S (fun a'' w'' => wpPlanK P l Q S K rest a'' w'') (sel l s.2) a' w) (sel l s.1) a
def planTo (md : Region.Mode) (ops : Array Oper) (f0 : Nat) (E : Array Bool → Bool) : Nat → List (List Nat × List Nat) → Array Bool → Bool
  | fuel, [], listed => decide (fuel = f0) && E listed
  | fuel, s :: rest, listed => takesB md ops s.1 listed && (runsB md ops s.2 (listAll listed s.1) && (decide (s.1.length + s.2.length ≤ fuel) && planTo md ops f0 E (fuel - (s.1.length + s.2.length)) rest (listAll (listAll listed s.1) s.2)))
theorem planK_any {md : Region.Mode} {l : List Oper} {Q : Exit → Act → World → Prop} {S : World → Prop} {K : Act → World → Prop} {f0 : Nat} {E : Array Bool → Bool} (hs : Region.noSelect l.toArray = true) (hQ : ∀ c a (d : Tmp) v w, Q (.panic c) (Act.put a (some d) v) w → Q (.panic c) a w)
    (hK : ∀ listed a w, E listed = true → S w → K a w → wpAnyH P md l.toArray Q S f0 listed a w) :
    ∀ (plan : List (List Nat × List Nat)) (fuel : Nat) (listed : Array Bool) (a : Act) (w : World), planTo md l.toArray f0 E fuel plan listed = true → S w → wpPlanK P l Q S K plan a w → wpAnyH P md l.toArray Q S fuel listed a w
  | [], fuel, listed, a, w, hB, hS, h => by
    simp only [planTo, Bool.and_eq_true, decide_eq_true_eq] at hB
    obtain ⟨rfl, hE⟩ := hB
    exact hK listed a w hE hS h
  | s :: rest, fuel, listed, a, w, hB, hS, h => by
    simp only [planTo, Bool.and_eq_true, decide_eq_true_eq] at hB
    obtain ⟨h1, h2, h3, h4⟩ := hB
    refine takes_any (f0 := fuel - s.1.length) hs hQ hS s.1 fuel listed a (by omega) h1 (fun a' ha' => ?_) h
    exact runs_any (f0 := fuel - (s.1.length + s.2.length)) s.2 _ _ a' w (by omega) h2 (fun a'' w'' hS'' hk => planK_any hs hQ hK rest _ _ a'' w'' h4 hS'' hk) hS ha'

/-- Behind the first plan two operations may come up, in either order: each with a plan of its own behind it. -/
def planB2 (md : Region.Mode) (ops : Array Oper) (pre : List (List Nat × List Nat)) (f0 i j : Nat) (pi pj : List (List Nat × List Nat)) : Bool :=
  Region.noSelect ops && planTo md ops (f0 + 1) (fun listed => (Region.ready md ops listed == [i, j]) && ((ops[i]?).isSome && ((ops[j]?).isSome && (planFrom md ops f0 pi (listed.setIfInBounds i true) && planFrom md ops f0 pj (listed.setIfInBounds j true))))) ops.size pre (Array.replicate ops.size false)
theorem region_plan2 {id : Nat} {Q : Exit → Act → World → Prop} {a : Act} {w : World} {l : List Oper} (pre : List (List Nat × List Nat)) (f0 i j : Nat) (pi pj : List (List Nat × List Nat)) (S : World → Prop) (hm : P.follows .mixedOrders = true) (hB : planB2 .any l.toArray pre f0 i j pi pj = true)
    (hQ : ∀ c a (d : Tmp) v w, Q (.panic c) (Act.put a (some d) v) w → Q (.panic c) a w) (hS : S w.drew)
    (h : wpPlanK P l Q S (fun a w => wpChain P l.toArray Q S (fun a w => wpPlan P l Q S pi a w) (sel l [i]) a w ∧ wpChain P l.toArray Q S (fun a w => wpPlan P l Q S pj a w) (sel l [j]) a w) pre a w.drew) : (Code.region id l.toArray true).wp P Q a w := by
  simp only [planB2, Bool.and_eq_true] at hB
  refine wp_region_held hm (S := S) (planK_any hB.1 hQ ?_ pre _ _ a _ hB.2 hS h)
  intro listed a w hE hS' hk
  simp only [Bool.and_eq_true, beq_iff_eq] at hE
  obtain ⟨hr, hi, hj, hpi, hpj⟩ := hE
  obtain ⟨oi, h0i⟩ := Option.isSome_iff_exists.1 hi
  obtain ⟨oj, h0j⟩ := Option.isSome_iff_exists.1 hj
  obtain ⟨k1, k2⟩ := hk
  rw [sel_one (show l[i]? = some oi by simpa using h0i)] at k1
  rw [sel_one (show l[j]? = some oj by simpa using h0j)] at k2
  refine wpAnyH_all hr (by simp) fun x hx => ?_
  simp only [List.mem_cons, List.not_mem_nil, or_false] at hx
  rcases hx with rfl | rfl
  · exact op_of_chain h0i k1 fun a' w' ⟨h1, h2⟩ => ⟨h1, plan_any hB.1 hQ pi _ _ a' w' hpi h1 h2⟩
  · exact op_of_chain h0j k2 fun a' w' ⟨h1, h2⟩ => ⟨h1, plan_any hB.1 hQ pj _ _ a' w' hpj h1 h2⟩

/-- Operations in one order, and one more (a new variable, say) that may come up at any time among them. -/
def wpFloat (P : Program) (l : List Oper) (Q : Exit → Act → World → Prop) (S : World → Prop) (K : Act → World → Prop) (x : Nat) : List Nat → Act → World → Prop
  | [], a, w => wpChain P l.toArray Q S K (sel l [x]) a w
  | k :: ks, a, w => wpChain P l.toArray Q S (fun a w => wpChain P l.toArray Q S K (sel l (k :: ks)) a w) (sel l [x]) a w ∧ wpChain P l.toArray Q S (fun a w => wpFloat P l Q S K x ks a w) (sel l [k]) a w
def floatFrom (md : Region.Mode) (ops : Array Oper) (f1 : Nat) (post : List (List Nat × List Nat)) (x : Nat) : List Nat → Array Bool → Bool
  | [], listed => (Region.ready md ops listed == [x]) && ((ops[x]?).isSome && planFrom md ops f1 post (listed.setIfInBounds x true))
  | k :: ks, listed => ((Region.ready md ops listed == [k, x]) || (Region.ready md ops listed == [x, k])) && ((ops[x]?).isSome && ((ops[k]?).isSome &&
      (runsB md ops (k :: ks) (listed.setIfInBounds x true) && (planFrom md ops f1 post (listAll (listed.setIfInBounds x true) (k :: ks)) && floatFrom md ops f1 post x ks (listed.setIfInBounds k true)))))
theorem float_any {md : Region.Mode} {l : List Oper} {Q : Exit → Act → World → Prop} {S : World → Prop} {f1 x : Nat} {post : List (List Nat × List Nat)} (hs : Region.noSelect l.toArray = true) (hQ : ∀ c a (d : Tmp) v w, Q (.panic c) (Act.put a (some d) v) w → Q (.panic c) a w) :
    ∀ (ks : List Nat) (fuel : Nat) (listed : Array Bool) (a : Act) (w : World), fuel = f1 + ks.length + 1 → floatFrom md l.toArray f1 post x ks listed = true → wpFloat P l Q S (fun a w => wpPlan P l Q S post a w) x ks a w → wpAnyH P md l.toArray Q S fuel listed a w
  | [], fuel, listed, a, w, hf, hB, h => by
    simp only [floatFrom, Bool.and_eq_true, beq_iff_eq] at hB
    obtain ⟨hr, hx, hp⟩ := hB
    obtain ⟨o, h0⟩ := Option.isSome_iff_exists.1 hx
    subst hf
    unfold wpFloat at h
    rw [sel_one (show l[x]? = some o by simpa using h0)] at h
    refine wpAnyH_all hr (by simp) fun i hi => ?_
    rw [List.mem_singleton] at hi
    subst hi
    exact op_of_chain h0 h fun a' w' ⟨h1, h2⟩ => ⟨h1, plan_any hs hQ post _ _ a' w' hp h1 h2⟩
  | k :: ks, fuel, listed, a, w, hf, hB, h => by
    simp only [floatFrom, Bool.and_eq_true, Bool.or_eq_true, beq_iff_eq] at hB
    obtain ⟨hr, hx, hk, hrun, hp, hfl⟩ := hB
    obtain ⟨ox, h0x⟩ := Option.isSome_iff_exists.1 hx
    obtain ⟨ok, h0k⟩ := Option.isSome_iff_exists.1 hk
    obtain ⟨f2, rfl⟩ : ∃ f2, fuel = f2 + 1 := ⟨f1 + (ks.length + 1), by simp at hf; omega⟩
    unfold wpFloat at h
    obtain ⟨k1, k2⟩ := h
    rw [sel_one (show l[x]? = some ox by simpa using h0x)] at k1
    rw [sel_one (show l[k]? = some ok by simpa using h0k)] at k2
    have stepx : wpOp P l.toArray Q x (fun a' w' => S w' ∧ wpAnyH P md l.toArray Q S f2 (listed.setIfInBounds x true) a' w') a w :=
      op_of_chain h0x k1 fun a' w' ⟨h1, h2⟩ => ⟨h1, runs_any (f0 := f1) (k :: ks) f2 _ a' w' (by simp at hf ⊢; omega) hrun (fun a'' w'' hS'' hK => plan_any hs hQ post _ _ a'' w'' hp hS'' hK) h1 h2⟩
    have stepk : wpOp P l.toArray Q k (fun a' w' => S w' ∧ wpAnyH P md l.toArray Q S f2 (listed.setIfInBounds k true) a' w') a w :=
      op_of_chain h0k k2 fun a' w' ⟨h1, h2⟩ => ⟨h1, float_any hs hQ ks f2 _ a' w' (by simp at hf; omega) hfl h2⟩
    rcases hr with hr | hr
    · refine wpAnyH_all hr (by simp) fun i hi => ?_
      simp only [List.mem_cons, List.not_mem_nil, or_false] at hi
      rcases hi with rfl | rfl
      · exact stepk
      · exact stepx
    · refine wpAnyH_all hr (by simp) fun i hi => ?_
      simp only [List.mem_cons, List.not_mem_nil, or_false] at hi
      rcases hi with rfl | rfl
      · exact stepx
      · exact stepk
def floatB (md : Region.Mode) (ops : Array Oper) (pre : List (List Nat × List Nat)) (f1 : Nat) (ks : List Nat) (x : Nat) (post : List (List Nat × List Nat)) : Bool :=
  Region.noSelect ops && planTo md ops (f1 + ks.length + 1) (fun listed => floatFrom md ops f1 post x ks listed) ops.size pre (Array.replicate ops.size false)
theorem region_float {id : Nat} {Q : Exit → Act → World → Prop} {a : Act} {w : World} {l : List Oper} (pre : List (List Nat × List Nat)) (f1 : Nat) (ks : List Nat) (x : Nat) (post : List (List Nat × List Nat)) (S : World → Prop) (hm : P.follows .mixedOrders = true) (hB : floatB .any l.toArray pre f1 ks x post = true)
    (hQ : ∀ c a (d : Tmp) v w, Q (.panic c) (Act.put a (some d) v) w → Q (.panic c) a w) (hS : S w.drew)
    (h : wpPlanK P l Q S (fun a w => wpFloat P l Q S (fun a w => wpPlan P l Q S post a w) x ks a w) pre a w.drew) : (Code.region id l.toArray true).wp P Q a w := by
  simp only [floatB, Bool.and_eq_true] at hB
  exact wp_region_held hm (S := S) (planK_any hB.1 hQ (fun listed a w hE _ hk => float_any hB.1 hQ ks _ listed a w rfl hE hk) pre _ _ a _ hB.2 hS h)
end
end Go.Proofs.Ytcadbapccdclaaa
