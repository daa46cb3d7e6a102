/- Regions that draw their order: one operation may come up first, second, or last of three. -/
import Derived.Test.YtinbdpfjpcgikaaBase6
namespace Go.Proofs.Ytinbdpfjpcgikaa
open Go Go.RowKit
set_option linter.unusedVariables false
set_option linter.unusedSimpArgs false

section
variable {P : Program}
def three3 (md : Region.Mode) (ops : Array Oper) (f0 i j x : Nat) (px pix pij : List (List Nat × List Nat)) (listed : Array Bool) : Bool :=
  (Region.ready md ops listed == [i, x]) && ((ops[i]?).isSome && ((ops[j]?).isSome && ((ops[x]?).isSome && (planFrom md ops (f0 + 1) px (listed.setIfInBounds x true) &&
    ((Region.ready md ops (listed.setIfInBounds i true) == [j, x]) && (planFrom md ops f0 pix ((listed.setIfInBounds i true).setIfInBounds x true) && planFrom md ops f0 pij ((listed.setIfInBounds i true).setIfInBounds j true)))))))
def planB3 (md : Region.Mode) (ops : Array Oper) (pre : List (List Nat × List Nat)) (f0 i j x : Nat) (px pix pij : List (List Nat × List Nat)) : Bool :=
  Region.noSelect ops && planTo md ops (f0 + 2) (fun listed => three3 md ops f0 i j x px pix pij listed) ops.size pre (Array.replicate ops.size false)
theorem region_plan3 {id : Nat} {Q : Exit → Act → World → Prop} {a : Act} {w : World} {l : List Oper} (pre : List (List Nat × List Nat)) (f0 i j x : Nat) (px pix pij : List (List Nat × List Nat)) (S : World → Prop) (hm : P.follows .mixedOrders = true) (hB : planB3 .any l.toArray pre f0 i j x px pix pij = true)
    (hQ : ∀ c a (d : Tmp) v w, Q (.panic c) (Act.put a (some d) v) w → Q (.panic c) a w) (hS : S w.drew)
    (h : wpPlanK P l Q S (fun a w => wpChain P l.toArray Q S (fun a w => wpPlan P l Q S px a w) (sel l [x]) a w ∧
      wpChain P l.toArray Q S (fun a w => wpChain P l.toArray Q S (fun a w => wpPlan P l Q S pix a w) (sel l [x]) a w ∧ wpChain P l.toArray Q S (fun a w => wpPlan P l Q S pij a w) (sel l [j]) a w) (sel l [i]) a w) pre a w.drew) : (Code.region id l.toArray true).wp P Q a w := by
  simp only [planB3, Bool.and_eq_true] at hB
  refine wp_region_held hm (S := S) (planK_any hB.1 hQ ?_ pre _ _ a _ hB.2 hS h)
  intro listed a w hE hS' hk
  simp only [three3, Bool.and_eq_true, beq_iff_eq] at hE
  obtain ⟨hr, hi, hj, hx, hpx, hr2, hpix, hpij⟩ := hE
  obtain ⟨oi, h0i⟩ := Option.isSome_iff_exists.1 hi
  obtain ⟨oj, h0j⟩ := Option.isSome_iff_exists.1 hj
  obtain ⟨ox, h0x⟩ := Option.isSome_iff_exists.1 hx
  obtain ⟨k1, k2⟩ := hk
  rw [sel_one (show l[x]? = some ox by simpa using h0x)] at k1 k2
  rw [sel_one (show l[i]? = some oi by simpa using h0i), sel_one (show l[j]? = some oj by simpa using h0j)] at k2
  refine wpAnyH_all hr (by simp) fun y hy => ?_
  simp only [List.mem_cons, List.not_mem_nil, or_false] at hy
  rcases hy with rfl | rfl
  · refine op_of_chain h0i k2 fun a' w' ⟨h1, h2, h3⟩ => ⟨h1, ?_⟩
    refine wpAnyH_all hr2 (by simp) fun z hz => ?_
    simp only [List.mem_cons, List.not_mem_nil, or_false] at hz
    rcases hz with rfl | rfl
    · exact op_of_chain h0j h3 fun a'' w'' ⟨h4, h5⟩ => ⟨h4, plan_any hB.1 hQ pij _ _ a'' w'' hpij h4 h5⟩
    · exact op_of_chain h0x h2 fun a'' w'' ⟨h4, h5⟩ => ⟨h4, plan_any hB.1 hQ pix _ _ a'' w'' hpix h4 h5⟩
  · exact op_of_chain h0x k1 fun a' w' ⟨h1, h2⟩ => ⟨h1, plan_any hB.1 hQ px _ _ a' w' hpx h1 h2⟩
end
end Go.Proofs.Ytinbdpfjpcgikaa
