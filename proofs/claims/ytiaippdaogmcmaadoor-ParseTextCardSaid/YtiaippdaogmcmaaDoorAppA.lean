/- append of actions to a row of actions that a call owns. -/
import Derived.Test.YtiaippdaogmcmaaDoorMem6
import Derived.Test.YtiaippdaogmcmaaDoorAppR
namespace Go.Proofs.YtiaippdaogmcmaaDoor
open Go Go.RowKit
set_option linter.unusedVariables false
set_option linter.unusedSimpArgs false

theorem flatA_get {l : List AcE} {j : Nat} {u : Value} (h : (flatA l)[j]? = some u) : ∃ e, l[j / 6]? = some e ∧ (acCells e)[j % 6]? = some u := by
  have hj : j < (flatA l).length := (List.getElem?_eq_some_iff.1 h).1
  rw [flatA_length] at hj
  have hk : j / 6 < l.length := by omega
  refine ⟨l[j / 6], List.getElem?_eq_getElem hk, ?_⟩
  rw [← flatA_at (List.getElem?_eq_getElem hk) (j % 6) (by omega), ← h]
  congr 1
  omega
theorem InA.src {w : World} {a : Addr} {c : Nat} {l : List AcE} (h : InA w (some a) c l) : ∀ j u, (flatA l)[j]? = some u → w.cell? (a.add j) = some u := by
  intro j u hj
  obtain ⟨e, h1, h2⟩ := flatA_get hj
  obtain ⟨b, o, ea, _, hc⟩ := h.rd (by rintro rfl; simp at h1)
  injection ea with ea; subst ea
  have := hc (j / 6) e h1 (j % 6) u h2
  rw [← this]
  congr 1
  have e2 : o + j / 6 * 6 + j % 6 = o + j := by omega
  rw [e2]
  unfold Addr.add; split <;> simp_all
theorem flatA_one (l : List AcE) : ∀ u ∈ flatA l, u.oneCell' = true := by
  intro u hu
  obtain ⟨e, _, hu⟩ := List.mem_flatMap.1 hu
  simp [acCells] at hu
  rcases hu with rfl | rfl | rfl | rfl | rfl | rfl <;> rfl
theorem infoActZ : (Tryd.prog.info? 44).map (fun i => (i.zero, i.size, i.bytes)) = some (some (.agg #[.int .i64 0, .int .i64 0, .int .u8 0, .string ⟨#[]⟩, .slice none 0 0, .string ⟨#[]⟩]), 6, 80) := by kernel_rfl
theorem infoAct : (Tryd.prog.info? 44).map (fun i => (i.size, i.bytes)) = some (6, 80) := by kernel_rfl
theorem wpList_append_acts {P : Program} {w : World} {ops : Array Oper} {rest : List Oper} {o : Oper} {a : Act} {Q : Exit → Act → World → Prop} (hgd : o.guard = none) (s x : Operand) (t : TypeId)
    (ho : o.op = .call { callee := .builtin .append, args := #[s, x], argTypes := #[t, t] })
    (base : Nat) (e : TypeId) (i : TypeInfo) (z : Value) (bytes : Nat) (ht : P.underlying t = some (.slice e)) (hi : P.info? e = some i) (hz : i.zero = some z)
    (hsize : i.size = 6) (hby : i.bytes = bytes) (hzs : z.cells.size = 6)
    (v : Value) (n : Nat) (l1 : List AcE) (hs : a.eval s = v) (hown : w.ownsRow base e 6 v n (flatA l1))
    (A : Option Addr) (c : Nat) (l : List AcE) (hx : a.eval x = .slice A l.length c) (hR : InA w A c l)
    (h63 : n + l.length ≤ maxLen) (hbytes : (n + l.length) * bytes ≤ 140737488355328) (hbase : base ≤ w.heap.size)
    (h : ∀ v' w', w'.ownsRow base e 6 v' (n + l.length) (flatA (l1 ++ l)) → Own1 w w' v v' → wpList P ops Q rest (a.put o.dst v') w') : wpList P ops Q (o :: rest) a w := by
  by_cases hl : l = []
  · subst hl
    have hrun := run_append_zero (P := P) (w := w) base t o.type e i 6 ht hi v n (flatA l1) hown A c
    refine wpList_plain hgd fun K hK => ?_
    have hx' : a.eval x = .slice A 0 c := hx
    unfold Oper.wp
    simp [execOp, ho, resolve, invoke, builtin, hs, hx', hrun, Result.andThen]
    refine hK _ _ (h v w (by simpa using hown) (Own1.refl _ _))
  · obtain ⟨b, off, rfl, hb, hc⟩ := hR.rd hl
    have hlen : 0 < l.length := List.length_pos_iff.2 hl
    refine wpList_append_lies w hgd s x t ho base e i z 6 bytes ht hi hz hsize hby hzs (by decide) v n (flatA l1) hs hown ⟨b, off, none⟩ l.length c (flatA l) hx (flatA_length l) hR.src (flatA_one l) hlen h63 hbytes hbase w.heap.size rfl ?_
    intro g cap w' h1 h2 h3 h4
    rw [← flatA_append] at h1
    refine h _ w' h1 (Own1.grown h2 ?_)
    rcases h3 with h3 | h3
    · exact .inl h3
    · right; intro g' hg'; simp [Value.ownBlock] at hg'; omega
/-- Parameters that lie in no row that turns stay as they are. -/
theorem InP.own1 {w w' : World} {v v' : Value} {A : Option Addr} {c : Nat} {es : List El} (h : InP w A c es) (hO : Own1 w w' v v') (hoff : ∀ g, v.ownBlock = some g → Off g A es) : InP w' A c es := by
  have key : ∀ {b : Nat}, b < w.heap.size → (∀ g, v.ownBlock = some g → b ≠ g) → ∀ k, w'.cell? ⟨b, k, none⟩ = w.cell? ⟨b, k, none⟩ := fun {b} hb hne k => World.cell?_of_block (hO.gr.block b hb (fun e => hne b e.symm rfl))
  refine ⟨⟨fun hl => ?_, fun e he => ⟨fun hl => ?_, (h.nest.2 e he).cap, (h.nest.2 e he).max⟩⟩, h.cap, h.max⟩
  · obtain ⟨b, o, ea, hb, hc⟩ := h.nest.1 hl
    exact ⟨b, o, ea, Nat.lt_of_lt_of_le hb hO.gr.size, fun k x hx => (key hb (fun g hg => (hoff g hg).1 hl _ ea) _).trans (hc k x hx)⟩
  · obtain ⟨b, o, ea, hb, hc⟩ := (h.nest.2 e he).rd hl
    exact ⟨b, o, ea, Nat.lt_of_lt_of_le hb hO.gr.size, fun k x hx => (key hb (fun g hg => (hoff g hg).2 e he hl _ ea) _).trans (hc k x hx)⟩
end Go.Proofs.YtiaippdaogmcmaaDoor
