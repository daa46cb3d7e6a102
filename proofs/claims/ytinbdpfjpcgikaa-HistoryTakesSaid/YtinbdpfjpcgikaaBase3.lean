/- Rows without room behind them: cut so, and more rows appended. What the statements of chapter 8 say of rows, plainly: what is put, erased, moved; letters. No program here. Grids, plainly (chapter 9): new, sane, sizes, rows that go up and come down, set, cleared. No program here. Rows that have left, plainly (chapter 10): new, sane, pushed, taken, told, seen, counted. No program here. Package history's calls, as contracts. Package history, walked: a number brought in, the last rows. Cells that a call owns: made, copied, appended, stored. What the statements of chapter 7 say of pens, plainly: what is printed makes the pen, both lines below letters, a colour however it is written, a colour's parts, flags. No program here. -/
import Derived.Test.YtinbdpfjpcgikaaBase2
import Derived.Deep.AppendSrc
import Derived.Test.YtinbdpfjpcgikaaChecked
import Derived.Deep.DeepCutAuto
import Derived.Laws.CopyOwn
import Derived.Laws.CopyRow
import Derived.Laws.MakeOwn
import Derived.OwnWalk
import Derived.Deep.AppendLies
import Derived.Laws.OwnMore
namespace Go.Proofs.Ytinbdpfjpcgikaa
open Go Go.RowKit
set_option linter.unusedVariables false
set_option linter.unusedSimpArgs false

theorem cutG_lhm (A : Option Addr) (n c a b m : Nat) (h1 : a ≤ b) (h2 : b ≤ m) (h3 : m ≤ c) (V : World) :
    (Instr.sliceAt 22 (.slice A n c) (some (.int .i64 (a : Int))) (some (.int .i64 (b : Int))) (some (.int .i64 (m : Int)))).run Try.prog V = .ok (.slice (if m = a then A else A.map (·.add (a * 4))) (b - a) (m - a)) V := by
  rw [run_sliceAt_slice V _ _ _ _ _ undRows, run_slice_lhm V _ A n c undRows .i64 .i64 .i64 a b m (by omega) (by omega) (by omega) (by omega), sizeRow]
  simp [sliced, Result.andThen]
theorem cutG_hm (A : Option Addr) (n c b m : Nat) (h2 : b ≤ m) (h3 : m ≤ c) (V : World) :
    (Instr.sliceAt 22 (.slice A n c) none (some (.int .i64 (b : Int))) (some (.int .i64 (m : Int)))).run Try.prog V = .ok (.slice A b m) V := by
  rw [run_sliceAt_slice V _ _ _ _ _ undRows, run_slice_hm V _ A n c undRows .i64 .i64 b m (by omega) (by omega) (by omega), sizeRow]
  simp [sliced, Result.andThen]
  intro _
  cases A with
  | none => rfl
  | some a => simp [Addr.add]
theorem RdG.tight {w : World} {A : Option Addr} {c : Nat} {l : List Rl} (h : RdG w A c l) : RdG w A l.length l := ⟨h.rd, Nat.le_refl _, h.len⟩
theorem RdG.from3 {w : World} {A : Option Addr} {c : Nat} {l : List Rl} (h : RdG w A c l) (a : Nat) : RdG w (if l.length = a then A else A.map (·.add (a * 4))) (l.length - a) (l.drop a) := h.tight.sub a
/-- The rows from a place on, and no room behind them. -/
theorem InG.last3 {w : World} {A : Option Addr} {c : Nat} {l : List Rl} (h : InG w A c l) {a : Nat} (h1 : a ≤ l.length) :
    ∃ B, (∀ V, (Instr.sliceAt 22 (.slice A l.length c) (some (.int .i64 (a : Int))) (some (.int .i64 (l.length : Int))) (some (.int .i64 (l.length : Int)))).run Try.prog V = .ok (.slice B (l.drop a).length (l.drop a).length) V) ∧ InG w B (l.drop a).length (l.drop a) := by
  refine ⟨(if l.length = a then A else A.map (·.add (a * 4))), fun V => ?_, ⟨?_, fun e he => h.els e (List.mem_of_mem_drop he)⟩⟩
  · rw [cutG_lhm A l.length c a l.length l.length h1 (Nat.le_refl _) h.rows.cap, List.length_drop]
  · have := h.rows.from3 a
    rwa [← List.length_drop] at this
/-- The rows up to a place, and no room behind them. -/
theorem InG.ahead3 {w : World} {A : Option Addr} {c : Nat} {l : List Rl} (h : InG w A c l) {b : Nat} (h1 : b ≤ l.length) :
    (∀ V, (Instr.sliceAt 22 (.slice A l.length c) none (some (.int .i64 (b : Int))) (some (.int .i64 (b : Int)))).run Try.prog V = .ok (.slice A (l.take b).length (l.take b).length) V) ∧ InG w A (l.take b).length (l.take b) := by
  refine ⟨fun V => ?_, ⟨(h.less b).rows.tight, (h.less b).els⟩⟩
  rw [cutG_hm A l.length c b b (Nat.le_refl _) (by have := h.rows.cap; omega), List.length_take, Nat.min_eq_left h1]
theorem first_none (V : World) (c : Nat) (A : Option Addr) : (Builtin.firstCells 4 0 (.slice A 0 c)).run Try.prog V = .ok #[] V := by
  cases A <;> simp [Builtin.firstCells, loadCells, loadCellsFrom, Result.andThen]
section
variable {w : World} {ops : Array Oper} {rest : List Oper} {o : Oper} {a : Act} {Q : Exit → Act → World → Prop}
/-- append(s, x...): s has no room behind it. -/
theorem wpList_append_full (hgd : o.guard = none) (s x : Operand) (ho : o.op = .call { callee := .builtin .append, args := #[s, x], argTypes := #[22, 22] })
    (B : Option Addr) (l : List Rl) (n c : Nat) (hs : a.eval s = .slice B n c) (hnl : n = l.length) (hcl : c = l.length) (hin0 : RdG w B l.length l)
    (A : Option Addr) (c' : Nat) (src : List Rl) (n' : Nat) (hx : a.eval x = .slice A n' c') (hn' : n' = src.length) (hin : RdG w A c' src) (hb : l.length + src.length ≤ 1000000)
    (h : ∀ B' d w', RdG w' B' d (l ++ src) → Below w.heap.size w w' → wpList Try.prog ops Q rest (a.put o.dst (.slice B' (l ++ src).length d)) w') : wpList Try.prog ops Q (o :: rest) a w := by
  obtain ⟨i0, hi, hz0, hz1, hz2⟩ := info_parts infoRowG
  subst hnl hcl hn'
  have go : ∀ B' d w', (Builtin.append_ #[22, 22] o.type #[.slice B l.length l.length, .slice A src.length c']).run Try.prog w = .ok (.slice B' (l ++ src).length d) w' → RdG w' B' d (l ++ src) → Below w.heap.size w w' → wpList Try.prog ops Q (o :: rest) a w := fun B' d w' hrun h1 h2 => by
    refine wpList_plain hgd fun K hK => ?_
    unfold Oper.wp
    simp only [execOp, ho, resolve, invoke, builtin, hs, hx]
    simp [hs, hx, hrun, Result.andThen]
    have h3 := h B' d w' h1 h2
    refine hK _ _ (by simpa using h3)
  by_cases hl : src = []
  · subst hl
    refine go B l.length w ?_ (by simpa using hin0) (Below.refl _ _)
    have hf := fun V => first_none V c' A
    cases B <;> simp [Builtin.append_, run_underlying Try.underlying22, sizeOf, typeInfo, hi, hz1, Builtin.lenOf, hf, storeCells, Result.andThen]
  · obtain ⟨b, off, ha, hbb, hc⟩ := hin.rd hl
    have hsrc := hin.src ha
    subst ha
    have hlen : 0 < src.length := List.length_pos_iff.2 hl
    have hS := Src.ofSlice (P := Try.prog) w (size := 4) Try.underlying22 ⟨b, off, none⟩ src.length c' (flatG src) (flatG_len _) hsrc (flatG_one _)
    have hold : (Builtin.firstCells 4 l.length (.slice B l.length l.length)).run Try.prog w.drew = .ok (flatG l).toArray w.drew := by
      by_cases h0 : l = []
      · subst h0
        exact first_none w.drew 0 B
      · obtain ⟨b', off', ha', _, _⟩ := hin0.rd h0
        have hsrc' := hin0.src ha'
        subst ha'
        exact run_firstCells_some w.drew 4 l.length ⟨b', off', none⟩ l.length l.length (flatG l) (flatG_len _) (by simpa using hsrc')
    rw [← hz1] at hS hold
    have hr := run_append_grow_src (P := Try.prog) w 22 22 o.type 35 i0 _ Try.underlying22 hi hz0 B l.length l.length (flatG l) hold _ src.length (flatG src) hS (by omega) (by omega) (growslice_fits (by omega) (by rw [hz2]; omega))
    have hge := grownCap_ge w (l.length + src.length) l.length 35
    have hcm : grownCap w (l.length + src.length) l.length 35 ≤ maxLen := grownCap_le_maxLen w (l.length + src.length) l.length 35 (by unfold maxLen; omega)
    have hlf : (flatG (l ++ src)).length = (l.length + src.length) * 4 := by rw [flatG_len, List.length_append]
    refine go _ _ _ (by rw [List.length_append]; exact hr) ⟨fun _ => ⟨w.heap.size, 0, rfl, by simp, fun k e hk j u hu => ?_⟩, by rw [List.length_append]; exact hge, hcm⟩ ((Below.refl _ _).drew.alloc (by simp) _)
    have hj : j < 4 := (List.getElem?_eq_some_iff.1 hu).1
    have hf := flatG_at hk j hj
    rw [hu, flatG_app] at hf
    have hlt : k * 4 + j < (flatG l ++ flatG src).length := (List.getElem?_eq_some_iff.1 hf).1
    have hb2 : Box (w.drew.alloc (.cells ((flatG l ++ flatG src).toArray ++ Builtin.zeroCells (Value.agg #[.slice none 0 0, .bool false, .int .i64 0, .bool false]).cells (grownCap w (l.length + src.length) l.length 35 - (l.length + src.length))) 35)) w.heap.size 35 _ := Box.new w.drew 35 _
    rw [hb2.cell, Nat.zero_add, Array.getElem?_append_left (by simpa using hlt)]
    simpa using hf
end
end Go.Proofs.Ytinbdpfjpcgikaa

namespace Go.Proofs.Ytinbdpfjpcgikaa
set_option linter.unusedVariables false
set_option linter.unusedSimpArgs false

theorem Rw.same {r : Rw} {l : List Cl} (h : l = r.cs) : { r with cs := l } = r := by subst h; rfl
theorem SaneR.good {r : Rw} (h : SaneR r) (i : Nat) : ¬ BadAt r.cs i := mend_same.1 h.2.2.1 i
theorem w_iff {l m : List Cl} {i : Nat} (h : l[i]? = m[i]?) : wAt l i = wAt m i := by unfold wAt; rw [h]
/- What is put is there. -/
theorem put_len (l : List Cl) (k : Nat) (c : Cl) : (putL l k c).length = l.length := by unfold putL; split <;> simp
theorem put_at {l : List Cl} {k : Nat} (c : Cl) (hk : k < l.length) (i : Nat) :
    (putL l k c)[i]? = if i = k then some c else if c.w = 2 ∧ i = k + 1 then (l[i]?).map (fun _ => halfC c.pen) else l[i]? := by
  unfold putL
  by_cases h2 : c.w = 2
  · rw [if_pos h2]
    by_cases h1 : i = k
    · subst h1
      rw [if_pos rfl, List.getElem?_set_ne (by omega), List.getElem?_set_self hk]
    · rw [if_neg h1]
      by_cases h3 : i = k + 1
      · subst h3
        rw [if_pos ⟨h2, rfl⟩]
        by_cases h4 : k + 1 < l.length
        · rw [List.getElem?_set_self (by simpa using h4), List.getElem?_eq_getElem h4]; rfl
        · rw [List.getElem?_eq_none (by simp; omega), List.getElem?_eq_none (by omega)]; rfl
      · rw [if_neg (by omega), List.getElem?_set_ne (by omega), List.getElem?_set_ne (by omega)]
  · rw [if_neg h2]
    by_cases h1 : i = k
    · subst h1
      rw [if_pos rfl, List.getElem?_set_self hk]
    · rw [if_neg h1, if_neg (by omega), List.getElem?_set_ne (by omega)]
/-- What a put cell's neighbours are. -/
theorem put_w {l : List Cl} {k : Nat} {c : Cl} (hk : k < l.length) (hw : k + c.w ≤ l.length) (hc : c.w = 1 ∨ c.w = 2) (i : Nat) :
    wAt (putL l k c) i = if i = k then c.w else if c.w = 2 ∧ i = k + 1 then 0 else wAt l i := by
  unfold wAt
  rw [put_at c hk]
  split
  · rfl
  split
  · rename_i h1 h2
    rw [List.getElem?_eq_getElem (by omega : i < l.length)]
    rfl
  · rfl
theorem put_good {l : List Cl} {k : Nat} {c : Cl} (hl : ∀ i, ¬ BadAt l i) (hk : k < l.length) (hw : k + c.w ≤ l.length) (hc : c.w = 1 ∨ c.w = 2) (i : Nat) (h : BadAt (putL l k c) i) : i + 1 = k ∨ (i : Int) = k + c.w := by
  have h0 := hl i
  unfold BadAt at h h0
  have w1 := put_w hk hw hc i
  have w2 := put_w hk hw hc (i + 1)
  have w3 := put_w hk hw hc (i - 1)
  rw [w1, w2, w3] at h
  by_cases e1 : i = k
  · subst e1
    exfalso
    rw [if_pos rfl, if_neg (by omega)] at h
    rcases hc with e | e
    · omega
    · rw [if_pos ⟨e, rfl⟩] at h; omega
  by_cases e2 : c.w = 2 ∧ i = k + 1
  · exfalso
    obtain ⟨e2, rfl⟩ := e2
    rw [if_neg e1, if_pos ⟨e2, rfl⟩, show k + 1 - 1 = k from rfl, if_pos rfl] at h
    omega
  rw [if_neg e1, if_neg e2] at h
  by_cases e3 : i + 1 = k
  · exact .inl e3
  by_cases e4 : (i : Int) = k + c.w
  · exact .inr e4
  exfalso
  rw [if_neg e3] at h
  rcases h with ⟨ha, hb⟩ | ⟨ha, hb⟩
  · rw [if_neg (by omega)] at hb
    exact h0 (.inl ⟨ha, hb⟩)
  · rcases hb with hb | hb
    · exact h0 (.inr ⟨ha, .inl hb⟩)
    · by_cases e5 : i = 0
      · exact h0 (.inr ⟨ha, .inl e5⟩)
      · rw [if_neg (by omega), if_neg (by omega)] at hb
        exact h0 (.inr ⟨ha, .inr hb⟩)
theorem one_w {c : Cl} (h : OneC c) (h0 : c.w ≠ 0) : c.w = 1 ∨ c.w = 2 := by have := h.1; omega
theorem puts_len (r : Rw) (k : Int) (c : Cl) : (putR r k c).cs.length = r.cs.length := by
  unfold putR; split
  · simp only [mend_len, put_len]
  · rfl
/-- What is put is there, and all else as it was, but for halves. -/
theorem puts_said {r : Rw} (h : SaneR r) {k : Nat} (hk : k < r.cs.length) (c : Cl) :
    ((putR r k c).cs[k]? ≠ some c → putR r k c = r) ∧
    ((putR r k c).cs[k]? = some c → ∀ i, i < r.cs.length → (k ≤ i ∧ (i : Int) < k + c.w) ∨ (putR r k c).cs[i]? = r.cs[i]? ∨ ((i + 1 = k ∨ (i : Int) = k + c.w) ∧ (putR r k c).cs[i]? = (r.cs[i]?).map fun d => blankC d.pen)) ∧
    ((putR r k c).cs[k]? = some c → c.w = 2 → (putR r k c).cs[k + 1]? = some (halfC c.pen)) ∧
    ((putR r k c).cs[k]? = some c → putR (putR r k c) k c = putR r k c) := by
  by_cases hc : SaneR r ∧ OneC c ∧ c.w ≠ 0 ∧ 0 ≤ (k : Int) ∧ (k : Int) + c.w ≤ r.cs.length
  · have hs : putR r k c = { r with cs := mendL (putL r.cs k c) } := by
      unfold putR; rw [if_pos hc, Int.toNat_natCast]
    have hw12 := one_w hc.2.1 hc.2.2.1
    have hkw := hc.2.2.2.2
    have hgood := put_good h.good hk hkw hw12
    have hself : (mendL (putL r.cs k c))[k]? = some c := by
      rw [mend_good (fun hb => by have := hgood k hb; omega), put_at c hk, if_pos rfl]
    have hhalf : c.w = 2 → (mendL (putL r.cs k c))[k + 1]? = some (halfC c.pen) := fun h2 => by
      rw [mend_good (fun hb => by have := hgood (k + 1) hb; omega), put_at c hk, if_neg (by omega), if_pos ⟨h2, rfl⟩, List.getElem?_eq_getElem (by omega : k + 1 < r.cs.length)]
      rfl
    rw [hs]
    refine ⟨fun hn => absurd hself hn, fun _ i hi => ?_, fun _ => hhalf, fun _ => ?_⟩
    · by_cases hin : k ≤ i ∧ (i : Int) < k + c.w
      · exact .inl hin
      · right
        have hpi : (putL r.cs k c)[i]? = r.cs[i]? := by
          rw [put_at c hk, if_neg (by omega), if_neg (by omega)]
        by_cases hb : BadAt (putL r.cs k c) i
        · exact .inr ⟨hgood i hb, by simp only [mend_at, hpi, if_pos hb]⟩
        · exact .inl (by simp only [mend_good hb, hpi])
    · unfold putR
      split
      · rename_i h2
        refine Rw.same ?_
        simp only at h2
        simp only [Int.toNat_natCast]
        have e : putL (mendL (putL r.cs k c)) k c = mendL (putL r.cs k c) := by
          apply List.ext_getElem?
          intro i
          rw [put_at c (by rw [mend_len, put_len]; exact hk)]
          split
          · rename_i h1; subst h1; exact hself.symm
          split
          · rename_i h1 h2
            rw [h2.2, hhalf h2.1]; rfl
          · rfl
        rw [e, mend_twice]
      · rfl
  · have hs : putR r k c = r := by unfold putR; rw [if_neg hc]
    rw [hs]
    refine ⟨fun _ => rfl, fun _ i _ => .inr (.inl rfl), fun hkc h2 => ?_, fun _ => hs⟩
    exfalso
    have h1 := h.one hkc
    have hg := h.good k
    have hw : wAt r.cs k = 2 := by rw [wAt_some hkc]; exact h2
    have hnext : wAt r.cs (k + 1) = 0 := by unfold BadAt at hg; omega
    have hlt : k + 1 < r.cs.length := by
      rcases Nat.lt_or_ge (k + 1) r.cs.length with h | h
      · exact h
      · have := wAt_none h; omega
    exact hc ⟨h, h1, by omega, by omega, by omega⟩
/- What is erased is blank. -/
theorem erase_len (l : List Cl) (a b : Int) (p : Pn) : (eraseL l a b p).length = l.length := by simp [eraseL]
theorem erase_at (l : List Cl) (a b : Int) (p : Pn) (i : Nat) : (eraseL l a b p)[i]? = (l[i]?).map fun c => if a ≤ (i : Int) ∧ (i : Int) < b then blankC p else c := by simp [eraseL, List.getElem?_mapIdx]
theorem erase_out {l : List Cl} {a b : Int} {p : Pn} {i : Nat} (h : ¬ (a ≤ (i : Int) ∧ (i : Int) < b)) : (eraseL l a b p)[i]? = l[i]? := by
  rw [erase_at]
  cases l[i]? with
  | none => rfl
  | some c => simp [h]
theorem erase_w {l : List Cl} {a b : Int} {p : Pn} (i : Nat) : wAt (eraseL l a b p) i = if a ≤ (i : Int) ∧ (i : Int) < b then 1 else wAt l i := by
  unfold wAt
  rw [erase_at]
  cases l[i]? with
  | none => simp
  | some c =>
    simp only [Option.map_some, Option.getD_some]
    split <;> rfl
theorem erase_good {l : List Cl} (hl : ∀ i, ¬ BadAt l i) {a b : Int} {p : Pn} {i : Nat} (h : BadAt (eraseL l a b p) i) : ¬ (a ≤ (i : Int) ∧ (i : Int) < b) ∧ ((i : Int) = a - 1 ∨ (i : Int) = b) := by
  have h0 := hl i
  unfold BadAt at h h0
  rw [erase_w, erase_w, erase_w] at h
  by_cases e1 : a ≤ (i : Int) ∧ (i : Int) < b
  · rw [if_pos e1] at h; omega
  rw [if_neg e1] at h
  refine ⟨e1, ?_⟩
  rcases h with ⟨h1, h2⟩ | ⟨h1, h2⟩
  · left
    split at h2
    · omega
    · exact absurd (.inl ⟨h1, h2⟩) h0
  · right
    by_cases e5 : i = 0
    · exact absurd (.inr ⟨h1, .inl e5⟩) h0
    rcases h2 with h2 | h2
    · omega
    · split at h2
      · omega
      · exact absurd (.inr ⟨h1, .inr h2⟩) h0
theorem erases_len (r : Rw) (a b : Int) (p : Pn) : (eraseR r a b p).cs.length = r.cs.length := by
  unfold eraseR; split
  · simp only [mend_len, erase_len]
  · rfl
theorem erases_none {r : Rw} {a b : Int} {p : Pn} (h : ¬ SaneN p) : eraseR r a b p = r := by unfold eraseR; rw [if_neg (fun k => h k.2)]
theorem erases_said {r : Rw} (h : SaneR r) (a b : Int) {p : Pn} (hp : SaneN p) :
    (∀ i, i < r.cs.length → if a ≤ (i : Int) ∧ (i : Int) < b then (eraseR r a b p).cs[i]? = some (blankC p) else (eraseR r a b p).cs[i]? = r.cs[i]? ∨ (((i : Int) = a - 1 ∨ (i : Int) = b) ∧ (eraseR r a b p).cs[i]? = (r.cs[i]?).map fun d => blankC d.pen)) ∧
    eraseR (eraseR r a b p) a b p = eraseR r a b p := by
  have hs : eraseR r a b p = { r with cs := mendL (eraseL r.cs a b p) } := by unfold eraseR; rw [if_pos ⟨h, hp⟩]
  have hin : ∀ i, i < r.cs.length → a ≤ (i : Int) ∧ (i : Int) < b → (mendL (eraseL r.cs a b p))[i]? = some (blankC p) := fun i hi hab => by
    rw [mend_good (fun hb => (erase_good h.good hb).1 hab), erase_at, List.getElem?_eq_getElem hi, Option.map_some, if_pos hab]
  rw [hs]
  refine ⟨fun i hi => ?_, ?_⟩
  · split
    · rename_i hab; exact hin i hi hab
    · rename_i hab
      by_cases hb : BadAt (eraseL r.cs a b p) i
      · exact .inr ⟨(erase_good h.good hb).2, by simp only [mend_at, if_pos hb, erase_out hab]⟩
      · exact .inl (by simp only [mend_good hb, erase_out hab])
  · unfold eraseR
    split
    · refine Rw.same ?_
      simp only
      have e : eraseL (mendL (eraseL r.cs a b p)) a b p = mendL (eraseL r.cs a b p) := by
        apply List.ext_getElem?
        intro i
        by_cases hab : a ≤ (i : Int) ∧ (i : Int) < b
        · rw [erase_at]
          rcases Nat.lt_or_ge i r.cs.length with hi | hi
          · rw [hin i hi hab, Option.map_some, if_pos hab]
          · rw [List.getElem?_eq_none (by rw [mend_len, erase_len]; exact hi)]; rfl
        · exact erase_out hab
      rw [e, mend_twice]
    · rfl
end Go.Proofs.Ytinbdpfjpcgikaa

namespace Go.Proofs.Ytinbdpfjpcgikaa
set_option linter.unusedVariables false
set_option linter.unusedSimpArgs false

def widthG (g : List Rw) : Nat := ((g[0]?).map fun r => r.cs.length).getD 0
def SaneG (g : List Rw) : Prop := (1 ≤ g.length ∧ g.length ≤ 1000) ∧ ∀ r ∈ g, SaneR r ∧ r.cs.length = widthG g
instance (g : List Rw) : Decidable (SaneG g) := inferInstanceAs (Decidable (_ ∧ _))
def sizeG (g : List Rw) : Int × Int := if SaneG g then ((g.length : Int), (widthG g : Int)) else (0, 0)
def newG (h w : Int) (p : Pn) : List Rw := List.replicate (max 1 (min h 1000)).toNat (newR w p)
def MayG (g : List Rw) (t b : Int) (p : Pn) : Prop := SaneG g ∧ SaneN p ∧ 0 ≤ t ∧ t < b ∧ b ≤ g.length
instance (g : List Rw) (t b : Int) (p : Pn) : Decidable (MayG g t b p) := inferInstanceAs (Decidable (_ ∧ _ ∧ _ ∧ _ ∧ _))
def upL (g : List Rw) (t b k : Nat) (B : Rw) : List Rw := g.take t ++ ((g.take b).drop (t + k) ++ (List.replicate k B ++ g.drop b))
def downL (g : List Rw) (t b k : Nat) (B : Rw) : List Rw := g.take t ++ (List.replicate k B ++ ((g.take (b - k)).drop t ++ g.drop b))
def goneL (g : List Rw) (t k : Nat) : List Rw := (g.take (t + k)).drop t
def upG (g : List Rw) (t b n : Int) (p : Pn) : List Rw := if MayG g t b p then upL g t.toNat b.toNat (max 0 (min n (b - t))).toNat (newR (widthG g) p) else g
def goneG (g : List Rw) (t b n : Int) (p : Pn) : List Rw := if MayG g t b p then goneL g t.toNat (max 0 (min n (b - t))).toNat else []
def downG (g : List Rw) (t b n : Int) (p : Pn) : List Rw := if MayG g t b p then downL g t.toNat b.toNat (max 0 (min n (b - t))).toNat (newR (widthG g) p) else g
def setG (g : List Rw) (y : Int) (r : Rw) : List Rw := if SaneG g ∧ 0 ≤ y ∧ y < g.length ∧ SaneR r ∧ r.cs.length = widthG g then g.set y.toNat r else g
def clearL (g : List Rw) (a b : Int) (B : Rw) : List Rw := g.mapIdx fun i r => if a ≤ i ∧ (i : Int) < b then B else r
def clearG (g : List Rw) (a b : Int) (p : Pn) : List Rw := if SaneG g ∧ SaneN p then clearL g a b (newR (widthG g) p) else g
/- where what stands -/
theorem upL_len {g : List Rw} {t b k : Nat} {B : Rw} (h1 : t + k ≤ b) (h2 : b ≤ g.length) : (upL g t b k B).length = g.length := by
  unfold upL; simp only [List.length_append, List.length_take, List.length_drop, List.length_replicate]; omega
theorem downL_len {g : List Rw} {t b k : Nat} {B : Rw} (h1 : t + k ≤ b) (h2 : b ≤ g.length) : (downL g t b k B).length = g.length := by
  unfold downL; simp only [List.length_append, List.length_take, List.length_drop, List.length_replicate]; omega
theorem goneL_len {g : List Rw} {t k : Nat} (h : t + k ≤ g.length) : (goneL g t k).length = k := by
  unfold goneL; simp only [List.length_take, List.length_drop]; omega
theorem upL_at {g : List Rw} {t b k : Nat} {B : Rw} (h1 : t + k ≤ b) (h2 : b ≤ g.length) (i : Nat) :
    (upL g t b k B)[i]? = if i < t then g[i]? else if i < b - k then g[i + k]? else if i < b then some B else g[i]? := by
  unfold upL
  have l1 : (g.take t).length = t := by rw [List.length_take]; omega
  have l2 : ((g.take b).drop (t + k)).length = b - k - t := by rw [List.length_drop, List.length_take]; omega
  by_cases c1 : i < t
  · rw [if_pos c1, List.getElem?_append_left (by omega), List.getElem?_take, if_pos c1]
  · rw [if_neg c1, List.getElem?_append_right (by omega), l1]
    by_cases c2 : i < b - k
    · rw [if_pos c2, List.getElem?_append_left (by omega), List.getElem?_drop, List.getElem?_take, if_pos (by omega)]
      congr 1; omega
    · rw [if_neg c2, List.getElem?_append_right (by omega), l2]
      by_cases c3 : i < b
      · rw [if_pos c3, List.getElem?_append_left (by rw [List.length_replicate]; omega), List.getElem?_replicate, if_pos (by omega)]
      · rw [if_neg c3, List.getElem?_append_right (by rw [List.length_replicate]; omega), List.length_replicate, List.getElem?_drop]
        congr 1; omega
theorem downL_at {g : List Rw} {t b k : Nat} {B : Rw} (h1 : t + k ≤ b) (h2 : b ≤ g.length) (i : Nat) :
    (downL g t b k B)[i]? = if i < t then g[i]? else if i < t + k then some B else if i < b then g[i - k]? else g[i]? := by
  unfold downL
  have l1 : (g.take t).length = t := by rw [List.length_take]; omega
  have l2 : ((g.take (b - k)).drop t).length = b - k - t := by rw [List.length_drop, List.length_take]; omega
  by_cases c1 : i < t
  · rw [if_pos c1, List.getElem?_append_left (by omega), List.getElem?_take, if_pos c1]
  · rw [if_neg c1, List.getElem?_append_right (by omega), l1]
    by_cases c2 : i < t + k
    · rw [if_pos c2, List.getElem?_append_left (by rw [List.length_replicate]; omega), List.getElem?_replicate, if_pos (by omega)]
    · rw [if_neg c2, List.getElem?_append_right (by rw [List.length_replicate]; omega), List.length_replicate]
      by_cases c3 : i < b
      · rw [if_pos c3, List.getElem?_append_left (by omega), List.getElem?_drop, List.getElem?_take, if_pos (by omega)]
        congr 1; omega
      · rw [if_neg c3, List.getElem?_append_right (by omega), l2, List.getElem?_drop]
        congr 1; omega
theorem goneL_at {g : List Rw} {t k : Nat} (i : Nat) : (goneL g t k)[i]? = if i < k then g[t + i]? else none := by
  unfold goneL
  rw [List.getElem?_drop, List.getElem?_take]
  by_cases c : i < k
  · rw [if_pos c, if_pos (by omega)]
  · rw [if_neg c, if_neg (by omega)]
/-- One by one. -/
theorem upL_step {g : List Rw} {t b k : Nat} {B : Rw} (h1 : t + (k + 1) ≤ b) (h2 : b ≤ g.length) : upL (upL g t b k B) t b 1 B = upL g t b (k + 1) B := by
  apply List.ext_getElem?
  intro i
  have h3 := upL_len (g := g) (t := t) (b := b) (k := k) (B := B) (by omega) h2
  rw [upL_at (by omega) (by omega), upL_at (by omega) h2, upL_at (by omega) h2, upL_at (by omega) h2]
  repeat' split
  all_goals first | rfl | omega | (congr 1; omega)
theorem goneL_step {g : List Rw} {t b k : Nat} {B : Rw} (h1 : t + (k + 1) ≤ b) (h2 : b ≤ g.length) : goneL g t (k + 1) = goneL g t k ++ goneL (upL g t b k B) t 1 := by
  apply List.ext_getElem?
  intro i
  have l1 := goneL_len (g := g) (t := t) (k := k) (by omega)
  rw [goneL_at]
  by_cases c : i < k
  · rw [if_pos (by omega), List.getElem?_append_left (by omega), goneL_at, if_pos c]
  · rw [List.getElem?_append_right (by omega), l1, goneL_at]
    by_cases c2 : i < k + 1
    · rw [if_pos c2, if_pos (by omega), upL_at (by omega) h2, if_neg (by omega), if_pos (by omega)]
      congr 1; omega
    · rw [if_neg c2, if_neg (by omega)]
theorem upL_zero (g : List Rw) (t b : Nat) (B : Rw) (h1 : t ≤ b) (h2 : b ≤ g.length) : upL g t b 0 B = g := by
  apply List.ext_getElem?
  intro i
  rw [upL_at (by omega) h2]
  repeat' split
  all_goals first | rfl | omega
theorem goneL_zero (g : List Rw) (t : Nat) : goneL g t 0 = [] := by
  apply List.ext_getElem?
  intro i
  rw [goneL_at, if_neg (by omega)]; rfl
theorem clearL_len (g : List Rw) (a b : Int) (B : Rw) : (clearL g a b B).length = g.length := by simp [clearL]
theorem clearL_at (g : List Rw) (a b : Int) (B : Rw) (i : Nat) : (clearL g a b B)[i]? = (g[i]?).map fun r => if a ≤ i ∧ (i : Int) < b then B else r := by simp [clearL, List.getElem?_mapIdx]
/- what is sane -/
theorem new_saneR {n : Nat} (h1 : 1 ≤ n) (h2 : n ≤ 4096) {p : Pn} (hp : SaneN p) : SaneR (newR n p) ∧ (newR n p).cs.length = n := by
  have e : (max 1 (min (n : Int) 4096)).toNat = n := by omega
  have hl : (newR n p).cs.length = n := by unfold newR; simp only [List.length_replicate]; exact e
  have hw : ∀ i, wAt (newR n p).cs i = 1 := fun i => by
    unfold newR
    simp only
    by_cases hi : i < (max 1 (min (n : Int) 4096)).toNat
    · exact wAt_some (by rw [List.getElem?_replicate, if_pos hi])
    · exact wAt_none (by rw [List.length_replicate]; omega)
  refine ⟨⟨by omega, fun c hc => ?_, mend_same.2 fun i hb => ?_, ?_, ?_⟩, hl⟩
  · unfold newR at hc
    rw [(List.mem_replicate.1 hc).2]
    exact blank_one hp
  · unfold BadAt at hb
    rw [hw, hw, hw] at hb
    omega
  · simp [newR]
  · simp [newR]
theorem SaneG.row {g : List Rw} (h : SaneG g) {i : Nat} {r : Rw} (hr : g[i]? = some r) : SaneR r ∧ r.cs.length = widthG g := h.2 r (List.mem_of_getElem? hr)
theorem SaneG.width {g : List Rw} (h : SaneG g) : 1 ≤ widthG g ∧ widthG g ≤ 4096 := by
  have := h.1.1
  obtain ⟨r, hr⟩ : ∃ r, g[0]? = some r := ⟨_, List.getElem?_eq_getElem (by omega)⟩
  obtain ⟨h1, h2⟩ := h.row hr
  have := h1.1
  omega
/-- Rows that are sane, all as wide, make a grid. -/
theorem saneG_of {g : List Rw} {n : Nat} (h1 : 1 ≤ g.length) (h2 : g.length ≤ 1000) (h3 : ∀ (i : Nat) (r : Rw), g[i]? = some r → SaneR r ∧ r.cs.length = n) : SaneG g ∧ widthG g = n := by
  obtain ⟨r, hr⟩ : ∃ r, g[0]? = some r := ⟨_, List.getElem?_eq_getElem (by omega)⟩
  have e : widthG g = n := by unfold widthG; rw [hr]; exact (h3 0 r hr).2
  refine ⟨⟨⟨h1, h2⟩, fun x hx => ?_⟩, e⟩
  obtain ⟨i, hi, rfl⟩ := List.getElem_of_mem hx
  rw [e]
  exact h3 i _ (List.getElem?_eq_getElem hi)
theorem SaneG.sub {g g' : List Rw} {p : Pn} (h : SaneG g) (hp : SaneN p) (hl : g'.length = g.length) (hat : ∀ (i : Nat) (r : Rw), g'[i]? = some r → r = newR (widthG g) p ∨ r ∈ g) : SaneG g' ∧ widthG g' = widthG g := by
  have hw := h.width
  refine saneG_of (by rw [hl]; exact h.1.1) (by rw [hl]; exact h.1.2) fun i r hr => ?_
  rcases hat i r hr with e | e
  · rw [e]; exact new_saneR hw.1 hw.2 hp
  · exact h.2 r e
theorem upG_sane {g : List Rw} (h : SaneG g) (t b n : Int) (p : Pn) : SaneG (upG g t b n p) ∧ widthG (upG g t b n p) = widthG g ∧ (upG g t b n p).length = g.length := by
  unfold upG
  split
  · rename_i hm
    obtain ⟨_, hp, h1, h2, h3⟩ := hm
    have hl : (upL g t.toNat b.toNat (max 0 (min n (b - t))).toNat (newR (widthG g) p)).length = g.length := upL_len (by omega) (by omega)
    obtain ⟨h4, h5⟩ := h.sub hp hl (fun i r hr => by
      rw [upL_at (by omega) (by omega)] at hr
      split at hr
      · exact .inr (List.mem_of_getElem? hr)
      · split at hr
        · exact .inr (List.mem_of_getElem? hr)
        · split at hr
          · injection hr with hr; exact .inl hr.symm
          · exact .inr (List.mem_of_getElem? hr))
    exact ⟨h4, h5, hl⟩
  · exact ⟨h, rfl, rfl⟩
theorem downG_sane {g : List Rw} (h : SaneG g) (t b n : Int) (p : Pn) : SaneG (downG g t b n p) ∧ widthG (downG g t b n p) = widthG g ∧ (downG g t b n p).length = g.length := by
  unfold downG
  split
  · rename_i hm
    obtain ⟨_, hp, h1, h2, h3⟩ := hm
    have hl : (downL g t.toNat b.toNat (max 0 (min n (b - t))).toNat (newR (widthG g) p)).length = g.length := downL_len (by omega) (by omega)
    obtain ⟨h4, h5⟩ := h.sub hp hl (fun i r hr => by
      rw [downL_at (by omega) (by omega)] at hr
      split at hr
      · exact .inr (List.mem_of_getElem? hr)
      · split at hr
        · injection hr with hr; exact .inl hr.symm
        · split at hr
          · exact .inr (List.mem_of_getElem? hr)
          · exact .inr (List.mem_of_getElem? hr))
    exact ⟨h4, h5, hl⟩
  · exact ⟨h, rfl, rfl⟩
theorem setG_sane {g : List Rw} (h : SaneG g) (y : Int) (r : Rw) : SaneG (setG g y r) ∧ widthG (setG g y r) = widthG g ∧ (setG g y r).length = g.length := by
  unfold setG
  split
  · rename_i hm
    obtain ⟨_, h1, h2, h3, h4⟩ := hm
    have hl : (g.set y.toNat r).length = g.length := List.length_set
    obtain ⟨h5, h6⟩ := saneG_of (g := g.set y.toNat r) (n := widthG g) (by rw [hl]; exact h.1.1) (by rw [hl]; exact h.1.2) (fun i x hx => by
      rw [List.getElem?_set] at hx
      split at hx
      · split at hx
        · injection hx with hx; subst hx; exact ⟨h3, h4⟩
        · cases hx
      · exact h.row hx)
    exact ⟨h5, h6, hl⟩
  · exact ⟨h, rfl, rfl⟩
/-- What goes up comes down. -/
theorem scrolls_said {g : List Rw} (h : SaneG g) {t b k : Nat} (h1 : t < b) (h2 : b ≤ g.length) (h3 : t + k ≤ b) :
    let a := upG g t b k zeroN
    let c := downG a t b k zeroN
    let o := goneG g t b k zeroN
    let B := newR (widthG g) zeroN
    (SaneG a ∧ SaneG c ∧ a.length = g.length ∧ c.length = g.length ∧ o.length = k) ∧
    ∀ i, i < g.length → ((t ≤ i → i < t + k → o[i - t]? = g[i]? ∧ c[i]? = some B) ∧ (¬ (t ≤ i ∧ i < t + k) → c[i]? = g[i]?) ∧ ((i < t ∨ b ≤ i) → a[i]? = g[i]?) ∧ (b - k ≤ i → i < b → a[i]? = some B)) := by
  intro a c o B
  have hz := zeroN_sane
  have e : (max 0 (min (k : Int) ((b : Int) - t))).toNat = k := by omega
  obtain ⟨s1, s2, s3⟩ := upG_sane h t b k zeroN
  obtain ⟨s4, s5, s6⟩ := downG_sane s1 t b k zeroN
  have ea : a = upL g t b k B := by
    show upG g t b k zeroN = _
    unfold upG
    rw [if_pos ⟨h, hz, by omega, by omega, by omega⟩, e]
    rfl
  have hal : a.length = g.length := s3
  have ec : c = downL a t b k B := by
    show downG a t b k zeroN = _
    unfold downG
    rw [if_pos ⟨s1, hz, by omega, by omega, by omega⟩, e, s2]
    rfl
  have eo : o = goneL g t k := by
    show goneG g t b k zeroN = _
    unfold goneG
    rw [if_pos ⟨h, hz, by omega, by omega, by omega⟩, e]
    rfl
  have at_a := fun i => upL_at (g := g) (t := t) (b := b) (k := k) (B := B) h3 h2 i
  have at_c := fun i => downL_at (g := a) (t := t) (b := b) (k := k) (B := B) h3 (by omega) i
  refine ⟨⟨s1, s4, s3, s6.trans s3, by rw [eo]; exact goneL_len (by omega)⟩, fun i hi => ⟨fun q1 q2 => ⟨?_, ?_⟩, fun q => ?_, fun q => ?_, fun q1 q2 => ?_⟩⟩
  · rw [eo, goneL_at, if_pos (by omega)]; congr 1; omega
  · rw [ec, at_c, if_neg (by omega), if_pos q2]
  · rw [ec, at_c]
    by_cases c1 : i < t
    · rw [if_pos c1, ea, at_a, if_pos c1]
    · rw [if_neg c1, if_neg (by omega)]
      by_cases c2 : i < b
      · rw [if_pos c2, ea, at_a, if_neg (by omega), if_pos (by omega)]
        congr 1; omega
      · rw [if_neg c2, ea, at_a, if_neg c1, if_neg (by omega), if_neg c2]
  · rw [ea, at_a]
    by_cases c1 : i < t
    · rw [if_pos c1]
    · rw [if_neg c1, if_neg (by omega), if_neg (by omega)]
  · rw [ea, at_a, if_neg (by omega), if_neg (by omega), if_pos q2]
/-- A row that is set is there. -/
theorem sets_said {g : List Rw} (h : SaneG g) {k : Nat} (hk : k < g.length) (r : Rw) :
    let s := setG g k r
    let c := clearG s k (k + 1 : Nat) zeroN
    (SaneG s ∧ s.length = g.length ∧ c.length = g.length) ∧
    (∀ i, s[i]? = if i = k ∧ (SaneR r ∧ r.cs.length = widthG g) then some r else g[i]?) ∧
    (∀ x, g[k]? = some x → setG s k x = g) ∧ c[k]? = some (newR (widthG g) zeroN) := by
  intro s c
  obtain ⟨s1, s2, s3⟩ := setG_sane h (k : Int) r
  have hs : ∀ i, s[i]? = if i = k ∧ (SaneR r ∧ r.cs.length = widthG g) then some r else g[i]? := fun i => by
    show (setG g k r)[i]? = _
    unfold setG
    by_cases hm : SaneR r ∧ r.cs.length = widthG g
    · rw [if_pos ⟨h, by omega, by omega, hm.1, hm.2⟩, List.getElem?_set, show ((k : Nat) : Int).toNat = k from rfl]
      by_cases e : k = i
      · rw [if_pos e, if_pos hk, if_pos ⟨e.symm, hm⟩]
      · rw [if_neg e, if_neg (fun q => e q.1.symm)]
    · rw [if_neg (fun q => hm ⟨q.2.2.2.1, q.2.2.2.2⟩), if_neg (fun q => hm q.2)]
  have ec : c = clearL s k (k + 1 : Nat) (newR (widthG g) zeroN) := by
    show clearG s k (k + 1 : Nat) zeroN = _
    unfold clearG
    rw [if_pos ⟨s1, zeroN_sane⟩, s2]
  refine ⟨⟨s1, s3, by rw [ec, clearL_len]; exact s3⟩, hs, fun x hx => ?_, ?_⟩
  · obtain ⟨x1, x2⟩ := h.row hx
    unfold setG
    rw [if_pos ⟨s1, by omega, by rw [s3]; omega, x1, by rw [s2]; exact x2⟩]
    apply List.ext_getElem?
    intro i
    rw [List.getElem?_set, show ((k : Nat) : Int).toNat = k from rfl]
    by_cases e : k = i
    · rw [if_pos e, if_pos (by show k < (setG g k r).length; omega), ← hx, e]
    · rw [if_neg e, hs, if_neg (fun q => e q.1.symm)]
  · have hl : s.length = g.length := s3
    rw [ec, clearL_at, List.getElem?_eq_getElem (by omega)]
    simp only [Option.map_some]
    rw [if_pos (by omega)]
/-- As many one by one. -/
theorem steps_said {g : List Rw} (h : SaneG g) {t b : Nat} (h1 : t < b) (h2 : b ≤ g.length) :
    (upG g t b (0 : Nat) zeroN = g ∧ goneG g t b (0 : Nat) zeroN = []) ∧
    (∀ k, t + (k + 1) ≤ b → upG (upG g t b k zeroN) t b (1 : Nat) zeroN = upG g t b (k + 1 : Nat) zeroN ∧ goneG g t b (k + 1 : Nat) zeroN = goneG g t b k zeroN ++ goneG (upG g t b k zeroN) t b (1 : Nat) zeroN) ∧
    (∀ n : Int, (b : Int) - t ≤ n → goneG g t b n zeroN = (g.take b).drop t ∧ ∀ y, t ≤ y → y < b → (upG g t b n zeroN)[y]? = some (newR (widthG g) zeroN)) := by
  have hz := zeroN_sane
  have mg : MayG g t b zeroN := ⟨h, hz, by omega, by omega, by omega⟩
  have eU : ∀ k : Nat, t + k ≤ b → upG g t b k zeroN = upL g t b k (newR (widthG g) zeroN) := fun k hk => by
    unfold upG
    rw [if_pos mg, show (max 0 (min (k : Int) ((b : Int) - t))).toNat = k from by omega]
    rfl
  have eG : ∀ k : Nat, t + k ≤ b → goneG g t b k zeroN = goneL g t k := fun k hk => by
    unfold goneG
    rw [if_pos mg, show (max 0 (min (k : Int) ((b : Int) - t))).toNat = k from by omega]
    rfl
  refine ⟨⟨?_, ?_⟩, fun k hk => ?_, fun n hn => ?_⟩
  · rw [eU 0 (by omega)]; exact upL_zero g t b _ (by omega) h2
  · rw [eG 0 (by omega)]; exact goneL_zero g t
  · obtain ⟨s1, s2, s3⟩ := upG_sane h t b k zeroN
    have ma : MayG (upG g t b k zeroN) t b zeroN := ⟨s1, hz, by omega, by omega, by omega⟩
    have e1 : (max 0 (min ((1 : Nat) : Int) ((b : Int) - t))).toNat = 1 := by omega
    have eUk := eU k (by omega)
    have eU1 := eU (k + 1) hk
    have eG1 := eG (k + 1) hk
    have eGk := eG k (by omega)
    generalize upG g t b k zeroN = G at *
    have a1 : upG G t b (1 : Nat) zeroN = upL G t b 1 (newR (widthG g) zeroN) := by
      unfold upG
      rw [if_pos ma, e1, s2]
      rfl
    have a2 : goneG G t b (1 : Nat) zeroN = goneL G t 1 := by
      unfold goneG
      rw [if_pos ma, e1]
      rfl
    rw [a1, a2, eU1, eG1, eGk, eUk]
    exact ⟨upL_step hk h2, goneL_step hk h2⟩
  · have e2 : (max 0 (min n ((b : Int) - t))).toNat = b - t := by omega
    constructor
    · unfold goneG
      rw [if_pos mg, e2]
      show (g.take (t + (b - t))).drop t = _
      rw [show t + (b - t) = b from by omega]
    · intro y q1 q2
      unfold upG
      rw [if_pos mg, e2]
      show (upL g t b (b - t) _)[y]? = _
      rw [upL_at (by omega) h2, if_neg (by omega), if_neg (by omega), if_pos q2]
end Go.Proofs.Ytinbdpfjpcgikaa

namespace Go.Proofs.Ytinbdpfjpcgikaa
set_option linter.unusedVariables false
set_option linter.unusedSimpArgs false

structure Kp where
  rs : List Rw
  cap : Int
deriving DecidableEq
def newK (c : Int) : Kp := ⟨[], max 0 (min c 200)⟩
def SaneK (k : Kp) : Prop := (∀ r ∈ k.rs, SaneR r) ∧ 0 ≤ k.cap ∧ k.cap ≤ 200 ∧ (k.rs.length : Int) ≤ k.cap
instance (k : Kp) : Decidable (SaneK k) := inferInstanceAs (Decidable (_ ∧ _ ∧ _ ∧ _))
def lastL (n : Nat) (l : List Rw) : List Rw := l.drop (l.length - n)
def sanes (l : List Rw) : List Rw := l.filter fun r => decide (SaneR r)
def pushK (k : Kp) (l : List Rw) : Kp := if SaneK k then ⟨lastL k.cap.toNat (k.rs ++ sanes l), k.cap⟩ else ⟨[], 0⟩
def leftK (k : Kp) (n : Int) : Nat := k.rs.length - (max 0 (min n k.rs.length)).toNat
def takeK (k : Kp) (n : Int) : Kp := if SaneK k then ⟨k.rs.take (leftK k n), k.cap⟩ else ⟨[], 0⟩
def tookK (k : Kp) (n : Int) : List Rw := if SaneK k then k.rs.drop (leftK k n) else []
def zeroR : Rw := ⟨[], false, 0, false⟩
def AtK (k : Kp) (n : Int) : Prop := SaneK k ∧ 0 ≤ n ∧ n < k.rs.length
instance (k : Kp) (n : Int) : Decidable (AtK k n) := inferInstanceAs (Decidable (_ ∧ _ ∧ _))
def atK (k : Kp) (n : Int) : Rw := if AtK k n then (k.rs[k.rs.length - 1 - n.toNat]?).getD zeroR else zeroR
def windowK (k : Kp) (g : List Rw) (back : Int) : List Rw := if SaneK k ∧ SaneG g then ((k.rs ++ g).drop (leftK k back)).take g.length else []
def sumC : List Rw → Nat
  | [] => 0
  | r :: l => r.cs.length + sumC l
def cellsK (k : Kp) : Nat := if SaneK k then sumC k.rs else 0
theorem sumC_app (a b : List Rw) : sumC (a ++ b) = sumC a + sumC b := by
  induction a with
  | nil => simp [sumC]
  | cons x l ih => simp [sumC, ih]; omega
theorem sumC_ge {l : List Rw} (h : ∀ r ∈ l, SaneR r) : l.length ≤ sumC l := by
  induction l with
  | nil => simp [sumC]
  | cons x l ih =>
    have h1 := (h x (by simp)).1.1
    have h2 := ih fun r hr => h r (by simp [hr])
    simp [sumC]
    omega
theorem lastL_len (n : Nat) (l : List Rw) : (lastL n l).length = min n l.length := by unfold lastL; rw [List.length_drop]; omega
theorem lastL_mem {n : Nat} {l : List Rw} {r : Rw} (h : r ∈ lastL n l) : r ∈ l := List.mem_of_mem_drop h
theorem lastL_all {n : Nat} {l : List Rw} (h : l.length ≤ n) : lastL n l = l := by unfold lastL; rw [show l.length - n = 0 from by omega]; rfl
theorem lastL_app {n : Nat} {a b : List Rw} (h : b.length ≤ n) : lastL n (a ++ b) = lastL (n - b.length) a ++ b := by
  unfold lastL
  rw [List.length_append, List.drop_append, show a.length + b.length - n - a.length = 0 from by omega, List.drop_zero]
  congr 2
  omega
theorem lastL_lastL (n : Nat) (a b : List Rw) : lastL n (lastL n a ++ b) = lastL n (a ++ b) := by
  unfold lastL
  by_cases h : a.length ≤ n
  · rw [show a.length - n = 0 from by omega, List.drop_zero]
  · have e : (a ++ b).drop ((a ++ b).length - n) = (a.drop (a.length - n) ++ b).drop ((a.drop (a.length - n) ++ b).length - n) := by
      have h1 : a.drop (a.length - n) ++ b = (a ++ b).drop (a.length - n) := by
        rw [List.drop_append, show a.length - n - a.length = 0 from by omega, List.drop_zero]
      rw [h1, List.drop_drop, List.length_drop, List.length_append]
      congr 1
      omega
    exact e.symm
theorem sanes_app (a b : List Rw) : sanes (a ++ b) = sanes a ++ sanes b := by simp [sanes]
theorem sanes_all {l : List Rw} (h : ∀ r ∈ l, SaneR r) : sanes l = l := by unfold sanes; rw [List.filter_eq_self]; intro r hr; exact decide_eq_true (h r hr)
theorem sanes_sane {l : List Rw} {r : Rw} (h : r ∈ sanes l) : SaneR r := by
  unfold sanes at h
  exact of_decide_eq_true (List.mem_filter.1 h).2
theorem newK_sane (c : Int) : SaneK (newK c) := ⟨by simp [newK], by simp only [newK]; omega, by simp only [newK]; omega, by simp only [newK, List.length_nil]; omega⟩
theorem zeroK_sane : SaneK ⟨[], 0⟩ := ⟨by simp, by simp, by simp, by simp⟩
theorem pushK_sane {k : Kp} (h : SaneK k) (l : List Rw) : SaneK (pushK k l) ∧ (pushK k l).cap = k.cap ∧ (pushK k l).rs = lastL k.cap.toNat (k.rs ++ sanes l) := by
  unfold pushK
  rw [if_pos h]
  refine ⟨⟨fun r hr => ?_, h.2.1, h.2.2.1, ?_⟩, rfl, rfl⟩
  · rcases List.mem_append.1 (lastL_mem hr) with q | q
    · exact h.1 r q
    · exact sanes_sane q
  · simp only [lastL_len]
    have := h.2.1
    omega
theorem takeK_sane {k : Kp} (h : SaneK k) (n : Int) : SaneK (takeK k n) := by
  unfold takeK
  rw [if_pos h]
  refine ⟨fun r hr => h.1 r (List.mem_of_mem_take hr), h.2.1, h.2.2.1, ?_⟩
  have := h.2.2.2
  simp only [List.length_take]
  omega
/-- A row more, and the eldest one gone, where there is no room. -/
def stepL (n : Nat) (a : List Rw) (r : Rw) : List Rw :=
  let b := if SaneR r then a ++ [r] else a
  if n < b.length then b.drop 1 else b
theorem stepL_last {n : Nat} {a : List Rw} (h : a.length ≤ n) (r : Rw) : stepL n a r = lastL n (a ++ sanes [r]) ∧ (stepL n a r).length ≤ n := by
  have e : stepL n a r = lastL n (a ++ sanes [r]) := by
    unfold stepL
    by_cases hr : SaneR r
    · have es : sanes [r] = [r] := sanes_all (by simpa using hr)
      rw [es, if_pos hr]
      unfold lastL
      by_cases hn : n < (a ++ [r]).length
      · rw [if_pos hn]
        congr 1
        simp only [List.length_append, List.length_cons, List.length_nil] at hn ⊢
        omega
      · rw [if_neg hn, show (a ++ [r]).length - n = 0 from by omega]; rfl
    · have es : sanes [r] = [] := by simp [sanes, hr]
      rw [es, if_neg hr, List.append_nil, if_neg (by omega)]
      exact (lastL_all h).symm
  refine ⟨e, ?_⟩
  rw [e, lastL_len]
  omega
/-- Pushed one by one. -/
theorem push_steps {n : Nat} {a : List Rw} (h : a.length ≤ n) (l : List Rw) : l.foldl (stepL n) a = lastL n (a ++ sanes l) := by
  induction l generalizing a with
  | nil => simp [sanes, lastL_all h]
  | cons r l ih =>
    obtain ⟨h1, h2⟩ := stepL_last h r
    rw [List.foldl_cons, ih h2, h1, lastL_lastL, List.append_assoc, ← sanes_app]
    rfl
/-- What is pushed is taken again. -/
theorem takes_said {k : Kp} (h : SaneK k) {l : List Rw} (hl : ∀ r ∈ l, SaneR r) :
    let p := pushK k l
    let n : Int := min (l.length : Int) k.cap
    let left : Int := min (k.rs.length : Int) (k.cap - n)
    SaneK p ∧ tookK p n = l.drop (l.length - n.toNat) ∧ (takeK p n).rs = k.rs.drop (k.rs.length - left.toNat) ∧ (p.rs.length : Int) = n + left ∧ (takeK p n).cap = k.cap := by
  intro p n left
  obtain ⟨s1, s2, s3⟩ := pushK_sane h l
  rw [sanes_all hl] at s3
  have hc0 := h.2.1
  have hc1 := h.2.2.2
  have hn0 : 0 ≤ n := by show 0 ≤ min (l.length : Int) k.cap; omega
  have hn : n = min (l.length : Int) k.cap := rfl
  have hleft : left = min (k.rs.length : Int) (k.cap - n) := rfl
  have hpl : (p.rs.length : Int) = n + left := by
    show ((pushK k l).rs.length : Int) = _
    rw [s3, lastL_len, List.length_append, hleft, hn]
    omega
  have hlk : leftK p n = p.rs.length - n.toNat := by unfold leftK; omega
  have htk : tookK p n = p.rs.drop (p.rs.length - n.toNat) := by show (if SaneK p then _ else _) = _; rw [if_pos s1, hlk]
  have hak : takeK p n = ⟨p.rs.take (p.rs.length - n.toNat), p.cap⟩ := by show (if SaneK p then _ else _) = _; rw [if_pos s1, hlk]
  by_cases hb : (l.length : Int) ≤ k.cap
  · have hnl : n.toNat = l.length := by omega
    have e : p.rs = lastL (k.cap.toNat - l.length) k.rs ++ l := by
      show (pushK k l).rs = _
      rw [s3, lastL_app (by omega)]
    have el : (lastL (k.cap.toNat - l.length) k.rs).length = p.rs.length - n.toNat := by
      rw [e, List.length_append]; omega
    refine ⟨s1, ?_, ?_, hpl, by rw [hak]; exact s2⟩
    · rw [htk, ← el, e, List.drop_left' rfl, hnl, Nat.sub_self, List.drop_zero]
    · rw [hak]
      show p.rs.take _ = _
      rw [← el]
      conv => lhs; rw [e]
      rw [List.take_left' rfl]
      unfold lastL
      congr 1
      omega
  · have hnl : n.toNat = k.cap.toNat := by omega
    have e : p.rs = l.drop (l.length - k.cap.toNat) := by
      show (pushK k l).rs = _
      rw [s3]
      unfold lastL
      rw [List.drop_append, List.drop_of_length_le (by rw [List.length_append]; omega), List.nil_append, List.length_append]
      congr 1
      omega
    have el : p.rs.length = n.toNat := by rw [e, List.length_drop]; omega
    refine ⟨s1, ?_, ?_, hpl, by rw [hak]; exact s2⟩
    · rw [htk, el, Nat.sub_self, List.drop_zero, e, hnl]
    · rw [hak, el, Nat.sub_self]
      have : left = 0 := by omega
      rw [this]
      simp
/-- Pushed in lots. -/
theorem lots_said {k : Kp} (h : SaneK k) (l : List Rw) (m : Nat) :
    pushK (pushK k (l.take m)) (l.drop m) = pushK k l ∧ (pushK (newK 0) l).rs = [] ∧ (pushK k l).rs.length ≤ cellsK (pushK k l) ∧ ((pushK k l).rs.length : Int) ≤ (pushK k l).cap := by
  obtain ⟨s1, s2, s3⟩ := pushK_sane h (l.take m)
  obtain ⟨t1, t2, t3⟩ := pushK_sane s1 (l.drop m)
  obtain ⟨u1, u2, u3⟩ := pushK_sane h l
  obtain ⟨v1, v2, v3⟩ := pushK_sane (newK_sane 0) l
  refine ⟨?_, ?_, ?_, u1.2.2.2⟩
  · have e1 : (pushK (pushK k (l.take m)) (l.drop m)).rs = (pushK k l).rs := by
      rw [t3, s2, s3, lastL_lastL, List.append_assoc, ← sanes_app, List.take_append_drop, u3]
    have e2 : (pushK (pushK k (l.take m)) (l.drop m)).cap = (pushK k l).cap := by rw [t2, s2, u2]
    generalize pushK (pushK k (l.take m)) (l.drop m) = a at *
    generalize pushK k l = b at *
    obtain ⟨a1, a2⟩ := a
    obtain ⟨b1, b2⟩ := b
    simp only at e1 e2
    rw [e1, e2]
  · rw [v3]
    have : (newK 0).cap.toNat = 0 := rfl
    rw [this]
    unfold lastL
    rw [Nat.sub_zero, List.drop_length]
  · unfold cellsK
    rw [if_pos u1]
    exact sumC_ge u1.1
/-- What is seen goes back step by step. -/
theorem windows_said {k : Kp} (h : SaneK k) {g : List Rw} (hg : SaneG g) :
    windowK k g 0 = g ∧ (∀ n : Int, (k.rs.length : Int) ≤ n → windowK k g n = windowK k g (k.rs.length : Int)) ∧
    ∀ b : Nat, b < k.rs.length → (windowK k g b).length = g.length ∧ (windowK k g ((b : Int) + 1)).length = g.length ∧ AtK k b ∧ (windowK k g ((b : Int) + 1))[0]? = some (atK k b) ∧ (windowK k g ((b : Int) + 1)).drop 1 = (windowK k g b).take (g.length - 1) := by
  have hg1 := hg.1.1
  have ew : ∀ n, windowK k g n = ((k.rs ++ g).drop (leftK k n)).take g.length := fun n => by unfold windowK; rw [if_pos ⟨h, hg⟩]
  have hl0 : leftK k 0 = k.rs.length := by unfold leftK; omega
  refine ⟨?_, fun n hn => ?_, fun b hb => ?_⟩
  · rw [ew, hl0, List.drop_left' rfl, List.take_length]
  · rw [ew, ew]
    congr 2
    unfold leftK
    omega
  · have e1 : leftK k b = k.rs.length - b := by unfold leftK; omega
    have e2 : leftK k ((b : Int) + 1) = k.rs.length - b - 1 := by unfold leftK; omega
    have ha : AtK k b := ⟨h, by omega, by omega⟩
    refine ⟨?_, ?_, ha, ?_, ?_⟩
    · rw [ew, List.length_take, List.length_drop, List.length_append, e1]; omega
    · rw [ew, List.length_take, List.length_drop, List.length_append, e2]; omega
    · rw [ew, e2, List.getElem?_take, if_pos (by omega), List.getElem?_drop, List.getElem?_append_left (by omega)]
      unfold atK
      rw [if_pos ha]
      have hi : k.rs.length - 1 - (b : Int).toNat < k.rs.length := by omega
      rw [List.getElem?_eq_getElem hi, Option.getD_some, show k.rs.length - b - 1 + 0 = k.rs.length - 1 - (b : Int).toNat from by omega, List.getElem?_eq_getElem hi]
    · apply List.ext_getElem?
      intro i
      rw [ew, ew, e1, e2, List.getElem?_drop, List.getElem?_take, List.getElem?_drop, List.getElem?_take, List.getElem?_take, List.getElem?_drop]
      by_cases c : i < g.length - 1
      · rw [if_pos (by omega), if_pos c, if_pos (by omega)]
        congr 1
        omega
      · rw [if_neg (by omega), if_neg c]
end Go.Proofs.Ytinbdpfjpcgikaa

namespace Go.Proofs.Ytinbdpfjpcgikaa
open Go Go.RowKit
set_option linter.unusedVariables false
set_option linter.unusedSimpArgs false

/-- Rows that are kept are told. -/
def GivesK (k : Kp) (W : World) (e : Ending) (w' : World) : Prop := ∃ A c es, e = .returned (.agg #[.slice A (List.length es) c, .int .i64 k.cap]) ∧ InG w' A c es ∧ rws es = k.rs ∧ Below W.heap.size W w'
def New10C : Prop := ∀ (n : Int) (w : World), I64 n → Calls Try.prog 26 #[.int .i64 n] w (GivesK (newK n) w)
def Sane10C : Prop := ∀ (A : Option Addr) (c : Nat) (es : List Rl) (m : Int) (w : World), InG w A c es → RsOk (rws es) → I64 m → es.length ≤ 1000 →
  Calls Try.prog 24 #[.agg #[.slice A es.length c, .int .i64 m]] w fun e w' => e = .returned (.bool (decide (SaneK ⟨rws es, m⟩))) ∧ Below w.heap.size w w'
def Push10C : Prop := ∀ (A : Option Addr) (c : Nat) (es : List Rl) (m : Int) (B : Option Addr) (d : Nat) (fs : List Rl) (w : World), InG w A c es → RsOk (rws es) → I64 m → es.length ≤ 1000 → InG w B d fs → RsOk (rws fs) → fs.length ≤ 1000 →
  Calls Try.prog 18 #[.agg #[.slice A es.length c, .int .i64 m], .slice B fs.length d] w (GivesK (pushK ⟨rws es, m⟩ (rws fs)) w)
def Take10C : Prop := ∀ (A : Option Addr) (c : Nat) (es : List Rl) (m n : Int) (w : World), InG w A c es → RsOk (rws es) → I64 m → es.length ≤ 1000 → I64 n →
  Calls Try.prog 10 #[.agg #[.slice A es.length c, .int .i64 m], .int .i64 n] w fun e w' => ∃ A1 c1 e1 A2 c2 e2, e = .returned (.tuple #[.agg #[.slice A1 (List.length e1) c1, .int .i64 (takeK ⟨rws es, m⟩ n).cap], .slice A2 (List.length e2) c2]) ∧ InG w' A1 c1 e1 ∧ rws e1 = (takeK ⟨rws es, m⟩ n).rs ∧ InG w' A2 c2 e2 ∧ rws e2 = tookK ⟨rws es, m⟩ n ∧ Below w.heap.size w w'
def At10C : Prop := ∀ (A : Option Addr) (c : Nat) (es : List Rl) (m n : Int) (w : World), InG w A c es → RsOk (rws es) → I64 m → es.length ≤ 1000 → I64 n →
  Calls Try.prog 12 #[.agg #[.slice A es.length c, .int .i64 m], .int .i64 n] w fun e w' => ∃ x : Rl, e = .returned (.tuple #[.agg #[.slice x.A x.r.cs.length x.c, .bool x.r.wrap, .int .i64 x.r.dir, .bool x.r.ex], .bool (decide (AtK ⟨rws es, m⟩ n))]) ∧ InC w' x.A x.c x.r.cs ∧ x.r = atK ⟨rws es, m⟩ n ∧ Below w.heap.size w w'
def Window10C : Prop := ∀ (A : Option Addr) (c : Nat) (es : List Rl) (m : Int) (B : Option Addr) (d : Nat) (gs : List Rl) (n : Int) (w : World), InG w A c es → RsOk (rws es) → I64 m → es.length ≤ 1000 → InG w B d gs → RsOk (rws gs) → gs.length ≤ 1000 → I64 n →
  Calls Try.prog 20 #[.agg #[.slice A es.length c, .int .i64 m], .agg #[.slice B gs.length d], .int .i64 n] w (GivesG (windowK ⟨rws es, m⟩ (rws gs) n) w)
def Cells10C : Prop := ∀ (A : Option Addr) (c : Nat) (es : List Rl) (m : Int) (w : World), InG w A c es → RsOk (rws es) → I64 m → es.length ≤ 1000 →
  Calls Try.prog 22 #[.agg #[.slice A es.length c, .int .i64 m]] w fun e w' => e = .returned (.int .i64 (cellsK ⟨rws es, m⟩ : Int)) ∧ Below w.heap.size w w'
theorem SaneK.ok {k : Kp} (h : SaneK k) : RsOk k.rs := fun r hr => (h.1 r hr).ok
theorem SaneK.few {k : Kp} (h : SaneK k) : k.rs.length ≤ 200 := by have := h.2.2.1; have := h.2.2.2; omega
end Go.Proofs.Ytinbdpfjpcgikaa

namespace Go.Proofs.Ytinbdpfjpcgikaa
open Go Go.RowKit
set_option linter.unusedVariables false
set_option linter.unusedSimpArgs false

theorem within10_c (n m : Int) (w : World) (hn : I64 n) (hm : I64 m) : Calls Try.prog 36 #[.int .i64 n, .int .i64 m] w fun e w' => e = .returned (.int .i64 (max 0 (min n m))) ∧ w = w' := by
  unfold I64 at hn hm
  obtain ⟨hn0, hn1⟩ := hn
  obtain ⟨hm0, hm1⟩ := hm
  generalize hR : max 0 (min n m) = R
  have HR := Lib.hid hR
  clear hR
  go_enter Try.func36, Try.ntmps36
  go_wp2
  all_goals
    go_ret
    exact ⟨ret_int (by rw [← HR.out] <;> omega), rfl⟩
/-- From where on the last n of N rows stand. -/
def fromL (n : Int) (N : Nat) : Nat := N - (max 0 (min n (N : Int))).toNat
theorem fromL_le (n : Int) (N : Nat) : fromL n N ≤ N := by unfold fromL; omega
theorem within_from (n : Int) (N : Nat) (w : World) (hn : I64 n) (hN : (N : Int) ≤ 1000000) : ∃ K : Nat, (N : Int) - (K : Int) = (fromL n N : Int) ∧ Calls Try.prog 36 #[.int .i64 n, .int .i64 (N : Int)] w fun e w' => e = .returned (.int .i64 (K : Int)) ∧ w = w' := by
  refine ⟨(max 0 (min n (N : Int))).toNat, by unfold fromL; omega, (within10_c n N w hn (by unfold I64; omega)).mono ?_⟩
  rintro e w' ⟨rfl, rfl⟩
  exact ⟨by congr 2; omega, rfl⟩
set_option maxRecDepth 100000 in
set_option maxHeartbeats 1000000 in
theorem last10_c (A : Option Addr) (c : Nat) (es : List Rl) (n : Int) (w : World) (hin : InG w A c es) (hn : I64 n) (hl : es.length ≤ 1000000) :
    Calls Try.prog 32 #[.slice A es.length c, .int .i64 n] w fun e w' => ∃ B, e = .returned (.slice B (es.drop (fromL n es.length)).length (es.drop (fromL n es.length)).length) ∧ InG w' B (es.drop (fromL n es.length)).length (es.drop (fromL n es.length)) ∧ w = w' := by
  obtain ⟨K, hK, hw⟩ := within_from n es.length w hn (by omega)
  obtain ⟨B, hcut, hB⟩ := hin.last3 (fromL_le n es.length)
  generalize fromL n es.length = M at *
  generalize es.drop M = ds at *
  generalize es.length = N at *
  have HB := Lib.hid hB
  clear hB hin
  go_enter Try.func32, Try.ntmps32
  go_wp2_with fail
  refine hw.mono ?_
  rintro e v1 ⟨rfl, rfl⟩
  clear hw
  go_wp2_with fail
  go_ret
  exact ⟨B, rfl, HB.out, rfl⟩
end Go.Proofs.Ytinbdpfjpcgikaa

namespace Go.Proofs.Ytinbdpfjpcgikaa
open Go Go.RowKit
set_option linter.unusedVariables false
set_option linter.unusedSimpArgs false

def flatC (l : List Cl) : List Value := l.flatMap clCells
theorem clCells_len (c : Cl) : (clCells c).length = 7 := rfl
theorem flatC_nil : flatC [] = [] := rfl
theorem flatC_cons (c : Cl) (l : List Cl) : flatC (c :: l) = clCells c ++ flatC l := by simp [flatC]
theorem flatC_app (a b : List Cl) : flatC (a ++ b) = flatC a ++ flatC b := by simp [flatC]
theorem flatC_len (l : List Cl) : (flatC l).length = l.length * 7 := by
  induction l with
  | nil => rfl
  | cons c l ih => rw [flatC_cons, List.length_append, ih, clCells_len, List.length_cons]; omega
theorem flatC_at {l : List Cl} {k : Nat} {x : Cl} (h : l[k]? = some x) (j : Nat) (hj : j < 7) : (flatC l)[k * 7 + j]? = (clCells x)[j]? := by
  induction l generalizing k with
  | nil => simp at h
  | cons y l ih =>
    rw [flatC_cons]
    cases k with
    | zero =>
      simp at h; subst h
      rw [List.getElem?_append_left (by rw [clCells_len]; omega)]
      simp
    | succ k =>
      simp at h
      rw [List.getElem?_append_right (by rw [clCells_len]; omega), ← ih h, clCells_len]
      congr 1
      omega
theorem flatC_one (l : List Cl) : ∀ u ∈ flatC l, u.oneCell' = true := by
  intro u hu
  unfold flatC at hu
  obtain ⟨c, _, hc⟩ := List.mem_flatMap.1 hu
  simp only [clCells, List.mem_cons, List.not_mem_nil, or_false] at hc
  rcases hc with rfl | rfl | rfl | rfl | rfl | rfl | rfl <;> rfl
theorem flatC_take (l : List Cl) (k : Nat) : (flatC l).take (k * 7) = flatC (l.take k) := by
  by_cases h : k ≤ l.length
  · have e : flatC l = flatC (l.take k) ++ flatC (l.drop k) := by rw [← flatC_app, List.take_append_drop]
    rw [e, List.take_append_of_le_length (by rw [flatC_len, List.length_take]; omega), List.take_of_length_le (by rw [flatC_len, List.length_take]; omega)]
  · rw [List.take_of_length_le (by rw [flatC_len]; omega), List.take_of_length_le (by omega)]
theorem flatC_drop (l : List Cl) (k : Nat) : (flatC l).drop (k * 7) = flatC (l.drop k) := by
  by_cases h : k ≤ l.length
  · have e : flatC l = flatC (l.take k) ++ flatC (l.drop k) := by rw [← flatC_app, List.take_append_drop]
    rw [e, List.drop_append_of_le_length (by rw [flatC_len, List.length_take]; omega), List.drop_of_length_le (by rw [flatC_len, List.length_take]; omega), List.nil_append]
  · rw [List.drop_of_length_le (by rw [flatC_len]; omega), List.drop_of_length_le (by omega)]; rfl
/-- Where a row of the call's own lies. -/
def OwnC (w : World) (base : Nat) (A : Option Addr) (c : Nat) (l : List Cl) : Prop := w.ownsRow base 66 7 (.slice A l.length c) l.length (flatC l)
theorem OwnC.in_ {w : World} {base : Nat} {A : Option Addr} {c : Nat} {l : List Cl} (h : OwnC w base A c l) : InC w A c l := by
  have hc := own_cap h
  refine ⟨fun hl => ?_, hc.1, hc.2⟩
  rcases h.2 with ⟨hv, hn⟩ | ⟨g, cap, cur, hv, hb, hg, hnc, hcm, hcs, ht⟩
  · exact absurd (List.eq_nil_of_length_eq_zero hn) hl
  · injection hv with h1 h2 h3
    subst h1
    refine ⟨g, 0, rfl, (Array.getElem?_eq_some_iff.1 hg).1, fun k e hk j u hu => ?_⟩
    have hj : j < 7 := (List.getElem?_eq_some_iff.1 hu).1
    have hf := flatC_at hk j hj
    rw [hu] at hf
    have := h.cells (g := g) rfl (k * 7 + j) _ hf
    rw [← this]
    congr 1
    unfold Addr.add; split <;> simp_all <;> omega
theorem OwnC.on {w w' : World} {base : Nat} {A : Option Addr} {c : Nat} {l : List Cl} (h : OwnC w base A c l) (hb : Below w.heap.size w w') : OwnC w' base A c l := own_below h hb
theorem OwnC.cap {w : World} {base : Nat} {A : Option Addr} {c : Nat} {l : List Cl} (h : OwnC w base A c l) : l.length ≤ c ∧ c ≤ maxLen := own_cap h
theorem OwnC.at_ {w : World} {base : Nat} {A : Option Addr} {c : Nat} {l : List Cl} (h : OwnC w base A c l) (hl : l ≠ []) : ∃ g, A = some ⟨g, 0, none⟩ ∧ base ≤ g ∧ g < w.heap.size ∧ ∀ i, w.frozen? ⟨g, i, none⟩ = false := by
  rcases h.2 with ⟨hv, hn⟩ | ⟨g, cap, cur, hv, hb, hg, hnc, hcm, hcs, ht⟩
  · exact absurd (List.eq_nil_of_length_eq_zero hn) hl
  · injection hv with h1 h2 h3
    exact ⟨g, h1, hb, (Array.getElem?_eq_some_iff.1 hg).1, fun i => frozen_of_row w g i cur _ hg⟩
/-- A whole cell is stored: seven cells, one by one. -/
def putC (w : World) (g k : Nat) (x : Cl) : World :=
  ((((((w.setCell ⟨g, k * 7, none⟩ (.int .i64 x.r)).setCell ⟨g, k * 7 + 1, none⟩ (.int .i64 x.m0)).setCell ⟨g, k * 7 + 2, none⟩ (.int .i64 x.m1)).setCell ⟨g, k * 7 + 3, none⟩ (.int .i64 x.w)).setCell ⟨g, k * 7 + 4, none⟩ (.int .i64 x.pen.fg)).setCell ⟨g, k * 7 + 5, none⟩ (.int .i64 x.pen.bg)).setCell ⟨g, k * 7 + 6, none⟩ (.int .i64 x.pen.fl)
theorem flatC_set {l : List Cl} {k : Nat} {x : Cl} (hk : k < l.length) :
    (((((((flatC l).set (k * 7) (.int .i64 x.r)).set (k * 7 + 1) (.int .i64 x.m0)).set (k * 7 + 2) (.int .i64 x.m1)).set (k * 7 + 3) (.int .i64 x.w)).set (k * 7 + 4) (.int .i64 x.pen.fg)).set (k * 7 + 5) (.int .i64 x.pen.bg)).set (k * 7 + 6) (.int .i64 x.pen.fl) = flatC (l.set k x) := by
  have e : l = l.take k ++ l[k] :: l.drop (k + 1) := by
    rw [← List.drop_eq_getElem_cons hk, List.take_append_drop]
  have hlen : (flatC (l.take k)).length = k * 7 := by rw [flatC_len, List.length_take]; omega
  have e2 : l.set k x = l.take k ++ x :: l.drop (k + 1) := by
    rw [List.set_eq_take_append_cons_drop, if_pos hk]
  rw [e2]
  conv => lhs; rw [e]
  rw [flatC_app, flatC_app, flatC_cons, flatC_cons]
  have h7 : ∀ (j : Nat) (v : Value) (t : List Value), (flatC (l.take k) ++ t).set (k * 7 + j) v = flatC (l.take k) ++ t.set j v := fun j v t => by
    rw [List.set_append_right _ _ (by omega), hlen]
    congr 2
    omega
  have h70 : ∀ (v : Value) (t : List Value), (flatC (l.take k) ++ t).set (k * 7) v = flatC (l.take k) ++ t.set 0 v := fun v t => h7 0 v t
  rw [h70, h7, h7, h7, h7, h7, h7]
  simp [clCells]
theorem OwnC.put {w : World} {base g c : Nat} {l : List Cl} (h : OwnC w base (some ⟨g, 0, none⟩) c l) {k : Nat} (hk : k < l.length) (x : Cl) : OwnC (putC w g k x) base (some ⟨g, 0, none⟩) c (l.set k x) := by
  unfold OwnC at h ⊢
  rw [List.length_set, ← flatC_set hk]
  unfold putC
  exact own_set (own_set (own_set (own_set (own_set (own_set (own_set h (by omega) _) (by omega) _) (by omega) _) (by omega) _) (by omega) _) (by omega) _) (by omega) _
theorem putC_below {w0 w : World} {B g k : Nat} {x : Cl} (h : Below B w0 w) (hg : B ≤ g) : Below B w0 (putC w g k x) := by
  unfold putC
  exact ((((((h.setCell (p := ⟨g, k * 7, none⟩) hg _).setCell (p := ⟨g, k * 7 + 1, none⟩) hg _).setCell (p := ⟨g, k * 7 + 2, none⟩) hg _).setCell (p := ⟨g, k * 7 + 3, none⟩) hg _).setCell (p := ⟨g, k * 7 + 4, none⟩) hg _).setCell (p := ⟨g, k * 7 + 5, none⟩) hg _).setCell (p := ⟨g, k * 7 + 6, none⟩) hg _
/-- One field of a cell is stored. -/
theorem OwnC.set1 {w : World} {base g c : Nat} {l : List Cl} (h : OwnC w base (some ⟨g, 0, none⟩) c l) {k : Nat} {y x : Cl} (hk : l[k]? = some y) (j : Nat) (hj : j < 7) (v : Value) (e : (clCells y).set j v = clCells x) :
    OwnC (w.setCell ⟨g, k * 7 + j, none⟩ v) base (some ⟨g, 0, none⟩) c (l.set k x) := by
  obtain ⟨hlt, hy⟩ := List.getElem?_eq_some_iff.1 hk
  unfold OwnC at h ⊢
  have := own_set h (j := k * 7 + j) (by omega) v
  rw [List.length_set]
  have e1 : l = l.take k ++ l[k] :: l.drop (k + 1) := by
    rw [← List.drop_eq_getElem_cons hlt, List.take_append_drop]
  have hlen : (flatC (l.take k)).length = k * 7 := by rw [flatC_len, List.length_take]; omega
  have e2 : flatC (l.set k x) = (flatC l).set (k * 7 + j) v := by
    rw [List.set_eq_take_append_cons_drop, if_pos hlt, flatC_app, flatC_cons, ← e]
    conv => rhs; rw [e1]
    rw [flatC_app, flatC_cons, hy, List.set_append_right _ _ (by omega), hlen, show k * 7 + j - k * 7 = j from by omega, List.set_append_left _ _ (by rw [clCells_len]; omega)]
  rw [e2]
  exact this
theorem OwnC.box {w : World} {base g : Nat} {A : Option Addr} {c : Nat} {l : List Cl} {t : TypeId} {cs : Array Value} (h : OwnC w base A c l) (hb : Box w g t cs) (hne : 66 ≠ t) : (Value.slice A l.length c).ownBlock ≠ some g := by
  intro hg
  rcases h.2 with ⟨hv, _⟩ | ⟨g', cap, cur, hv, _, hg2, _⟩
  · rw [hv] at hg; simp [Value.ownBlock] at hg
  · rw [hv] at hg; simp [Value.ownBlock] at hg; subst hg
    rw [hb] at hg2
    injection hg2 with hg2; injection hg2 with _ h2
    exact hne h2.symm
/- made -/
def zeroC : Cl := ⟨0, 0, 0, 0, zeroN⟩
theorem infoCell : (Try.prog.info? 66).map (fun i => (i.zero, i.size, i.bytes)) = some (some (.agg #[.int .i64 0, .int .i64 0, .int .i64 0, .int .i64 0, .int .i64 0, .int .i64 0, .int .i64 0]), 7, 56) := by kernel_rfl
theorem made_cells (n : Nat) : (madeCells #[.int .i64 0, .int .i64 0, .int .i64 0, .int .i64 0, .int .i64 0, .int .i64 0, .int .i64 0] (n * 7)).toList = flatC (List.replicate n zeroC) := by
  apply List.ext_getElem?
  intro i
  by_cases hi : i < n * 7
  · have e : i = i / 7 * 7 + i % 7 := by omega
    have h1 : (List.replicate n zeroC)[i / 7]? = some zeroC := by
      rw [List.getElem?_replicate, if_pos (by omega)]
    have h2 := flatC_at h1 (i % 7) (by omega)
    rw [← e] at h2
    rw [h2]
    have h3 : (madeCells #[.int .i64 0, .int .i64 0, .int .i64 0, .int .i64 0, .int .i64 0, .int .i64 0, .int .i64 0] (n * 7)).toList[i]? = some (#[Value.int .i64 0, .int .i64 0, .int .i64 0, .int .i64 0, .int .i64 0, .int .i64 0, .int .i64 0][i % 7]!) := by
      simp [madeCells, hi]
    rw [h3]
    have h4 : i % 7 < 7 := by omega
    generalize i % 7 = j at *
    match j, h4 with
    | 0, _ => rfl
    | 1, _ => rfl
    | 2, _ => rfl
    | 3, _ => rfl
    | 4, _ => rfl
    | 5, _ => rfl
    | 6, _ => rfl
  · rw [List.getElem?_eq_none (by simp [madeCells]; omega), List.getElem?_eq_none (by rw [flatC_len]; simp; omega)]
section
variable {w : World} {ops : Array Oper} {rest : List Oper} {o : Oper} {a : Act} {Q : Exit → Act → World → Prop}
/-- make([]api.Cell, n). -/
theorem wpList_make_cells (hg : o.guard = none) (x y : Operand) (hop : o.op = Op.makeSlice 33 x y) (base n : Nat) (kl kc : IntKind) (L C : Int) (hl : a.eval x = .int kl L) (hc : a.eval y = .int kc C) (hL : L = (n : Int)) (hC : C = (n : Int)) (hn : n ≤ 1000000) (hb : base ≤ w.heap.size)
    (hK : ∀ w', OwnC w' base (some ⟨w.heap.size, 0, none⟩) n (List.replicate n zeroC) → Below w.heap.size w w' → wpList Try.prog ops Q rest (a.put o.dst (.slice (some ⟨w.heap.size, 0, none⟩) n n)) w') : wpList Try.prog ops Q (o :: rest) a w := by
  obtain ⟨i0, hi, hz0, hz1, hz2⟩ := info_parts infoCell
  refine wpList_make_full w hg x y 33 hop base 66 i0 _ 7 Try.underlying33 hi hz0 hz1 kl kc L C n hl hc hL hC (by rw [hz2]; omega) (by unfold maxLen; omega) hb fun w' h1 h2 => hK w' ?_ ⟨h2.os, h2.tape, h2.output, h2.size, fun k hk => h2.block k hk (by simp)⟩
  unfold OwnC
  rw [← made_cells, List.length_replicate]
  exact h1
end
/- copied -/
theorem run_copy_cells (w : World) (dT sT ty : TypeId) (g o dLen dCap : Nat) (a : Addr) (sLen sCap : Nat) (cur : Array Value) (t : TypeId) (cs : List Value) (hu : Try.prog.underlying dT = some (.slice 66))
    (hg : w.heap[g]? = some (.cells cur t (0, 0))) (hn : cs.length = Nat.min sLen dLen * 7)
    (hsrc : ∀ j v, cs[j]? = some v → w.cell? (a.add j) = some v) (hfit : o + cs.length ≤ cur.size) (h1 : ∀ v ∈ cs, v.oneCell' = true) :
    (Builtin.copy_ #[dT, sT] ty #[.slice (some ⟨g, o, none⟩) dLen dCap, .slice (some a) sLen sCap]).run Try.prog w =
      .ok (goInt (Nat.min sLen dLen)) (w.setRow g (cur.toList.take o ++ cs ++ cur.toList.drop (o + cs.length)).toArray) := by
  obtain ⟨i0, hi, hz0, hz1, hz2⟩ := info_parts infoCell
  have hl := run_loadCells_list (P := Try.prog) w a cs hsrc
  have hst := run_storeCells_at Try.prog g o t cs 0 cur w hg (by simpa using hfit) h1
  rw [hn] at hl
  simp [Builtin.copy_, run_underlying hu, Builtin.lenOf, Builtin.firstCells, sizeOf, typeInfo, hi, hz1, hl, hst]
theorem run_copy_cells0 (w : World) (dT sT ty : TypeId) (d a : Option Addr) (dLen dCap sLen sCap : Nat) (hu : Try.prog.underlying dT = some (.slice 66)) (hn : Nat.min sLen dLen = 0) :
    (Builtin.copy_ #[dT, sT] ty #[.slice d dLen dCap, .slice a sLen sCap]).run Try.prog w = .ok (goInt 0) w := by
  obtain ⟨i0, hi, hz0, hz1, hz2⟩ := info_parts infoCell
  have hl : ∀ (x : Addr), (loadCells x 0).run Try.prog w = .ok #[] w := fun x => by simpa using run_loadCells_list (P := Try.prog) w x [] (by simp)
  cases d <;> cases a <;> simp [Builtin.copy_, run_underlying hu, Builtin.lenOf, Builtin.firstCells, sizeOf, typeInfo, hi, hz1, hn, storeCells, hl]
theorem take_splice {α : Type} (L cs : List α) (a N : Nat) (h : a + cs.length ≤ N) (hN : N ≤ L.length) : (L.take a ++ cs ++ L.drop (a + cs.length)).take N = (L.take N).take a ++ cs ++ (L.take N).drop (a + cs.length) := by
  have hla : (L.take a ++ cs).length = a + cs.length := by rw [List.length_append, List.length_take]; omega
  rw [List.take_append, List.take_of_length_le (by omega), hla, List.take_take, Nat.min_eq_left (by omega), List.drop_take]
/-- What stands behind a copy of src over l from place k on. -/
def copyC (l : List Cl) (k m : Nat) (src : List Cl) : List Cl := l.take k ++ src.take m ++ l.drop (k + m)
theorem copyC_len (l : List Cl) (k m : Nat) (src : List Cl) (h : k + m ≤ l.length) (h2 : m ≤ src.length) : (copyC l k m src).length = l.length := by
  unfold copyC; simp only [List.length_append, List.length_take, List.length_drop]; omega
theorem InC.src {w : World} {A : Option Addr} {c : Nat} {l : List Cl} (h : InC w A c l) {ad : Addr} (ha : A = some ad) : ∀ j v, (flatC l)[j]? = some v → w.cell? (ad.add j) = some v := by
  intro j v hj
  have hlt : j < l.length * 7 := by
    have := (List.getElem?_eq_some_iff.1 hj).1
    rwa [flatC_len] at this
  obtain ⟨x, hx⟩ : ∃ x, l[j / 7]? = some x := ⟨_, List.getElem?_eq_getElem (by omega)⟩
  obtain ⟨b, o, e, _, hc⟩ := h.rd (by rintro rfl; simp at hx)
  rw [ha] at e
  injection e with e
  subst e
  have h2 := flatC_at hx (j % 7) (by omega)
  rw [show j / 7 * 7 + j % 7 = j from by omega, hj] at h2
  have h3 := hc _ x hx (j % 7) v h2.symm
  rw [← h3]
  have ea : (⟨b, o, none⟩ : Addr).add j = ⟨b, o + j, none⟩ := by unfold Addr.add; split <;> simp_all
  rw [ea, show o + j / 7 * 7 + j % 7 = o + j from by omega]
section
variable {w : World} {ops : Array Oper} {rest : List Oper} {o : Oper} {a : Act} {Q : Exit → Act → World → Prop}
/-- copy(dst[k:..], src): dst lies in a row of the call's own. -/
theorem wpList_copy_cells (hgd : o.guard = none) (d s : Operand) (ho : o.op = .call { callee := .builtin .copy, args := #[d, s], argTypes := #[33, 33] })
    (base c g : Nat) (l : List Cl) (hown : OwnC w base (some ⟨g, 0, none⟩) c l) (k m : Nat) (dp : Option Addr) (dLen dCap : Nat) (hd : a.eval d = .slice dp dLen dCap)
    (A : Option Addr) (c' : Nat) (src : List Cl) (n' : Nat) (hs : a.eval s = .slice A n' c') (hn' : n' = src.length) (hin : InC w A c' src) (hm : Nat.min src.length dLen = m) (hk : k + m ≤ l.length) (hdp : 0 < m → dp = some ⟨g, k * 7, none⟩)
    (h : ∀ w', OwnC w' base (some ⟨g, 0, none⟩) c (copyC l k m src) → Own1 w w' (.slice (some ⟨g, 0, none⟩) l.length c) (.slice (some ⟨g, 0, none⟩) l.length c) → wpList Try.prog ops Q rest (a.put o.dst (goInt m)) w') : wpList Try.prog ops Q (o :: rest) a w := by
  subst hn'
  by_cases h0 : m = 0
  · subst h0
    have hrun := run_copy_cells0 w 33 33 o.type dp A dLen dCap src.length c' Try.underlying33 hm
    refine wpList_plain hgd fun K hK => ?_
    unfold Oper.wp
    simp [execOp, ho, resolve, invoke, builtin, hd, hs, hrun, Result.andThen]
    refine hK _ _ (h w ?_ (Own1.refl _ _))
    have : copyC l k 0 src = l := by unfold copyC; simp
    rw [this]; exact hown
  · have hms : m ≤ src.length := by rw [← hm]; exact Nat.min_le_left _ _
    obtain rfl := hdp (by omega)
    obtain ⟨b, of, ha, hbl, _⟩ := hin.rd (by rintro rfl; simp at hms; omega)
    have hin' : InC w A c' (src.take m) := by
      refine ⟨fun hl => ?_, by rw [List.length_take]; have := hin.cap; omega, hin.max⟩
      obtain ⟨b, o, e, hB, hc⟩ := hin.rd (by rintro rfl; simp at hl)
      refine ⟨b, o, e, hB, fun k x hx => hc k x ?_⟩
      rw [List.getElem?_take] at hx
      split at hx
      · exact hx
      · cases hx
    rcases hown.2 with ⟨hv, hn⟩ | ⟨g', cap, cur, hv, hb, hg, hnc, hcm, hcs, ht⟩
    · injection hv with hv; cases hv
    · injection hv with h1 h2 h3
      injection h1 with h1; injection h1 with h1; subst h1; subst h3
      have hlen : (flatC (src.take m)).length = m * 7 := by rw [flatC_len, List.length_take]; omega
      have hrun := run_copy_cells w 33 33 o.type g (k * 7) dLen dCap ⟨b, of, none⟩ src.length c' cur 66 (flatC (src.take m)) Try.underlying33 hg (by rw [hlen, hm]) (hin'.src ha) (by rw [hlen, hcs]; omega) (flatC_one _)
      rw [hm] at hrun
      subst ha
      refine wpList_plain hgd fun K hK => ?_
      unfold Oper.wp
      simp [execOp, ho, resolve, invoke, builtin, hd, hs, hrun, Result.andThen]
      refine hK _ _ (h _ ⟨?_, .inr ⟨g, c, _, ?_, hb, setRow_heap w g cur _ 66 _ hg, ?_, hcm, ?_, ?_⟩⟩ ⟨⟨rfl, rfl, rfl, by simp [World.setRow], fun k' hk' hne => setRow_other w g k' _ (fun e => hne (by rw [e]; rfl))⟩, .inl rfl⟩)
      · rw [flatC_len, copyC_len l k m src hk hms]
      · rw [copyC_len l k m src hk hms]
      · rw [copyC_len l k m src hk hms]; exact hnc
      · simp only [List.size_toArray, List.length_append, List.length_take, List.length_drop, hlen, Array.length_toList]; omega
      · rw [copyC_len l k m src hk hms]
        show List.take (l.length * 7) (cur.toList.take (k * 7) ++ (flatC (src.take m) ++ cur.toList.drop (k * 7 + (flatC (src.take m)).length))) = _
        rw [← List.append_assoc]
        have hcl : cur.toList.length = c * 7 := by simpa using hcs
        have hN : l.length * 7 ≤ cur.toList.length := by omega
        have hN2 : k * 7 + (flatC (src.take m)).length ≤ l.length * 7 := by rw [hlen]; omega
        rw [take_splice _ _ _ _ hN2 hN, ht, flatC_take, hlen, show k * 7 + m * 7 = (k + m) * 7 from by omega, flatC_drop]
        unfold copyC
        rw [flatC_app, flatC_app]
/- appended -/
theorem run_append_cells0 (base : Nat) (t ty : TypeId) (ht : Try.prog.underlying t = some (.slice 66)) (v : Value) (n : Nat) (xs : List Value) (hown : w.ownsRow base 66 7 v n xs) (A : Option Addr) (c : Nat) :
    (Builtin.append_ #[t, t] ty #[v, .slice A 0 c]).run Try.prog w = .ok v w := by
  obtain ⟨i0, hi, hz0, hz1, hz2⟩ := info_parts infoCell
  exact run_append_zero (P := Try.prog) (w := w) base t ty 66 i0 7 ht hi v n xs hown A c
theorem wpList_append_cells (hgd : o.guard = none) (s x : Operand) (ho : o.op = .call { callee := .builtin .append, args := #[s, x], argTypes := #[33, 33] })
    (base c : Nat) (B : Option Addr) (l : List Cl) (n : Nat) (hs : a.eval s = .slice B n c) (hnl : n = l.length) (hown : OwnC w base B c l)
    (A : Option Addr) (c' : Nat) (src : List Cl) (n' : Nat) (hx : a.eval x = .slice A n' c') (hn' : n' = src.length) (hin : InC w A c' src) (hb : l.length + src.length ≤ 1000000) (hbase : base ≤ w.heap.size)
    (h : ∀ B' d w', OwnC w' base B' d (l ++ src) → Own1 w w' (.slice B l.length c) (.slice B' (l ++ src).length d) → wpList Try.prog ops Q rest (a.put o.dst (.slice B' (l ++ src).length d)) w') : wpList Try.prog ops Q (o :: rest) a w := by
  obtain ⟨i0, hi, hz0, hz1, hz2⟩ := info_parts infoCell
  subst hnl hn'
  by_cases hl : src = []
  · subst hl
    have hrun := run_append_cells0 (w := w) base 33 o.type Try.underlying33 _ _ _ hown A c'
    refine wpList_plain hgd fun K hK => ?_
    have hx' : a.eval x = .slice A 0 c' := hx
    unfold Oper.wp
    simp [execOp, ho, resolve, invoke, builtin, hs, hx', hrun, Result.andThen]
    have := h B c w (by simpa using hown) (by simpa using Own1.refl _ _)
    refine hK _ _ (by simpa using this)
  · obtain ⟨b, off, ha, hb', hc⟩ := hin.rd hl
    have hsrc := hin.src ha
    subst ha
    have hlen : 0 < src.length := List.length_pos_iff.2 hl
    refine wpList_append_lies w hgd s x 33 ho base 66 i0 _ 7 56 Try.underlying33 hi hz0 hz1 hz2 rfl (by decide) _ l.length (flatC l) hs hown ⟨b, off, none⟩ src.length c' (flatC src) hx (flatC_len _) hsrc (flatC_one _) hlen (by unfold maxLen; omega) (by omega) hbase w.heap.size rfl ?_
    intro g cap w' h1 h2 h3 h4
    have := h (some ⟨g, 0, none⟩) cap w' (by unfold OwnC; rw [List.length_append, flatC_app]; exact h1) (Own1.grown h2 ?_)
    · rwa [List.length_append] at this
    · rcases h3 with h3 | h3
      · exact .inl h3
      · right; intro g' hg'; simp [Value.ownBlock] at hg'; omega
end
end Go.Proofs.Ytinbdpfjpcgikaa

namespace Go.Proofs.Ytinbdpfjpcgikaa
set_option linter.unusedVariables false
set_option linter.unusedSimpArgs false

def bothN (f : Int) : Bool := hasN f 8 && hasN f 256
theorem both_zero : bothN zeroN.fl = false := by decide
theorem both_all : allF (fun f => numsN.all fun n => (!bothN (flagN f n none) || bothN f) && ((!bothN (flagN f n (some 0)) || bothN f) && (!bothN (flagN f n (some 2)) || bothN f))) = true := by decide +kernel
theorem both_flag {f n : Int} (s : Option Int) (hf : Fl f) (hn : 1 ≤ n ∧ n ≤ 29) (h : bothN (flagN f n s) = true) : bothN f = true := by
  have ha := allF_spec both_all hf
  rw [List.all_eq_true] at ha
  have hm : n ∈ numsN := by
    simp only [numsN, List.mem_cons, List.not_mem_nil, or_false]; omega
  have := ha n hm
  simp only [Bool.and_eq_true, Bool.or_eq_true, Bool.not_eq_true'] at this
  rcases flag_some f n s with e | e | e <;> rw [e] at h <;> simp_all
theorem both_one {p : Pn} (hp : SaneN p) (n : Int) (q : List Int) (h : bothN (oneN p n q).fl = true) : bothN p.fl = true := by
  unfold oneN at h
  split at h
  · rw [both_zero] at h; cases h
  split at h
  · rename_i hn; exact both_flag _ ⟨hp.2.2.1, hp.2.2.2⟩ hn h
  split at h
  · exact h
  split at h
  · exact h
  split at h
  · exact h
  split at h
  · exact h
  split at h
  · exact h
  split at h
  · exact h
  · exact h
theorem put_fl (p : Pn) (n c : Int) : (putN p n c).fl = p.fl := by
  unfold putN; split <;> rfl
theorem both_go : ∀ (n : Nat) (l : List (List Int)) (p : Pn), l.length ≤ n → SaneN p → bothN (goN p l).fl = true → bothN p.fl = true := by
  intro n
  induction n with
  | zero =>
    intro l p hl h hb
    rw [List.eq_nil_of_length_eq_zero (by omega : l.length = 0), goN_nil] at hb; exact hb
  | succ n ih =>
    intro l p hl h hb
    cases l with
    | nil => rw [goN_nil] at hb; exact hb
    | cons q l =>
      simp only [List.length_cons] at hl
      rw [goN] at hb
      split at hb
      · split at hb
        · split at hb
          · rename_i c k hc
            have := ih l _ (by omega) (put_ok h _ (colour_ok hc)) hb
            rwa [put_fl] at this
          · exact ih l _ (by omega) h hb
        · split at hb
          · rename_i c k hc
            have := ih _ _ (by simp only [List.length_drop]; omega) (put_ok h _ (colour_ok hc)) hb
            rwa [put_fl] at this
          · exact hb
      · exact both_one h _ _ (ih l _ (by omega) (one_ok h _ _) hb)
/- What is printed makes the pen. -/
def dropN (p : Pn) : Pn := if bothN p.fl = true then { p with fl := p.fl - 8 } else p
def dropF (f : Int) : Int := if bothN f = true then f - 8 else f
theorem go_flags (l : List (Int × Int)) (h : ∀ x ∈ l, 1 ≤ x.2 ∧ x.2 ≤ 29) (a b f : Int) (m : List (List Int)) :
    goN ⟨a, b, f⟩ ((l.map fun x => [x.2]) ++ m) = goN ⟨a, b, l.foldl (fun f x => flagN f x.2 none) f⟩ m := by
  induction l generalizing f with
  | nil => rfl
  | cons x l ih =>
    have hx := h x (by simp)
    have e1 : firstN [x.2] = x.2 := rfl
    rw [List.map_cons, List.cons_append, goN_plain _ _ _ (by rw [e1]; omega), List.foldl_cons, ← ih (fun y hy => h y (by simp [hy]))]
    congr 1
    unfold oneN
    rw [e1, if_neg (by omega), if_pos hx]
    rfl
theorem flags_all : allF (fun f => decide ((bitsN.filter fun x => hasN f x.1).foldl (fun f x => flagN f x.2 none) 0 = dropF f)) = true := by decide +kernel
theorem bits_nums : ∀ x ∈ bitsN, 1 ≤ x.2 ∧ x.2 ≤ 29 := by decide
theorem go_shade {p : Pn} {c : Int} (hc : ColOk c) (back : Int) (hb : back = 0 ∧ p.fg = 0 ∨ back = 10 ∧ p.bg = 0) (m : List (List Int)) :
    goN p (shadeN c back ++ m) = goN (if back = 10 then { p with bg := c } else { p with fg := c }) m := by
  obtain ⟨fg, bg, fl⟩ := p
  simp only at hb ⊢
  have e1 : ∀ n : Int, firstN [n] = n := fun _ => rfl
  unfold ColOk at hc
  unfold shadeN
  split
  · rename_i h1
    rw [List.cons_append, List.nil_append, goN_plain _ _ _ (by rw [e1]; omega), e1]
    congr 1
    unfold oneN
    rcases hb with ⟨rfl, rfl⟩ | ⟨rfl, rfl⟩
    · rw [if_neg (by omega), if_neg (by omega), if_pos (by omega), if_neg (by omega)]
      simp only [Pn.mk.injEq, and_true]; omega
    · rw [if_neg (by omega), if_neg (by omega), if_neg (by omega), if_neg (by omega), if_pos (by omega), if_pos rfl]
      simp only [Pn.mk.injEq, and_true, true_and]; omega
  split
  · rename_i h1 h2
    rw [List.cons_append, List.nil_append, goN_plain _ _ _ (by rw [e1]; omega), e1]
    congr 1
    unfold oneN
    rcases hb with ⟨rfl, rfl⟩ | ⟨rfl, rfl⟩
    · rw [if_neg (by omega), if_neg (by omega), if_neg (by omega), if_neg (by omega), if_neg (by omega), if_neg (by omega), if_pos (by omega), if_neg (by omega)]
      simp only [Pn.mk.injEq, and_true]; omega
    · rw [if_neg (by omega), if_neg (by omega), if_neg (by omega), if_neg (by omega), if_neg (by omega), if_neg (by omega), if_neg (by omega), if_pos (by omega), if_pos rfl]
      simp only [Pn.mk.injEq, and_true, true_and]; omega
  have hput : ∀ x : Int, putN ⟨fg, bg, fl⟩ (38 + back) x = (if back = 10 then ⟨fg, x, fl⟩ else ⟨x, bg, fl⟩) := by
    intro x
    unfold putN
    rcases hb with ⟨rfl, _⟩ | ⟨rfl, _⟩ <;> rfl
  split
  · rename_i h1 h2 h3
    rw [List.cons_append, goN, if_pos (by rw [e1]; omega), if_neg (by simp)]
    have hcol : colourN ((([[5], [c - 1]] : List (List Int)) ++ m).map firstN) false = some (c, 2) := by
      unfold colourN
      rw [if_pos ⟨rfl, by simp only [partB, atN, List.map_append, List.map_cons, List.cons_append, List.getD_cons_succ, List.getD_cons_zero, e1, decide_eq_true_eq]; omega⟩]
      simp only [atN, List.map_cons, List.cons_append, List.getD_cons_succ, List.getD_cons_zero, e1, Option.some.injEq, Prod.mk.injEq, and_true]
      omega
    rw [hcol]
    show goN (putN _ (firstN [38 + back]) c) (([[5], [c - 1]] ++ m).drop 2) = _
    rw [e1, hput]
    rfl
  split
  · rename_i h1 h2 h3 h4
    rw [List.cons_append, goN, if_pos (by rw [e1]; omega), if_neg (by simp)]
    have hcol : colourN ((([[2], [c / 65536 % 256], [c / 256 % 256], [c % 256]] : List (List Int)) ++ m).map firstN) false = some (c, 4) := by
      unfold colourN
      rw [if_neg (by intro h; exact absurd h.1 (by show ¬ ((2 : Int) = 5); omega))]
      dsimp only
      rw [if_neg (by simp : ¬ (false = true ∧ _))]
      simp only [atN, List.map_cons, List.cons_append, List.getD_cons_succ, List.getD_cons_zero, e1, Nat.reduceAdd, partB, decide_eq_true_eq]
      rw [if_pos ⟨trivial, by omega, by omega, by omega⟩]
      simp only [Option.some.injEq, Prod.mk.injEq, and_true]
      unfold rgbN clampN
      omega
    rw [hcol]
    show goN (putN _ (firstN [38 + back]) c) (([[2], [c / 65536 % 256], [c / 256 % 256], [c % 256]] ++ m).drop 4) = _
    rw [e1, hput]
    rfl
  · rename_i h1 h2 h3 h4
    rw [List.nil_append]
    congr 1
    rcases hb with ⟨rfl, rfl⟩ | ⟨rfl, rfl⟩
    · rw [if_neg (by omega)]; simp only [Pn.mk.injEq, and_true]; omega
    · rw [if_pos rfl]; simp only [Pn.mk.injEq, and_true, true_and]; omega
theorem go_print {p : Pn} (hp : SaneN p) (q : Pn) : goN q (printN p) = dropN p := by
  have hf := allF_spec flags_all ⟨hp.2.2.1, hp.2.2.2⟩
  rw [decide_eq_true_eq] at hf
  unfold printN
  rw [if_pos hp, List.cons_append, List.cons_append, goN_plain _ _ _ (by decide)]
  have h0 : oneN q (firstN [0]) [0] = ⟨0, 0, 0⟩ := by
    unfold oneN; rw [if_pos (.inl rfl)]; rfl
  rw [h0]
  unfold flagsN
  rw [List.append_assoc, go_flags _ (fun x hx => bits_nums x (List.mem_filter.1 hx |>.1)), hf,
    go_shade hp.1 0 (.inl ⟨rfl, rfl⟩), if_neg (by omega)]
  have := go_shade (p := ⟨p.fg, 0, dropF p.fl⟩) hp.2.1 10 (.inr ⟨rfl, rfl⟩) []
  rw [List.append_nil, goN_nil, if_pos rfl] at this
  rw [this]
  unfold dropN dropF
  split <;> rfl
theorem print_pos {p : Pn} (hp : SaneN p) : 1 ≤ (printN p).length := by
  unfold printN; rw [if_pos hp]; simp only [List.cons_append, List.length_cons]; omega
theorem apply_print {p q : Pn} (hp : SaneN p) (hq : SaneN q) : applyN q (printN p) = dropN p := by
  unfold applyN
  rw [if_pos ⟨hq, fun h => by have := print_pos hp; rw [h] at this; simp at this⟩, go_print hp]
/- One lot behind the other. -/
theorem apply_app {p : Pn} {l m : List (List Int)} (hp : SaneN p) (hl : l ≠ []) (hm : m ≠ []) (h : ∀ q ∈ l, ¬ (firstN q = 38 ∨ firstN q = 48)) :
    applyN p (l ++ m) = applyN (applyN p l) m := by
  have h1 : applyN p l = goN p l := by unfold applyN; rw [if_pos ⟨hp, hl⟩]
  rw [h1]
  unfold applyN
  rw [if_pos ⟨hp, by simp [hl]⟩, if_pos ⟨go_ok _ l p (Nat.le_refl _) hp, hm⟩, go_app l m p h]
theorem apply_both {p : Pn} {l : List (List Int)} (hp : SaneN p) (hl : l ≠ []) (h : bothN (applyN p l).fl = true) : bothN p.fl = true := by
  unfold applyN at h
  rw [if_pos ⟨hp, hl⟩] at h
  exact both_go _ l p (Nat.le_refl _) hp h
/- A colour however it is written. -/
def Byt8 (x : Int) : Prop := 0 ≤ x ∧ x ≤ 255
theorem apply_one {p : Pn} (hp : SaneN p) (l : List (List Int)) (hl : l ≠ []) : applyN p l = goN p l := by
  unfold applyN; rw [if_pos ⟨hp, hl⟩]
theorem go_five {p : Pn} {n x y z : Int} (hn : n = 38 ∨ n = 48) (hx : Byt8 x) (hy : Byt8 y) (hz : Byt8 z) : goN p [[n], [2], [x], [y], [z]] = putN p n (rgbN x y z) := by
  have e1 : ∀ n : Int, firstN [n] = n := fun _ => rfl
  unfold Byt8 at hx hy hz
  rw [goN, if_pos (by rw [e1]; exact hn), if_neg (by simp)]
  have hcol : colourN (([[2], [x], [y], [z]] : List (List Int)).map firstN) false = some (rgbN x y z, 4) := by
    unfold colourN
    rw [if_neg (by intro h; exact absurd h.1 (by show ¬ ((2 : Int) = 5); omega))]
    dsimp only
    rw [if_neg (by simp : ¬ (false = true ∧ _))]
    simp only [atN, List.map_cons, List.map_nil, List.getD_cons_succ, List.getD_cons_zero, e1, Nat.reduceAdd, partB, decide_eq_true_eq]
    rw [if_pos ⟨trivial, by omega, by omega, by omega⟩]
  rw [hcol]
  show goN (putN p (firstN [n]) _) [] = _
  rw [goN_nil, e1]
theorem go_three {p : Pn} {n x : Int} (hn : n = 38 ∨ n = 48) (hx : Byt8 x) : goN p [[n], [5], [x]] = putN p n (x + 1) := by
  have e1 : ∀ n : Int, firstN [n] = n := fun _ => rfl
  unfold Byt8 at hx
  rw [goN, if_pos (by rw [e1]; exact hn), if_neg (by simp)]
  have hcol : colourN (([[5], [x]] : List (List Int)).map firstN) false = some (x + 1, 2) := by
    unfold colourN
    rw [if_pos ⟨rfl, by simp only [partB, atN, List.map_cons, List.getD_cons_succ, List.getD_cons_zero, e1, decide_eq_true_eq]; omega⟩]
    rfl
  rw [hcol]
  show goN (putN p (firstN [n]) _) [] = _
  rw [goN_nil, e1]
theorem go_own {p : Pn} {n c : Int} {k : Nat} {t : List Int} (hn : n = 38 ∨ n = 48) (ht : t ≠ []) (h : colourN t true = some (c, k)) : goN p [n :: t] = putN p n c := by
  have e1 : firstN (n :: t) = n := rfl
  rw [goN, if_pos (by rw [e1]; exact hn), if_pos (by cases t with | nil => exact absurd rfl ht | cons a t => simp), List.tail_cons, h]
  show goN (putN p (firstN (n :: t)) c) [] = _
  rw [goN_nil, e1]
theorem col_four {x y z : Int} (hx : Byt8 x) (hy : Byt8 y) (hz : Byt8 z) : colourN [2, x, y, z] true = some (rgbN x y z, 4) := by
  unfold Byt8 at hx hy hz
  unfold colourN
  rw [if_neg (by intro h; exact absurd h.1 (by show ¬ ((2 : Int) = 5); omega))]
  dsimp only
  rw [if_neg (by simp : ¬ (true = true ∧ 5 ≤ [2, x, y, z].length))]
  simp only [atN, List.getD_cons_succ, List.getD_cons_zero, Nat.reduceAdd, partB, decide_eq_true_eq]
  rw [if_pos ⟨trivial, by omega, by omega, by omega⟩]
theorem col_gap {x y z : Int} (g : Int) (hx : Byt8 x) (hy : Byt8 y) (hz : Byt8 z) : colourN [2, g, x, y, z] true = some (rgbN x y z, 4) := by
  unfold Byt8 at hx hy hz
  unfold colourN
  rw [if_neg (by intro h; exact absurd h.1 (by show ¬ ((2 : Int) = 5); omega))]
  dsimp only
  rw [if_pos (by simp : true = true ∧ 5 ≤ [2, g, x, y, z].length)]
  simp only [atN, List.getD_cons_succ, List.getD_cons_zero, Nat.reduceAdd, partB, decide_eq_true_eq]
  rw [if_pos ⟨trivial, by omega, by omega, by omega⟩]
theorem col_low {x : Int} (hx : Byt8 x) : colourN [5, x] true = some (x + 1, 2) := by
  unfold Byt8 at hx
  unfold colourN
  rw [if_pos ⟨rfl, by simp only [partB, atN, List.getD_cons_succ, List.getD_cons_zero, decide_eq_true_eq]; omega⟩]
  rfl
theorem parts_rgb {x y z : Int} (hx : Byt8 x) (hy : Byt8 y) (hz : Byt8 z) : partsN (rgbN x y z) = (2, x, y, z) := by
  unfold Byt8 at hx hy hz
  have e : rgbN x y z = 16777216 + x * 65536 + y * 256 + z := by unfold rgbN clampN; omega
  rw [e]
  unfold partsN
  rw [if_neg (by omega), if_neg (by omega), if_pos (by omega)]
  simp only [Prod.mk.injEq, true_and]
  omega
/- Of what a colour is. -/
theorem parts_zero {c : Int} (h : (partsN c).1 = 0) : c = 0 := by
  unfold partsN at h
  split at h
  · assumption
  split at h
  · simp at h
  split at h <;> simp at h
theorem parts_one {c : Int} (h : (partsN c).1 = 1) : c = (partsN c).2.1 + 1 ∧ Byt8 (partsN c).2.1 ∧ (partsN c).2.2.1 = 0 ∧ (partsN c).2.2.2 = 0 := by
  unfold partsN at h ⊢
  unfold Byt8
  split at h
  · simp at h
  split at h
  · rename_i h0 h1
    rw [if_neg h0, if_pos h1]
    exact ⟨by simp only; omega, by simp only; omega, rfl, rfl⟩
  split at h <;> simp at h
theorem parts_two {c : Int} (h : (partsN c).1 = 2) : rgbN (partsN c).2.1 (partsN c).2.2.1 (partsN c).2.2.2 = c := by
  unfold partsN at h ⊢
  split at h
  · simp at h
  split at h
  · simp at h
  split at h
  · rename_i h0 h1 h2
    rw [if_neg h0, if_neg h1, if_pos h2]
    unfold rgbN clampN; simp only; omega
  · simp at h
theorem parts_range (c : Int) : (partsN c).1 = 0 ∨ (partsN c).1 = 1 ∨ (partsN c).1 = 2 ∨ (partsN c).1 = 3 := by
  unfold partsN; repeat' split
  all_goals simp
theorem parts_ok (c : Int) : ColOk c ↔ (partsN c).1 ≠ 3 := by
  unfold ColOk partsN
  split
  · simp [*]
  split
  · simp [*]
  split
  · simp [*]
  · simp [*]
end Go.Proofs.Ytinbdpfjpcgikaa
