/- Slices of rows that a call owns: made, copied, appended, stored. -/
import Derived.Test.YtcadbapccdclaaaMem09
import Derived.Test.YtcadbapccdclaaaMemR
import Derived.Test.YtcadbapccdclaaaAppR
import Derived.Test.YtcadbapccdclaaaChecked
import Derived.Laws.CopyOwn
import Derived.Laws.CopyRow
import Derived.Laws.MakeOwn
import Derived.OwnWalk
import Derived.Deep.AppendLies
import Derived.Laws.OwnMore
namespace Go.Proofs.Ytcadbapccdclaaa
open Go Go.RowKit
set_option linter.unusedVariables false
set_option linter.unusedSimpArgs false

def flatG (l : List Rl) : List Value := l.flatMap rlCells
theorem rlCells_len (c : Rl) : (rlCells c).length = 4 := rfl
theorem flatG_nil : flatG [] = [] := rfl
theorem flatG_cons (c : Rl) (l : List Rl) : flatG (c :: l) = rlCells c ++ flatG l := by simp [flatG]
theorem flatG_app (a b : List Rl) : flatG (a ++ b) = flatG a ++ flatG b := by simp [flatG]
theorem flatG_len (l : List Rl) : (flatG l).length = l.length * 4 := by
  induction l with
  | nil => rfl
  | cons c l ih => rw [flatG_cons, List.length_append, ih, rlCells_len, List.length_cons]; omega
theorem flatG_at {l : List Rl} {k : Nat} {x : Rl} (h : l[k]? = some x) (j : Nat) (hj : j < 4) : (flatG l)[k * 4 + j]? = (rlCells x)[j]? := by
  induction l generalizing k with
  | nil => simp at h
  | cons y l ih =>
    rw [flatG_cons]
    cases k with
    | zero =>
      simp at h; subst h
      rw [List.getElem?_append_left (by rw [rlCells_len]; omega)]
      simp
    | succ k =>
      simp at h
      rw [List.getElem?_append_right (by rw [rlCells_len]; omega), ← ih h, rlCells_len]
      congr 1
      omega
theorem flatG_one (l : List Rl) : ∀ u ∈ flatG l, u.oneCell' = true := by
  intro u hu
  unfold flatG at hu
  obtain ⟨c, _, hc⟩ := List.mem_flatMap.1 hu
  simp only [rlCells, List.mem_cons, List.not_mem_nil, or_false] at hc
  rcases hc with rfl | rfl | rfl | rfl <;> rfl
theorem flatG_take (l : List Rl) (k : Nat) : (flatG l).take (k * 4) = flatG (l.take k) := by
  by_cases h : k ≤ l.length
  · have e : flatG l = flatG (l.take k) ++ flatG (l.drop k) := by rw [← flatG_app, List.take_append_drop]
    rw [e, List.take_append_of_le_length (by rw [flatG_len, List.length_take]; omega), List.take_of_length_le (by rw [flatG_len, List.length_take]; omega)]
  · rw [List.take_of_length_le (by rw [flatG_len]; omega), List.take_of_length_le (by omega)]
theorem flatG_drop (l : List Rl) (k : Nat) : (flatG l).drop (k * 4) = flatG (l.drop k) := by
  by_cases h : k ≤ l.length
  · have e : flatG l = flatG (l.take k) ++ flatG (l.drop k) := by rw [← flatG_app, List.take_append_drop]
    rw [e, List.drop_append_of_le_length (by rw [flatG_len, List.length_take]; omega), List.drop_of_length_le (by rw [flatG_len, List.length_take]; omega), List.nil_append]
  · rw [List.drop_of_length_le (by rw [flatG_len]; omega), List.drop_of_length_le (by omega)]; rfl
/-- Where a row of the call's own lies. -/
def OwnG (w : World) (base : Nat) (A : Option Addr) (c : Nat) (l : List Rl) : Prop := w.ownsRow base 35 4 (.slice A l.length c) l.length (flatG l)
theorem OwnG.in_ {w : World} {base : Nat} {A : Option Addr} {c : Nat} {l : List Rl} (h : OwnG w base A c l) : RdG w A c l := by
  have hc := own_cap h
  refine ⟨fun hl => ?_, hc.1, hc.2⟩
  rcases h.2 with ⟨hv, hn⟩ | ⟨g, cap, cur, hv, hb, hg, hnc, hcm, hcs, ht⟩
  · exact absurd (List.eq_nil_of_length_eq_zero hn) hl
  · injection hv with h1 h2 h3
    subst h1
    refine ⟨g, 0, rfl, (Array.getElem?_eq_some_iff.1 hg).1, fun k e hk j u hu => ?_⟩
    have hj : j < 4 := (List.getElem?_eq_some_iff.1 hu).1
    have hf := flatG_at hk j hj
    rw [hu] at hf
    have := h.cells (g := g) rfl (k * 4 + j) _ hf
    rw [← this]
    congr 1
    unfold Addr.add; split <;> simp_all <;> omega
theorem OwnG.on {w w' : World} {base : Nat} {A : Option Addr} {c : Nat} {l : List Rl} (h : OwnG w base A c l) (hb : Below w.heap.size w w') : OwnG w' base A c l := own_below h hb
theorem OwnG.cap {w : World} {base : Nat} {A : Option Addr} {c : Nat} {l : List Rl} (h : OwnG w base A c l) : l.length ≤ c ∧ c ≤ maxLen := own_cap h
theorem OwnG.at_ {w : World} {base : Nat} {A : Option Addr} {c : Nat} {l : List Rl} (h : OwnG w base A c l) (hl : l ≠ []) : ∃ g, A = some ⟨g, 0, none⟩ ∧ base ≤ g ∧ g < w.heap.size ∧ ∀ i, w.frozen? ⟨g, i, none⟩ = false := by
  rcases h.2 with ⟨hv, hn⟩ | ⟨g, cap, cur, hv, hb, hg, hnc, hcm, hcs, ht⟩
  · exact absurd (List.eq_nil_of_length_eq_zero hn) hl
  · injection hv with h1 h2 h3
    exact ⟨g, h1, hb, (Array.getElem?_eq_some_iff.1 hg).1, fun i => frozen_of_row w g i cur _ hg⟩
/-- A whole row is stored: four cells, one by one. -/
def putG (w : World) (g k : Nat) (x : Rl) : World :=
  (((w.setCell ⟨g, k * 4, none⟩ (.slice x.A x.r.cs.length x.c)).setCell ⟨g, k * 4 + 1, none⟩ (.bool x.r.wrap)).setCell ⟨g, k * 4 + 2, none⟩ (.int .i64 x.r.dir)).setCell ⟨g, k * 4 + 3, none⟩ (.bool x.r.ex)
theorem flatG_set {l : List Rl} {k : Nat} {x : Rl} (hk : k < l.length) :
    ((((flatG l).set (k * 4) (.slice x.A x.r.cs.length x.c)).set (k * 4 + 1) (.bool x.r.wrap)).set (k * 4 + 2) (.int .i64 x.r.dir)).set (k * 4 + 3) (.bool x.r.ex) = flatG (l.set k x) := by
  have e : l = l.take k ++ l[k] :: l.drop (k + 1) := by
    rw [← List.drop_eq_getElem_cons hk, List.take_append_drop]
  have hlen : (flatG (l.take k)).length = k * 4 := by rw [flatG_len, List.length_take]; omega
  have e2 : l.set k x = l.take k ++ x :: l.drop (k + 1) := by
    rw [List.set_eq_take_append_cons_drop, if_pos hk]
  rw [e2]
  conv => lhs; rw [e]
  rw [flatG_app, flatG_app, flatG_cons, flatG_cons]
  have h7 : ∀ (j : Nat) (v : Value) (t : List Value), (flatG (l.take k) ++ t).set (k * 4 + j) v = flatG (l.take k) ++ t.set j v := fun j v t => by
    rw [List.set_append_right _ _ (by omega), hlen]
    congr 2
    omega
  have h70 : ∀ (v : Value) (t : List Value), (flatG (l.take k) ++ t).set (k * 4) v = flatG (l.take k) ++ t.set 0 v := fun v t => h7 0 v t
  rw [h70, h7, h7, h7]
  simp [rlCells]
theorem OwnG.put {w : World} {base g c : Nat} {l : List Rl} (h : OwnG w base (some ⟨g, 0, none⟩) c l) {k : Nat} (hk : k < l.length) (x : Rl) : OwnG (putG w g k x) base (some ⟨g, 0, none⟩) c (l.set k x) := by
  unfold OwnG at h ⊢
  rw [List.length_set, ← flatG_set hk]
  unfold putG
  exact own_set (own_set (own_set (own_set h (by omega) _) (by omega) _) (by omega) _) (by omega) _
theorem putG_below {w0 w : World} {B g k : Nat} {x : Rl} (h : Below B w0 w) (hg : B ≤ g) : Below B w0 (putG w g k x) := by
  unfold putG
  exact (((h.setCell (p := ⟨g, k * 4, none⟩) hg _).setCell (p := ⟨g, k * 4 + 1, none⟩) hg _).setCell (p := ⟨g, k * 4 + 2, none⟩) hg _).setCell (p := ⟨g, k * 4 + 3, none⟩) hg _
/-- One field of a cell is stored. -/
theorem OwnG.set1 {w : World} {base g c : Nat} {l : List Rl} (h : OwnG w base (some ⟨g, 0, none⟩) c l) {k : Nat} {y x : Rl} (hk : l[k]? = some y) (j : Nat) (hj : j < 4) (v : Value) (e : (rlCells y).set j v = rlCells x) :
    OwnG (w.setCell ⟨g, k * 4 + j, none⟩ v) base (some ⟨g, 0, none⟩) c (l.set k x) := by
  obtain ⟨hlt, hy⟩ := List.getElem?_eq_some_iff.1 hk
  unfold OwnG at h ⊢
  have := own_set h (j := k * 4 + j) (by omega) v
  rw [List.length_set]
  have e1 : l = l.take k ++ l[k] :: l.drop (k + 1) := by
    rw [← List.drop_eq_getElem_cons hlt, List.take_append_drop]
  have hlen : (flatG (l.take k)).length = k * 4 := by rw [flatG_len, List.length_take]; omega
  have e2 : flatG (l.set k x) = (flatG l).set (k * 4 + j) v := by
    rw [List.set_eq_take_append_cons_drop, if_pos hlt, flatG_app, flatG_cons, ← e]
    conv => rhs; rw [e1]
    rw [flatG_app, flatG_cons, hy, List.set_append_right _ _ (by omega), hlen, show k * 4 + j - k * 4 = j from by omega, List.set_append_left _ _ (by rw [rlCells_len]; omega)]
  rw [e2]
  exact this
theorem OwnG.box {w : World} {base g : Nat} {A : Option Addr} {c : Nat} {l : List Rl} {t : TypeId} {cs : Array Value} (h : OwnG w base A c l) (hb : Box w g t cs) (hne : 35 ≠ t) : (Value.slice A l.length c).ownBlock ≠ some g := by
  intro hg
  rcases h.2 with ⟨hv, _⟩ | ⟨g', cap, cur, hv, _, hg2, _⟩
  · rw [hv] at hg; simp [Value.ownBlock] at hg
  · rw [hv] at hg; simp [Value.ownBlock] at hg; subst hg
    rw [hb] at hg2
    injection hg2 with hg2; injection hg2 with _ h2
    exact hne h2.symm
/- made -/
def zeroG : Rl := ⟨none, 0, ⟨[], false, 0, false⟩⟩
theorem infoRowG : (Try.prog.info? 35).map (fun i => (i.zero, i.size, i.bytes)) = some (some (.agg #[.slice none 0 0, .bool false, .int .i64 0, .bool false]), 4, 48) := by kernel_rfl
theorem made_rows (n : Nat) : (madeCells #[.slice none 0 0, .bool false, .int .i64 0, .bool false] (n * 4)).toList = flatG (List.replicate n zeroG) := by
  apply List.ext_getElem?
  intro i
  by_cases hi : i < n * 4
  · have e : i = i / 4 * 4 + i % 4 := by omega
    have h1 : (List.replicate n zeroG)[i / 4]? = some zeroG := by
      rw [List.getElem?_replicate, if_pos (by omega)]
    have h2 := flatG_at h1 (i % 4) (by omega)
    rw [← e] at h2
    rw [h2]
    have h3 : (madeCells #[.slice none 0 0, .bool false, .int .i64 0, .bool false] (n * 4)).toList[i]? = some (#[Value.slice none 0 0, .bool false, .int .i64 0, .bool false][i % 4]!) := by
      simp [madeCells, hi]
    rw [h3]
    have h4 : i % 4 < 4 := by omega
    generalize i % 4 = j at *
    match j, h4 with
    | 0, _ => rfl
    | 1, _ => rfl
    | 2, _ => rfl
    | 3, _ => rfl
  · rw [List.getElem?_eq_none (by simp [madeCells]; omega), List.getElem?_eq_none (by rw [flatG_len]; simp; omega)]
section
variable {w : World} {ops : Array Oper} {rest : List Oper} {o : Oper} {a : Act} {Q : Exit → Act → World → Prop}
/-- make([]api.Cell, n). -/
theorem wpList_make_rows (hg : o.guard = none) (x y : Operand) (hop : o.op = Op.makeSlice 22 x y) (base n : Nat) (kl kc : IntKind) (L C : Int) (hl : a.eval x = .int kl L) (hc : a.eval y = .int kc C) (hL : L = (n : Int)) (hC : C = (n : Int)) (hn : n ≤ 1000000) (hb : base ≤ w.heap.size)
    (hK : ∀ w', OwnG w' base (some ⟨w.heap.size, 0, none⟩) n (List.replicate n zeroG) → Below w.heap.size w w' → wpList Try.prog ops Q rest (a.put o.dst (.slice (some ⟨w.heap.size, 0, none⟩) n n)) w') : wpList Try.prog ops Q (o :: rest) a w := by
  obtain ⟨i0, hi, hz0, hz1, hz2⟩ := info_parts infoRowG
  refine wpList_make_full w hg x y 22 hop base 35 i0 _ 4 Try.underlying22 hi hz0 hz1 kl kc L C n hl hc hL hC (by rw [hz2]; omega) (by unfold maxLen; omega) hb fun w' h1 h2 => hK w' ?_ ⟨h2.os, h2.tape, h2.output, h2.size, fun k hk => h2.block k hk (by simp)⟩
  unfold OwnG
  rw [← made_rows, List.length_replicate]
  exact h1
end
/- copied -/
theorem run_copy_rows (w : World) (dT sT ty : TypeId) (g o dLen dCap : Nat) (a : Addr) (sLen sCap : Nat) (cur : Array Value) (t : TypeId) (cs : List Value) (hu : Try.prog.underlying dT = some (.slice 35))
    (hg : w.heap[g]? = some (.cells cur t (0, 0))) (hn : cs.length = Nat.min sLen dLen * 4)
    (hsrc : ∀ j v, cs[j]? = some v → w.cell? (a.add j) = some v) (hfit : o + cs.length ≤ cur.size) (h1 : ∀ v ∈ cs, v.oneCell' = true) :
    (Builtin.copy_ #[dT, sT] ty #[.slice (some ⟨g, o, none⟩) dLen dCap, .slice (some a) sLen sCap]).run Try.prog w =
      .ok (goInt (Nat.min sLen dLen)) (w.setRow g (cur.toList.take o ++ cs ++ cur.toList.drop (o + cs.length)).toArray) := by
  obtain ⟨i0, hi, hz0, hz1, hz2⟩ := info_parts infoRowG
  have hl := run_loadCells_list (P := Try.prog) w a cs hsrc
  have hst := run_storeCells_at Try.prog g o t cs 0 cur w hg (by simpa using hfit) h1
  rw [hn] at hl
  simp [Builtin.copy_, run_underlying hu, Builtin.lenOf, Builtin.firstCells, sizeOf, typeInfo, hi, hz1, hl, hst]
theorem run_copy_rows0 (w : World) (dT sT ty : TypeId) (d a : Option Addr) (dLen dCap sLen sCap : Nat) (hu : Try.prog.underlying dT = some (.slice 35)) (hn : Nat.min sLen dLen = 0) :
    (Builtin.copy_ #[dT, sT] ty #[.slice d dLen dCap, .slice a sLen sCap]).run Try.prog w = .ok (goInt 0) w := by
  obtain ⟨i0, hi, hz0, hz1, hz2⟩ := info_parts infoRowG
  have hl : ∀ (x : Addr), (loadCells x 0).run Try.prog w = .ok #[] w := fun x => by simpa using run_loadCells_list (P := Try.prog) w x [] (by simp)
  cases d <;> cases a <;> simp [Builtin.copy_, run_underlying hu, Builtin.lenOf, Builtin.firstCells, sizeOf, typeInfo, hi, hz1, hn, storeCells, hl]
theorem take_spliceG {α : Type} (L cs : List α) (a N : Nat) (h : a + cs.length ≤ N) (hN : N ≤ L.length) : (L.take a ++ cs ++ L.drop (a + cs.length)).take N = (L.take N).take a ++ cs ++ (L.take N).drop (a + cs.length) := by
  have hla : (L.take a ++ cs).length = a + cs.length := by rw [List.length_append, List.length_take]; omega
  rw [List.take_append, List.take_of_length_le (by omega), hla, List.take_take, Nat.min_eq_left (by omega), List.drop_take]
/-- What stands behind a copy of src over l from place k on. -/
def copyG (l : List Rl) (k m : Nat) (src : List Rl) : List Rl := l.take k ++ src.take m ++ l.drop (k + m)
theorem copyG_len (l : List Rl) (k m : Nat) (src : List Rl) (h : k + m ≤ l.length) (h2 : m ≤ src.length) : (copyG l k m src).length = l.length := by
  unfold copyG; simp only [List.length_append, List.length_take, List.length_drop]; omega
theorem RdG.src {w : World} {A : Option Addr} {c : Nat} {l : List Rl} (h : RdG w A c l) {ad : Addr} (ha : A = some ad) : ∀ j v, (flatG l)[j]? = some v → w.cell? (ad.add j) = some v := by
  intro j v hj
  have hlt : j < l.length * 4 := by
    have := (List.getElem?_eq_some_iff.1 hj).1
    rwa [flatG_len] at this
  obtain ⟨x, hx⟩ : ∃ x, l[j / 4]? = some x := ⟨_, List.getElem?_eq_getElem (by omega)⟩
  obtain ⟨b, o, e, _, hc⟩ := h.rd (by rintro rfl; simp at hx)
  rw [ha] at e
  injection e with e
  subst e
  have h2 := flatG_at hx (j % 4) (by omega)
  rw [show j / 4 * 4 + j % 4 = j from by omega, hj] at h2
  have h3 := hc _ x hx (j % 4) v h2.symm
  rw [← h3]
  have ea : (⟨b, o, none⟩ : Addr).add j = ⟨b, o + j, none⟩ := by unfold Addr.add; split <;> simp_all
  rw [ea, show o + j / 4 * 4 + j % 4 = o + j from by omega]
section
variable {w : World} {ops : Array Oper} {rest : List Oper} {o : Oper} {a : Act} {Q : Exit → Act → World → Prop}
/-- copy(dst[k:..], src): dst lies in a row of the call's own. -/
theorem wpList_copy_rows (hgd : o.guard = none) (d s : Operand) (ho : o.op = .call { callee := .builtin .copy, args := #[d, s], argTypes := #[22, 22] })
    (base c g : Nat) (l : List Rl) (hown : OwnG w base (some ⟨g, 0, none⟩) c l) (k m : Nat) (dp : Option Addr) (dLen dCap : Nat) (hd : a.eval d = .slice dp dLen dCap)
    (A : Option Addr) (c' : Nat) (src : List Rl) (n' : Nat) (hs : a.eval s = .slice A n' c') (hn' : n' = src.length) (hin : RdG w A c' src) (hm : Nat.min src.length dLen = m) (hk : k + m ≤ l.length) (hdp : 0 < m → dp = some ⟨g, k * 4, none⟩)
    (h : ∀ w', OwnG w' base (some ⟨g, 0, none⟩) c (copyG l k m src) → Own1 w w' (.slice (some ⟨g, 0, none⟩) l.length c) (.slice (some ⟨g, 0, none⟩) l.length c) → wpList Try.prog ops Q rest (a.put o.dst (goInt m)) w') : wpList Try.prog ops Q (o :: rest) a w := by
  subst hn'
  by_cases h0 : m = 0
  · subst h0
    have hrun := run_copy_rows0 w 22 22 o.type dp A dLen dCap src.length c' Try.underlying22 hm
    refine wpList_plain hgd fun K hK => ?_
    unfold Oper.wp
    simp [execOp, ho, resolve, invoke, builtin, hd, hs, hrun, Result.andThen]
    refine hK _ _ (h w ?_ (Own1.refl _ _))
    have : copyG l k 0 src = l := by unfold copyG; simp
    rw [this]; exact hown
  · have hms : m ≤ src.length := by rw [← hm]; exact Nat.min_le_left _ _
    obtain rfl := hdp (by omega)
    obtain ⟨b, of, ha, hbl, _⟩ := hin.rd (by rintro rfl; simp at hms; omega)
    have hin' : RdG w A c' (src.take m) := by
      refine ⟨fun hl => ?_, by rw [List.length_take]; have := hin.cap; omega, hin.max⟩
      obtain ⟨b, o, e, hB, hc⟩ := hin.rd (by rintro rfl; simp at hl)
      refine ⟨b, o, e, hB, fun k x hx => hc k x ?_⟩
      rw [List.getElem?_take] at hx
      split at hx
      · exact hx
      · cases hx
    rcases hown.2 with ⟨hv, hn⟩ | ⟨g', cap, cur, hv, hb, hg, hnc, hcm, hcs, ht⟩
    · injection hv with hv; cases hv
    · injection hv with h1 h2 h3
      injection h1 with h1; injection h1 with h1; subst h1; subst h3
      have hlen : (flatG (src.take m)).length = m * 4 := by rw [flatG_len, List.length_take]; omega
      have hrun := run_copy_rows w 22 22 o.type g (k * 4) dLen dCap ⟨b, of, none⟩ src.length c' cur 35 (flatG (src.take m)) Try.underlying22 hg (by rw [hlen, hm]) (hin'.src ha) (by rw [hlen, hcs]; omega) (flatG_one _)
      rw [hm] at hrun
      subst ha
      refine wpList_plain hgd fun K hK => ?_
      unfold Oper.wp
      simp [execOp, ho, resolve, invoke, builtin, hd, hs, hrun, Result.andThen]
      refine hK _ _ (h _ ⟨?_, .inr ⟨g, c, _, ?_, hb, setRow_heap w g cur _ 35 _ hg, ?_, hcm, ?_, ?_⟩⟩ ⟨⟨rfl, rfl, rfl, by simp [World.setRow], fun k' hk' hne => setRow_other w g k' _ (fun e => hne (by rw [e]; rfl))⟩, .inl rfl⟩)
      · rw [flatG_len, copyG_len l k m src hk hms]
      · rw [copyG_len l k m src hk hms]
      · rw [copyG_len l k m src hk hms]; exact hnc
      · simp only [List.size_toArray, List.length_append, List.length_take, List.length_drop, hlen, Array.length_toList]; omega
      · rw [copyG_len l k m src hk hms]
        show List.take (l.length * 4) (cur.toList.take (k * 4) ++ (flatG (src.take m) ++ cur.toList.drop (k * 4 + (flatG (src.take m)).length))) = _
        rw [← List.append_assoc]
        have hcl : cur.toList.length = c * 4 := by simpa using hcs
        have hN : l.length * 4 ≤ cur.toList.length := by omega
        have hN2 : k * 4 + (flatG (src.take m)).length ≤ l.length * 4 := by rw [hlen]; omega
        rw [take_spliceG _ _ _ _ hN2 hN, ht, flatG_take, hlen, show k * 4 + m * 4 = (k + m) * 4 from by omega, flatG_drop]
        unfold copyG
        rw [flatG_app, flatG_app]
/- appended -/
theorem run_append_rows0 (base : Nat) (t ty : TypeId) (ht : Try.prog.underlying t = some (.slice 35)) (v : Value) (n : Nat) (xs : List Value) (hown : w.ownsRow base 35 4 v n xs) (A : Option Addr) (c : Nat) :
    (Builtin.append_ #[t, t] ty #[v, .slice A 0 c]).run Try.prog w = .ok v w := by
  obtain ⟨i0, hi, hz0, hz1, hz2⟩ := info_parts infoRowG
  exact run_append_zero (P := Try.prog) (w := w) base t ty 35 i0 4 ht hi v n xs hown A c
theorem wpList_append_rows (hgd : o.guard = none) (s x : Operand) (ho : o.op = .call { callee := .builtin .append, args := #[s, x], argTypes := #[22, 22] })
    (base c : Nat) (B : Option Addr) (l : List Rl) (n : Nat) (hs : a.eval s = .slice B n c) (hnl : n = l.length) (hown : OwnG w base B c l)
    (A : Option Addr) (c' : Nat) (src : List Rl) (n' : Nat) (hx : a.eval x = .slice A n' c') (hn' : n' = src.length) (hin : RdG w A c' src) (hb : l.length + src.length ≤ 1000000) (hbase : base ≤ w.heap.size)
    (h : ∀ B' d w', OwnG w' base B' d (l ++ src) → Own1 w w' (.slice B l.length c) (.slice B' (l ++ src).length d) → wpList Try.prog ops Q rest (a.put o.dst (.slice B' (l ++ src).length d)) w') : wpList Try.prog ops Q (o :: rest) a w := by
  obtain ⟨i0, hi, hz0, hz1, hz2⟩ := info_parts infoRowG
  subst hnl hn'
  by_cases hl : src = []
  · subst hl
    have hrun := run_append_rows0 (w := w) base 22 o.type Try.underlying22 _ _ _ hown A c'
    refine wpList_plain hgd fun K hK => ?_
    have hx' : a.eval x = .slice A 0 c' := hx
    unfold Oper.wp
    simp [execOp, ho, resolve, invoke, builtin, hs, hx', hrun, Result.andThen]
    have := h B c w (by simpa using hown) (by simpa using Own1.refl _ _)
    refine hK _ _ (by simpa using this)
  · obtain ⟨b, off, ha, hb', hc⟩ := hin.rd hl
    have hsrc := hin.src ha
    subst ha
    have hlen : 0 < src.length := List.length_pos_iff.2 hl
    refine wpList_append_lies w hgd s x 22 ho base 35 i0 _ 4 48 Try.underlying22 hi hz0 hz1 hz2 rfl (by decide) _ l.length (flatG l) hs hown ⟨b, off, none⟩ src.length c' (flatG src) hx (flatG_len _) hsrc (flatG_one _) hlen (by unfold maxLen; omega) (by omega) hbase w.heap.size rfl ?_
    intro g cap w' h1 h2 h3 h4
    have := h (some ⟨g, 0, none⟩) cap w' (by unfold OwnG; rw [List.length_append, flatG_app]; exact h1) (Own1.grown h2 ?_)
    · rwa [List.length_append] at this
    · rcases h3 with h3 | h3
      · exact .inl h3
      · right; intro g' hg'; simp [Value.ownBlock] at hg'; omega
end
end Go.Proofs.Ytcadbapccdclaaa
