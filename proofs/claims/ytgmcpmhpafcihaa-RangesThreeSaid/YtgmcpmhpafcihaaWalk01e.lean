/- sort.Search over the closure of between; between. -/
import Derived.Test.YtgmcpmhpafcihaaWalk01c
import Derived.Test.YtgmcpmhpafcihaaMath01c
import Derived.Deep.DeepCutAuto
import Derived.Deep.AppendLies
namespace Go.Proofs.Ytgmcpmhpafcihaa
open Go Go.RowKit
set_option linter.unusedVariables false
set_option linter.unusedSimpArgs false

/-- The two variables that the closure holds, and the rows. -/
structure Cap (w : World) (g1 g2 : Nat) (A : Option Addr) (l : List R3) (c : Nat) (lo : Int) : Prop where
  b1 : Box w g1 25 #[.slice A l.length c]
  b2 : Box w g2 3 #[.int .i64 lo]
  tab : Tab w w.heap.size A l
theorem Cap.below {w w' : World} {g1 g2 : Nat} {A : Option Addr} {l : List R3} {c : Nat} {lo : Int} (h : Cap w g1 g2 A l c lo) (hb : Below w.heap.size w w') : Cap w' g1 g2 A l c lo :=
  ⟨h.b1.below hb h.b1.lt, h.b2.below hb h.b2.lt, (h.tab.below hb).more hb.size⟩
theorem Cap.drewN {w : World} {g1 g2 : Nat} {A : Option Addr} {l : List R3} {c : Nat} {lo : Int} (h : Cap w g1 g2 A l c lo) (n : Nat) : Cap (w.drewN n) g1 g2 A l c lo := ⟨h.b1, h.b2, h.tab⟩

set_option maxHeartbeats 400000 in
theorem clo_c (g1 g2 : Nat) (A : Option Addr) (l : List R3) (c : Nat) (lo : Int) (w : World) (k : Nat) (x : R3) (h : Cap w g1 g2 A l c lo) (hx : l[k]? = some x) (hn : l.length ≤ 100000) (r : Bool) (hr : decide (lo ≤ x.hi) = r) :
    Calls Try.prog 29 #[.int .i64 k, .pointer (some ⟨g1, 0, none⟩), .pointer (some ⟨g2, 0, none⟩)] w fun e w' => e = .returned (.bool r) ∧ ∃ n, w' = w.drewN n := by
  have HR := Lib.hid hr
  have hk : k < l.length := (List.getElem?_eq_some_iff.1 hx).1
  obtain ⟨b, o, rfl, hb, h1, h2, h3⟩ := h.tab.at_ hx
  have c1 : w.cell? ⟨g1, 0, none⟩ = some (.slice (some ⟨b, o, none⟩) l.length c) := h.b1.cell 0
  have c2 : w.cell? ⟨g2, 0, none⟩ = some (.int .i64 lo) := h.b2.cell 0
  have hk0 : (0 : Int) ≤ (k : Int) := by omega
  have hk1 : (k : Int) < (l.length : Int) := by omega
  clear hx hr h
  go_enter Try.func29, Try.ntmps29
  go_wp2_with fail
  go_quiet (fail)
  go_wp2
  go_ret
  exact ⟨ret_bool HR.out, nq, rfl⟩

set_option maxHeartbeats 400000 in
theorem search_c (g1 g2 : Nat) (A : Option Addr) (l : List R3) (c : Nat) (lo : Int) (w : World) (h : Cap w g1 g2 A l c lo) (hn : l.length ≤ 100000) (hmono : ∀ (j k : Nat) (x y : R3), l[j]? = some x → l[k]? = some y → j < k → lo ≤ x.hi → lo ≤ y.hi) :
    Calls Try.prog 28 #[.int .i64 l.length, .func (.func 29) #[] #[.pointer (some ⟨g1, 0, none⟩), .pointer (some ⟨g2, 0, none⟩)]] w fun e w' => ∃ k : Nat, e = .returned (.int .i64 k) ∧ k ≤ l.length ∧ (∀ j x, j < k → l[j]? = some x → x.hi < lo) ∧ (∀ x, l[k]? = some x → lo ≤ x.hi) ∧ Below w.heap.size w w' := by
  go_enter Try.func28, Try.ntmps28
  go_wp2
  go_loopw [5, 6] (fun i j wr => ∃ (a b nq : Nat), a ≤ b ∧ b ≤ l.length ∧ i = .int .i64 a ∧ j = .int .i64 b ∧ (∀ (t : Nat) (x : R3), t < a → l[t]? = some x → x.hi < lo) ∧ (∀ (t : Nat) (x : R3), b ≤ t → l[t]? = some x → lo ≤ x.hi) ∧ wr = w.drewN nq) (fun i j _ => (intOf j - intOf i).toNat)
  case atStart => exact ⟨0, l.length, 0, Nat.zero_le _, Nat.le_refl _, rfl, rfl, fun t x ht => absurd ht (by omega), fun t x ht hx => by have := (List.getElem?_eq_some_iff.1 hx).1; omega, rfl⟩
  case round =>
    obtain ⟨a, b, nq0, hab, hbl, rfl, rfl, hlo, hhi, rfl⟩ := hrel
    have HLO := Lib.hid hlo
    have HHI := Lib.hid hhi
    have HMO := Lib.hid hmono
    clear hlo hhi hmono
    by_cases hlt : a < b
    · have hi1 : (a : Int) < (b : Int) := by omega
      go_wp2_with fail
      obtain ⟨m, hm⟩ : ∃ m : Nat, ((a : Int) + (b : Int)) / 2 = (m : Int) := ⟨(a + b) / 2, by omega⟩
      rw [hm]
      have hma : a ≤ m := by omega
      have hmb : m < b := by omega
      clear hm
      have hg : l[m]? = some l[m] := List.getElem?_eq_getElem (by omega)
      generalize l[m] = x at *
      have HG := Lib.hid hg
      cases hq : decide (lo ≤ x.hi)
      · have HQ := Lib.hid hq
        refine (clo_c g1 g2 A l c lo _ m x (h.drewN nq0) hg hn false hq).mono ?_
        rintro e w1 ⟨rfl, n1, rfl⟩
        clear hg hq
        go_wp2
        refine ⟨⟨m + 1, b, _, by omega, hbl, by go_num, rfl, fun t y ht hy => ?_, HHI.out, rfl⟩, by simp [intOf]; omega⟩
        have hqx : ¬ lo ≤ x.hi := by simpa using HQ.out
        by_cases e : t = m
        · subst e; rw [HG.out] at hy; injection hy with hy; subst hy; omega
        · have h1 := HMO.out t m y x hy HG.out (by omega)
          omega
      · have HQ := Lib.hid hq
        refine (clo_c g1 g2 A l c lo _ m x (h.drewN nq0) hg hn true hq).mono ?_
        rintro e w1 ⟨rfl, n1, rfl⟩
        clear hg hq
        go_wp2
        refine ⟨⟨a, m, _, hma, by omega, rfl, rfl, HLO.out, fun t y ht hy => ?_, rfl⟩, by simp [intOf]; omega⟩
        have hqx : lo ≤ x.hi := by simpa using HQ.out
        by_cases e : t = m
        · subst e; rw [HG.out] at hy; injection hy with hy; subst hy; exact hqx
        · exact HMO.out m t x y HG.out hy (by omega) hqx
    · obtain rfl : a = b := by omega
      go_wp2
      go_ret
      exact ⟨a, rfl, hbl, HLO.out, fun x hx => HHI.out a x (Nat.le_refl _) hx, below_drewN (Below.refl _ _) nq0⟩

theorem dropWhile_at {lo : Int} {l : List R3} {k : Nat} (hk : k ≤ l.length) (h1 : ∀ (j : Nat) (x : R3), j < k → l[j]? = some x → x.hi < lo) (h2 : ∀ x, l[k]? = some x → lo ≤ x.hi) : (l.dropWhile fun x => decide (x.hi < lo)) = l.drop k := by
  induction l generalizing k with
  | nil => simp
  | cons y l ih =>
    cases k with
    | zero =>
      have := h2 y rfl
      rw [List.dropWhile_cons_of_neg (by simp; omega)]; rfl
    | succ k =>
      have := h1 0 y (by omega) rfl
      rw [List.dropWhile_cons_of_pos (by simp; omega), List.drop_succ_cons]
      exact ih (by simpa using hk) (fun j x hj hx => h1 (j + 1) x (by omega) (by simpa using hx)) (fun x hx => h2 x (by simpa using hx))

/-- What a call leaves that lays rows behind v: a slice of its own with them. -/
def Laid (base : Nat) (cells : List R3) (w : World) (v : Value) (e : Ending) (w' : World) : Prop := ∃ v' n', e = .returned v' ∧ w'.ownsRow base 47 3 v' n' (flat cells) ∧ Own1 w w' v v'
theorem Laid.mk {base : Nat} {cells : List R3} {w w' : World} {v v' : Value} {e : Ending} {n' : Nat} (h : e = .returned v') (h1 : w'.ownsRow base 47 3 v' n' (flat cells)) (h2 : Own1 w w' v v') : Laid base cells w v e w' := ⟨v', n', h, h1, h2⟩

set_option maxHeartbeats 1000000 in
theorem between_c (base : Nat) (v : Value) (n : Nat) (out : List R3) (A : Option Addr) (l : List R3) (c : Nat) (lo hi : Int) (w : World) (hown : w.ownsRow base 47 3 v n (flat out)) (hbase : base ≤ w.heap.size) (h : Tab w w.heap.size A l) (hn : l.length ≤ 50000) (ho : out.length ≤ 50000)
    (hri : riseF (-1) l = true) (hcap : l.length ≤ c) (hc2 : c ≤ maxLen) (hAv : ∀ b o, l ≠ [] → A = some ⟨b, o, none⟩ → v.ownBlock ≠ some b) :
    Calls Try.prog 27 #[v, .slice A l.length c, .int .i64 lo, .int .i64 hi] w (Laid base (out ++ betweenF l lo hi) w v) := by
  obtain ⟨i0, hi0, hz0, hz1, hz2⟩ := info_parts infoRow
  by_cases hlh : hi < lo
  · have hb : betweenF l lo hi = [] := by simp [betweenF, hlh]
    have HB := Lib.hid hb
    clear hb
    go_enter Try.func27, Try.ntmps27
    have hb1 : Below w.heap.size w ((w.alloc (.cells #[.slice A l.length c] 25)).alloc (.cells #[.int .i64 lo] 3)) := ((Below.refl _ _).alloc (Nat.le_refl _) _).alloc (by simp) _
    have hownb := own_below hown hb1
    go_wp2
    go_ret
    exact Laid.mk rfl (by rw [HB.out, List.append_nil]; exact hownb) (Own1.below hb1)
  · have hb : betweenF l lo hi = pieces lo hi (l.dropWhile fun x => decide (x.hi < lo)) := by simp [betweenF, hlh]
    have HB := Lib.hid hb
    have HRI := Lib.hid hri
    clear hb hri
    go_enter Try.func27, Try.ntmps27
    go_wp2_with fail
    have hB5 : Box ((w.alloc (.cells #[.slice A l.length c] 25)).alloc (.cells #[.int .i64 lo] 3)) w.heap.size 25 #[.slice A l.length c] := (Box.new w _ _).alloc _
    have hB6 : Box ((w.alloc (.cells #[.slice A l.length c] 25)).alloc (.cells #[.int .i64 lo] 3)) (w.heap.size + 1) 3 #[.int .i64 lo] := by simpa using Box.new (w.alloc (.cells #[.slice A l.length c] 25)) 3 #[.int .i64 lo]
    have hbw : Below w.heap.size w ((w.alloc (.cells #[.slice A l.length c] 25)).alloc (.cells #[.int .i64 lo] 3)) := ((Below.refl _ _).alloc (Nat.le_refl _) _).alloc (by simp) _
    refine (search_c w.heap.size (w.heap.size + 1) A l c lo _ ⟨hB5, hB6, (h.below hbw).more hbw.size⟩ (by omega) (fun j k x y hx hy hjk hlx => by
      have h1 := rise_lt HRI.out hx hy hjk
      have h2 := rise_ok HRI.out hy
      omega)).mono ?_
    rintro e w1 ⟨k, rfl, hkl, hk1, hk2, hb1⟩
    have hdw := dropWhile_at hkl hk1 hk2
    have HDW := Lib.hid hdw
    have hb1' : Below w.heap.size w w1 := hbw.trans (hb1.mono hbw.size)
    have hB5' := hB5.below hb1 hB5.lt
    have hB6' := hB6.below hb1 hB6.lt
    have hc5 : w1.cell? ⟨w.heap.size, 0, none⟩ = some (.slice A l.length c) := hB5'.cell 0
    have hc6 : w1.cell? ⟨w.heap.size + 1, 0, none⟩ = some (.int .i64 lo) := hB6'.cell 0
    have hvl : ∀ g, v.ownBlock = some g → g < w.heap.size := fun g hg => (hown.lt g hg).2
    have hown1 : w1.ownsRow base 47 3 v n (flat out) := own_below hown hb1'
    clear hdw hk1 hk2 hb1 hB5 hB6 hbw hB5' hown
    have hk0 : (0 : Int) ≤ (k : Int) := by omega
    have hkl' : (k : Int) ≤ (l.length : Int) := by omega
    have hlc' : (l.length : Int) ≤ (c : Int) := by omega
    unfold maxLen at hc2
    by_cases hkn : k < l.length
    · have hkc : ¬ c = k := by omega
      have hgk : l[k]? = some l[k] := List.getElem?_eq_getElem hkn
      obtain ⟨b, o, rfl, hb, _⟩ := h.at_ hgk
      clear hgk
      go_wp2
      go_loopw [0, 24] (fun vj i wr => ∃ (j nj : Nat) (done : List R3), j ≤ l.length - k ∧ i = .int .i64 j ∧ pieces lo hi (l.drop k) = done ++ pieces lo hi (l.drop (k + j)) ∧ done.length ≤ j ∧ wr.ownsRow base 47 3 vj nj (flat (out ++ done)) ∧ Own1 w1 wr v vj) (fun _ i _ => l.length - k - (intOf i).toNat)
      case atStart => exact ⟨0, n, [], Nat.zero_le _, rfl, rfl, Nat.le_refl _, by rw [List.append_nil]; exact hown1, Own1.refl _ _⟩
      case round =>
        obtain ⟨j, nj, done, hj, rfl, hpd, hdl, hownj, hO⟩ := hrel
        have HPD := Lib.hid hpd
        clear hpd
        by_cases hlt : k + j < l.length
        · have hg : l[k + j]? = some l[k + j] := List.getElem?_eq_getElem hlt
          generalize l[k + j] = x at *
          obtain ⟨b', o', e, hb'', hx3⟩ := h.at_ hg
          obtain ⟨rfl, rfl⟩ : b = b' ∧ o = o' := by injection e with e; injection e with e1 e2; exact ⟨e1, e2⟩
          obtain ⟨h1, h2, h3⟩ := hO.at3 (by have := hb1'.size; omega) (hAv b o (by rintro rfl; simp at hkn) rfl) (hx3.below hb1' hb)
          rw [show o + (k + j) * 3 = o + k * 3 + j * 3 by omega] at h1 h2 h3
          have hc6r : wr.cell? ⟨w.heap.size + 1, 0, none⟩ = some (.int .i64 lo) := (hO.box hB6' (fun e => by have := hvl _ e; omega)).cell 0
          have hz1w : w1.heap.size ≤ wr.heap.size := hO.gr.size
          have hzw := hB6'.lt
          have hps : pieces lo hi (l.drop (k + j)) = if hi < x.lo then [] else clip lo hi x :: pieces lo hi (l.drop (k + j + 1)) := by rw [drop_cons hg]; rfl
          by_cases hxh : hi < x.lo
          · have hp : pieces lo hi (l.drop k) = done := by rw [HPD.out, hps, if_pos hxh, List.append_nil]
            have HP := Lib.hid hp
            clear hp hps hg hx3 h
            go_wp2
            go_ret
            exact Laid.mk rfl (by rw [HB.out, HDW.out, HP.out]; exact own_below hownj ((Below.refl _ _).alloc (Nat.le_refl _) _)) (((Own1.below hb1').trans hO).trans (Own1.below ((Below.refl _ _).alloc (Nat.le_refl _) _)))
          · have hp : pieces lo hi (l.drop k) = (done ++ [clip lo hi x]) ++ pieces lo hi (l.drop (k + j + 1)) := by rw [HPD.out, hps, if_neg hxh]; simp
            have HP := Lib.hid hp
            clear hp hps hg hx3 h
            have hlt1 : w.heap.size + 1 < wr.heap.size := by omega
            have hnj : nj = (out ++ done).length := (own_cases hownj).1
            have hnj' : nj ≤ 100000 := by rw [hnj]; simp; omega
            have HNJ := Lib.hid hnj
            clear hnj
            go_wp2_with (at_builtin; refine wpList_append_lies _ rfl _ _ 25 rfl base 47 i0 _ 3 24 Try.underlying25 hi0 hz0 hz1 hz2 rfl (by decide) _ _ _ rfl ((hownj.alloc _).alloc _) ⟨wr.heap.size + 1, 0, none⟩ 1 1 (rowCells (clip lo hi x)) rfl rfl ?c1 (row_one _) (by decide) (by unfold maxLen; omega) (by omega) (by have := hb1'.size; simp; omega) (wr.heap.size + 2) (by simp) ?_)
            case c1.inl.inl => intro j u hj; rw [show clip lo hi x = ⟨lo, hi, x.v⟩ by unfold clip; rw [show max x.lo lo = lo by omega, show min x.hi hi = hi by omega]] at hj; exact hj
            case c1.inl.inr => intro j u hj; rw [show clip lo hi x = ⟨lo, x.hi, x.v⟩ by unfold clip; rw [show max x.lo lo = lo by omega, show min x.hi hi = x.hi by omega]] at hj; exact hj
            case c1.inr.inl => intro j u hj; rw [show clip lo hi x = ⟨x.lo, hi, x.v⟩ by unfold clip; rw [show max x.lo lo = x.lo by omega, show min x.hi hi = hi by omega]] at hj; exact hj
            case c1.inr.inr => intro j u hj; rw [show clip lo hi x = ⟨x.lo, x.hi, x.v⟩ by unfold clip; rw [show max x.lo lo = x.lo by omega, show min x.hi hi = x.hi by omega]] at hj; exact hj
            all_goals
              intro g cap w2 hown2 hgrow hat hlt2
              have hown3 : w2.ownsRow base 47 3 (.slice (some ⟨g, 0, none⟩) (nj + 1) cap) (nj + 1) (flat (out ++ (done ++ [clip lo hi x]))) := by rw [← List.append_assoc, flat_snoc]; exact hown2
              have hO2 := hO.trans ((Own1.below (((Below.refl _ _).alloc (Nat.le_refl _) _).alloc (by simp) _)).trans (Own1.grown hgrow (v' := .slice (some ⟨g, 0, none⟩) (nj + 1) cap) (by
                rcases hat with h | h
                · exact .inl h
                · right; intro g' hg'; simp [Value.ownBlock] at hg'; subst hg'; simp; omega)))
              clear hown2 hgrow hat h1 h2 h3 hc6r hlt2
              go_wp2
              exact ⟨⟨j + 1, nj + 1, done ++ [clip lo hi x], by omega, by go_num, by rw [HP.out, Nat.add_assoc], by simp; omega, hown3, hO2⟩, by simp [intOf]; omega⟩
        · have hkl2 : k + j = l.length := by omega
          have hp : pieces lo hi (l.drop k) = done := by rw [HPD.out, List.drop_eq_nil_of_le (by omega)]; simp [pieces]
          have HP := Lib.hid hp
          clear hp
          go_wp2
          go_ret
          exact Laid.mk rfl (by rw [HB.out, HDW.out, HP.out]; exact hownj) ((Own1.below hb1').trans hO)
    · have hkl2 : k = l.length := by omega
      have hp : pieces lo hi (l.dropWhile fun x => decide (x.hi < lo)) = [] := by rw [HDW.out, List.drop_eq_nil_of_le (by omega)]; rfl
      have HP := Lib.hid hp
      clear hp
      have hz0' : ((l.length : Int) - (k : Int)) = 0 := by omega
      go_wp2
      all_goals
        refine wp_loop_rounds 1 ?_
        rw [rounds_succ]
        go_wp2
        go_ret
        exact Laid.mk rfl (by rw [HB.out, HP.out, List.append_nil]; exact hown1) (Own1.below hb1')
end Go.Proofs.Ytgmcpmhpafcihaa
