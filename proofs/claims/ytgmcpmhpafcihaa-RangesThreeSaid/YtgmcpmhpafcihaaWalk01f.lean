/- lay and Over, by their contracts. -/
import Derived.Test.YtgmcpmhpafcihaaWalk01e
namespace Go.Proofs.Ytgmcpmhpafcihaa
open Go Go.RowKit
set_option linter.unusedVariables false
set_option linter.unusedSimpArgs false

theorem pieces_len (lo hi : Int) (l : List R3) : (pieces lo hi l).length ≤ l.length := by
  induction l with
  | nil => simp [pieces]
  | cons x l ih => unfold pieces; split <;> simp; omega
theorem dropWhile_len (p : R3 → Bool) (l : List R3) : (l.dropWhile p).length ≤ l.length := by
  induction l with
  | nil => simp
  | cons x l ih => rw [List.dropWhile_cons]; split <;> simp; omega
theorem betweenF_len (l : List R3) (lo hi : Int) : (betweenF l lo hi).length ≤ l.length := by
  unfold betweenF
  split
  · simp
  · exact Nat.le_trans (pieces_len _ _ _) (dropWhile_len _ _)
theorem layTo_len (a b : List R3) : (layTo a b).1.length ≤ b.length * (a.length + 1) := by
  induction b using snoc_ind with
  | h0 => simp [layTo]
  | h1 b x ih =>
    rw [layTo_snoc]
    have := betweenF_len a (layTo a b).2 (x.lo - 1)
    simp only [layStep, List.length_append, List.length_cons, List.length_nil, Nat.add_mul]
    omega
theorem layTo_free (a b : List R3) (h : riseF (-1) b = true) : 0 ≤ (layTo a b).2 ∧ (layTo a b).2 ≤ 1114112 := by
  induction b using snoc_ind with
  | h0 => simp [layTo]
  | h1 b x ih =>
    rw [layTo_snoc]
    have := rise_ok h (k := b.length) (x := x) (by simp)
    simp only [layStep]
    omega

set_option maxRecDepth 100000 in
set_option maxHeartbeats 2000000 in
theorem lay_c (A B : Option Addr) (a b : List R3) (ca cb : Nat) (w : World) (hA : Tab w w.heap.size A a) (hB : Tab w w.heap.size B b) (hna : a.length ≤ 4096) (hnb : b.length ≤ 4096) (hab : b.length * (a.length + 1) ≤ 50000) (hra : riseF (-1) a = true) (hrb : riseF (-1) b = true)
    (hca : a.length ≤ ca) (hcm : ca ≤ maxLen) :
    Calls Try.prog 25 #[.slice A a.length ca, .slice B b.length cb] w (Laid w.heap.size (layF a b) w (.slice none 0 0)) := by
  obtain ⟨i0, hi0, hz0, hz1, hz2⟩ := info_parts infoRow
  have HRA := Lib.hid hra
  have HRB := Lib.hid hrb
  clear hra hrb
  go_enter Try.func25, Try.ntmps25
  go_wp2
  go_loopw [5, 6, 11] (fun v f i wr => ∃ (j n : Nat) (fr : Int), j ≤ b.length ∧ i = .int .i64 j ∧ f = .int .i64 fr ∧ fr = (layTo a (b.take j)).2 ∧ wr.ownsRow w.heap.size 47 3 v n (flat (layTo a (b.take j)).1) ∧ Below w.heap.size w wr) (fun _ _ i _ => b.length - (intOf i).toNat)
  case atStart => exact ⟨0, 0, 0, Nat.zero_le _, rfl, rfl, rfl, World.ownsRow_nil _ _ _ _, Below.refl _ _⟩
  case round =>
    obtain ⟨j, n, fr, hj, rfl, rfl, hfr, hown, hbel⟩ := hrel
    have HFR := Lib.hid hfr
    have hfb := layTo_free a (b.take j) (rise_take HRB.out j)
    rw [← hfr] at hfb
    have hlen := layTo_len a (b.take j)
    have hlen2 : (layTo a (b.take j)).1.length ≤ 50000 := by
      have h1 : (b.take j).length ≤ b.length := by rw [List.length_take]; omega
      exact Nat.le_trans hlen (Nat.le_trans (Nat.mul_le_mul_right _ h1) hab)
    clear hfr hlen
    by_cases hlt : j < b.length
    · have hg : b[j]? = some b[j] := List.getElem?_eq_getElem hlt
      generalize b[j] = x at *
      obtain ⟨bb, bo, rfl, hbb, h0⟩ := hB.at_ hg
      obtain ⟨h1, h2, h3⟩ := h0.below hbel hbb
      have hx := rise_ok HRB.out hg
      have hs : layTo a (b.take (j + 1)) = layStep a (layTo a (b.take j)) x := by rw [take_snoc hg, layTo_snoc]
      have HS := Lib.hid hs
      clear hs hg h0
      obtain ⟨hx1, hx2, hx3, _, _⟩ := hx
      have hX := Box.new wr 47 #[.int .i64 x.lo, .int .i64 x.hi, .int .i64 x.v]
      have hvX : u5.ownBlock ≠ some wr.heap.size := fun e => by have := (hown.lt _ e).2; omega
      have hown0 : (wr.alloc (.cells #[.int .i64 x.lo, .int .i64 x.hi, .int .i64 x.v] 47)).ownsRow w.heap.size 47 3 u5 n (flat (layTo a (b.take j)).1) := hown.alloc _
      have hbel0 : Below w.heap.size w (wr.alloc (.cells #[.int .i64 x.lo, .int .i64 x.hi, .int .i64 x.v] 47)) := hbel.alloc hbel.size _
      go_upto_region 6 with fail
      generalize wr.alloc (.cells #[.int .i64 x.lo, .int .i64 x.hi, .int .i64 x.v] 47) = W at *
      generalize wr.heap.size = X at *
      clear h1 h2 h3 hown hbel
      obtain ⟨out, hout⟩ : ∃ out, out = (layTo a (b.take j)).1 := ⟨_, rfl⟩
      have HOUT : Hid ((layTo a (b.take j)).1 = out) := hout.symm
      rw [← hout] at hown0 hlen2
      clear hout
      have HHas : Nonempty (Has fun W => Box W X 47 #[.int .i64 x.lo, .int .i64 x.hi, .int .i64 x.v]) := ⟨⟨W, hX⟩⟩
      have f1 : ∀ u : Has fun W => Box W X 47 #[.int .i64 x.lo, .int .i64 x.hi, .int .i64 x.v], u.val.cell? ⟨X, 0, none⟩ = some (.int .i64 x.lo) := fun u => u.ok.cell 0
      have f2 : ∀ u : Has fun W => Box W X 47 #[.int .i64 x.lo, .int .i64 x.hi, .int .i64 x.v], u.val.cell? ⟨X, 1, none⟩ = some (.int .i64 x.hi) := fun u => u.ok.cell 1
      have f3 : ∀ u : Has fun W => Box W X 47 #[.int .i64 x.lo, .int .i64 x.hi, .int .i64 x.v], u.val.cell? ⟨X, 2, none⟩ = some (.int .i64 x.v) := fun u => u.ok.cell 2
      go_cut [5] (fun v' wx => ∃ n', wx.ownsRow w.heap.size 47 3 v' n' (flat ((out ++ betweenF a fr (x.lo - 1)) ++ [x])) ∧ Below w.heap.size w wx ∧ Box wx X 47 #[.int .i64 x.lo, .int .i64 x.hi, .int .i64 x.v])
      case first =>
        refine region_plan2 [([0, 1, 2, 3, 4, 5, 7], [])] 3 6 8 [([], [8, 9, 10])] [([], [6, 9, 10])] (fun w' => ∃ u : Has fun W => Box W X 47 #[.int .i64 x.lo, .int .i64 x.hi, .int .i64 x.v], w' = u.val) (by kernel_rfl) (by kernel_rfl) (fun _ _ _ _ _ h => h) ⟨⟨W.drew, hX.drew⟩, rfl⟩ ?_
        simp only [wpPlanK, sel, List.take_succ_cons, List.take_zero, List.drop_succ_cons, List.drop_zero, List.cons_append, List.nil_append]
        repeat (go_big_quiet_step (fail))
        refine wpQuiet_nil ?_
        simp only [wpChain]
        refine ⟨?_, ?_⟩
        · go_wp2_with fail
          refine (between_c w.heap.size u5 n out A a ca fr (x.lo - 1) W.drew hown0.drew hbel0.size ((hA.below hbel0.drew).more hbel0.size) (by omega) hlen2 HRA.out hca hcm (fun b' o' ha0 e e' => by
            have h1 := (hown0.lt _ e').1
            obtain ⟨b2, o2, e2, h2, _⟩ := hA ha0
            rw [e] at e2; injection e2 with e2; injection e2 with e2; omega)).mono ?_
          rintro e w1 ⟨v1, n1, rfl, hown1, hO1⟩
          have hX1 := hO1.box hX.drew hvX
          have hbel1 : Below w.heap.size w w1 := hbel0.drew.trans (hO1.belowBase hbel0.size (fun g hg => (hown0.lt g hg).1))
          have hn1 := (own_cases hown1).1
          have hn1' : n1 ≤ 100000 := by have := betweenF_len a fr (x.lo - 1); rw [hn1, List.length_append]; omega
          have hv1X : v1.ownBlock ≠ some X := fun e => by
            rcases hO1.at_ with h1 | h1
            · exact hvX (h1 ▸ e)
            · have := h1 _ e; have := hX.lt; simp at *; omega
          clear hn1 hO1
          go_wp2_with fail
          refine ⟨⟨⟨_, hX1⟩, rfl⟩, ?_⟩
          simp only [wpPlan, sel, List.take_succ_cons, List.take_zero, List.drop_succ_cons, List.drop_zero, List.cons_append, List.nil_append]
          refine wpQuiet_nil ?_
          unfold wpChain
          go_wp2_with fail
          refine ⟨⟨⟨_, hX1.alloc _⟩, rfl⟩, ?_⟩
          unfold wpChain
          go_wp2_with (at_builtin; refine wpList_append_lies _ rfl _ _ 25 rfl w.heap.size 47 i0 _ 3 24 Try.underlying25 hi0 hz0 hz1 hz2 rfl (by decide) _ _ _ rfl (hown1.alloc _) ⟨w1.heap.size, 0, none⟩ 1 1 (rowCells x) rfl rfl (news w1 47 x) (row_one _) (by decide) (by unfold maxLen; omega) (by omega) (by have := hbel1.size; simp; omega) (w1.heap.size + 1) (by simp) ?_)
          intro g cap w2 hown2 hgrow hat hlt2
          have hown3 : w2.ownsRow w.heap.size 47 3 (.slice (some ⟨g, 0, none⟩) (n1 + 1) cap) (n1 + 1) (flat ((out ++ betweenF a fr (x.lo - 1)) ++ [x])) := by rw [flat_snoc]; exact hown2
          have hX2 : Box w2 X 47 #[.int .i64 x.lo, .int .i64 x.hi, .int .i64 x.v] := (hX1.alloc _).grown hgrow (fun e => hv1X e.symm)
          have hbel2 : Below w.heap.size w w2 := (hbel1.alloc hbel1.size _).grown hgrow (by have := hbel1.size; simp; omega) (fun g hg => (hown1.lt g hg).1)
          clear hown2 hgrow hat hlt2 hown1 hX1
          go_wp2_with fail
          refine ⟨⟨⟨_, hX2⟩, rfl⟩, ?_⟩
          unfold wpChain
          go_wp2_with fail
          refine ⟨⟨⟨_, hX2⟩, rfl⟩, ?_⟩
          unfold wpChain
          go_wp2_with fail
          go_meet
          exact ⟨_, hown3, hbel2, hX2⟩
        · go_wp2_with fail
          have hXY := hX.alloc (.cells #[.int .i64 x.lo, .int .i64 x.hi, .int .i64 x.v] 47)
          have hYY := Box.new W 47 #[.int .i64 x.lo, .int .i64 x.hi, .int .i64 x.v]
          have hvY : u5.ownBlock ≠ some W.heap.size := fun e => by have := (hown0.lt _ e).2; omega
          have hownY := hown0.alloc (.cells #[.int .i64 x.lo, .int .i64 x.hi, .int .i64 x.v] 47)
          have hbelY := hbel0.alloc hbel0.size (.cells #[.int .i64 x.lo, .int .i64 x.hi, .int .i64 x.v] 47)
          refine ⟨⟨⟨_, hXY.drew⟩, rfl⟩, ?_⟩
          simp only [wpPlan, sel, List.take_succ_cons, List.take_zero, List.drop_succ_cons, List.drop_zero, List.cons_append, List.nil_append]
          refine wpQuiet_nil ?_
          unfold wpChain
          go_wp2_with fail
          refine (between_c w.heap.size u5 n out A a ca fr (x.lo - 1) _ hownY.drew hbelY.size ((hA.below hbelY.drew).more hbelY.size) (by omega) hlen2 HRA.out hca hcm (fun b' o' ha0 e e' => by
            have h1 := (hown0.lt _ e').1
            obtain ⟨b2, o2, e2, h2, _⟩ := hA ha0
            rw [e] at e2; injection e2 with e2; injection e2 with e2; omega)).mono ?_
          rintro e w1 ⟨v1, n1, rfl, hown1, hO1⟩
          have hX1 := hO1.box hXY.drew hvX
          have hY1 := hO1.box hYY.drew hvY
          have hbel1 : Below w.heap.size w w1 := hbelY.drew.trans (hO1.belowBase hbelY.size (fun g hg => (hown0.lt g hg).1))
          have hn1 := (own_cases hown1).1
          have hn1' : n1 ≤ 100000 := by have := betweenF_len a fr (x.lo - 1); rw [hn1, List.length_append]; omega
          have hv1X : v1.ownBlock ≠ some X := fun e => by
            rcases hO1.at_ with h1 | h1
            · exact hvX (h1 ▸ e)
            · have := h1 _ e; have := hX.lt; simp at *; omega
          clear hn1 hO1
          go_wp2_with fail
          refine ⟨⟨⟨_, hX1⟩, rfl⟩, ?_⟩
          unfold wpChain
          go_wp2_with (at_builtin; refine wpList_append_lies _ rfl _ _ 25 rfl w.heap.size 47 i0 _ 3 24 Try.underlying25 hi0 hz0 hz1 hz2 rfl (by decide) _ _ _ rfl hown1 ⟨W.heap.size, 0, none⟩ 1 1 (rowCells x) rfl rfl ?c1 (row_one _) (by decide) (by unfold maxLen; omega) (by omega) (by have := hbel1.size; omega) w1.heap.size rfl ?_)
          case c1 =>
            intro q u hq
            have e : (⟨W.heap.size, 0, none⟩ : Addr).add q = ⟨W.heap.size, q, none⟩ := by unfold Addr.add; split <;> simp_all
            rw [e, hY1.cell q]
            simpa [rowCells] using hq
          intro g cap w2 hown2 hgrow hat hlt2
          have hown3 : w2.ownsRow w.heap.size 47 3 (.slice (some ⟨g, 0, none⟩) (n1 + 1) cap) (n1 + 1) (flat ((out ++ betweenF a fr (x.lo - 1)) ++ [x])) := by rw [flat_snoc]; exact hown2
          have hX2 : Box w2 X 47 #[.int .i64 x.lo, .int .i64 x.hi, .int .i64 x.v] := hX1.grown hgrow (fun e => hv1X e.symm)
          have hbel2 : Below w.heap.size w w2 := hbel1.grown hgrow hbel1.size (fun g hg => (hown1.lt g hg).1)
          clear hown2 hgrow hat hlt2 hown1 hX1
          go_wp2_with fail
          refine ⟨⟨⟨_, hX2⟩, rfl⟩, ?_⟩
          unfold wpChain
          go_wp2_with fail
          refine ⟨⟨⟨_, hX2⟩, rfl⟩, ?_⟩
          unfold wpChain
          go_wp2_with fail
          go_meet
          exact ⟨_, hown3, hbel2, hX2⟩
      case rest =>
        obtain ⟨n', hown', hbel', hX'⟩ := hcut
        have hc2 := hX'.cell 1
        have hps : (layTo a (b.take (j + 1))).1 = (out ++ betweenF a fr (x.lo - 1)) ++ [x] ∧ (layTo a (b.take (j + 1))).2 = x.hi + 1 := by rw [HS.out]; unfold layStep; rw [← HFR.out, HOUT.out]; exact ⟨rfl, rfl⟩
        have HPS := Lib.hid hps
        clear hps
        go_wp2
        exact ⟨⟨j + 1, n', x.hi + 1, by omega, by go_num, rfl, HPS.out.2.symm, by rw [HPS.out.1]; exact hown', hbel'⟩, by simp [intOf]; omega⟩
    · have hjb : b.take j = b := List.take_of_length_le (by omega)
      rw [hjb] at hown HFR hlen2
      clear hjb
      go_wp2_with fail
      have hbel := hbel
      refine (between_c w.heap.size u5 n (layTo a b).1 A a ca fr 1114111 wr hown hbel.size ((hA.below hbel).more hbel.size) (by omega) hlen2 HRA.out hca hcm (fun b' o' ha0 e e' => by
            have h1 := (hown.lt _ e').1
            obtain ⟨b2, o2, e2, h2, _⟩ := hA ha0
            rw [e] at e2; injection e2 with e2; injection e2 with e2; omega)).mono ?_
      rintro e w1 ⟨v1, n1, rfl, hown1, hO1⟩
      have hbel1 : Below w.heap.size w w1 := hbel.trans (hO1.belowBase hbel.size (fun g hg => (hown.lt g hg).1))
      have hown2 : w1.ownsRow w.heap.size 47 3 v1 n1 (flat (layF a b)) := by unfold layF; rw [← HFR.out]; exact hown1
      clear hown1 hO1
      go_wp2
      go_ret
      exact Laid.mk rfl hown2 ⟨⟨hbel1.os, hbel1.tape, hbel1.output, hbel1.size, fun k hk _ => hbel1.block k hk⟩, .inr (fun g hg => (hown2.lt g hg).1)⟩

theorem layF_len (a b : List R3) (h : b.length * (a.length + 1) ≤ 50000) (ha : a.length ≤ 4096) : (layF a b).length ≤ 60000 := by
  have h1 := layTo_len a b
  have h2 := betweenF_len a (layTo a b).2 1114111
  unfold layF
  rw [List.length_append]
  omega

set_option maxRecDepth 100000 in
set_option maxHeartbeats 1000000 in
theorem over_c (A B : Option Addr) (a b : List R3) (ca cb : Nat) (w : World) (hA : Tab w w.heap.size A a) (hB : Tab w w.heap.size B b) (hab : b.length * (a.length + 1) ≤ 50000) (hsa : saneF a = true) (hsb : saneF b = true)
    (hca : a.length ≤ ca) (hcm : ca ≤ maxLen) (hrl : riseF (-1) (layF a b) = true) (hj4 : (joinF (layF a b)).length ≤ 4096) :
    Calls Try.prog 18 #[.agg #[.slice A a.length ca], .agg #[.slice B b.length cb]] w fun e w' => ∃ A' c', e = .returned (.agg #[.slice A' (joinF (layF a b)).length c']) ∧ Tab w' w'.heap.size A' (joinF (layF a b)) ∧ Below w.heap.size w w' ∧ (joinF (layF a b)).length ≤ c' ∧ c' ≤ maxLen := by
  obtain ⟨ha1, ha2, _⟩ := sane_parts hsa
  obtain ⟨hb1, hb2, _⟩ := sane_parts hsb
  have HSA := Lib.hid hsa
  have HSB := Lib.hid hsb
  have HRA := Lib.hid ha2
  have HRB := Lib.hid hb2
  have HRL := Lib.hid hrl
  clear hsa hsb ha2 hb2 hrl
  go_enter Try.func18, Try.ntmps18
  go_wp2_with fail
  have x1 : Box (((w.alloc (.cells #[.slice A a.length ca] 27)).alloc (.cells #[.slice B b.length cb] 27)).alloc (.cells #[.slice none 0 0] 27)) w.heap.size 27 #[.slice A a.length ca] := ((Box.new w _ _).alloc _).alloc _
  have x2 : Box (((w.alloc (.cells #[.slice A a.length ca] 27)).alloc (.cells #[.slice B b.length cb] 27)).alloc (.cells #[.slice none 0 0] 27)) (w.heap.size + 1) 27 #[.slice B b.length cb] := by
    have := (Box.new (w.alloc (.cells #[.slice A a.length ca] 27)) 27 #[.slice B b.length cb]).alloc (.cells #[.slice none 0 0] 27)
    simpa using this
  have x3 : Box (((w.alloc (.cells #[.slice A a.length ca] 27)).alloc (.cells #[.slice B b.length cb] 27)).alloc (.cells #[.slice none 0 0] 27)) (w.heap.size + 2) 27 #[.slice none 0 0] := by
    have := Box.new ((w.alloc (.cells #[.slice A a.length ca] 27)).alloc (.cells #[.slice B b.length cb] 27)) 27 #[.slice none 0 0]
    simpa using this
  have hb0 : Below w.heap.size w (((w.alloc (.cells #[.slice A a.length ca] 27)).alloc (.cells #[.slice B b.length cb] 27)).alloc (.cells #[.slice none 0 0] 27)) := (((Below.refl _ _).alloc (Nat.le_refl _) _).alloc (by simp) _).alloc (by simp only [World.size_alloc]; omega) _
  generalize (((w.alloc (.cells #[.slice A a.length ca] 27)).alloc (.cells #[.slice B b.length cb] 27)).alloc (.cells #[.slice none 0 0] 27)) = W at *
  refine (sane_c A a ca W (by unfold maxLen; omega) ((hA.below hb0).more hb0.size) true HSA.out).mono ?_
  rintro e w1 ⟨rfl, hz⟩
  replace x1 := x1.below hz x1.lt
  replace x2 := x2.below hz x2.lt
  replace x3 := x3.below hz x3.lt
  replace hb0 := hb0.trans (hz.mono hb0.size)
  clear hz
  have c2 : w1.cell? ⟨w.heap.size + 1, 0, none⟩ = some (.slice B b.length cb) := x2.cell 0
  go_wp2_with fail
  refine (sane_c B b cb w1 (by unfold maxLen; omega) ((hB.below hb0).more hb0.size) true HSB.out).mono ?_
  rintro e w2 ⟨rfl, hz⟩
  replace x1 := x1.below hz x1.lt
  replace x2 := x2.below hz x2.lt
  replace x3 := x3.below hz x3.lt
  replace hb0 := hb0.trans (hz.mono hb0.size)
  clear hz c2
  have c1 : w2.cell? ⟨w.heap.size, 0, none⟩ = some (.slice A a.length ca) := x1.cell 0
  have c2 : w2.cell? ⟨w.heap.size + 1, 0, none⟩ = some (.slice B b.length cb) := x2.cell 0
  go_wp2_with fail
  refine (lay_c A B a b ca cb w2 ((hA.below hb0).more hb0.size) ((hB.below hb0).more hb0.size) ha1 hb1 hab HRA.out HRB.out hca hcm).mono ?_
  rintro e w3 ⟨v3, n3, rfl, hown3, hO3⟩
  have hz : Below w2.heap.size w2 w3 := hO3.belowBase (Nat.le_refl _) (fun g hg => nomatch hg)
  replace x3 := x3.below hz x3.lt
  replace hb0 := hb0.trans (hz.mono hb0.size)
  obtain rfl := (own_cases hown3).1
  obtain ⟨A3, c3, rfl, _⟩ := own_form hown3
  have hT3 := Tab.of_own hown3
  clear hz c1 c2 hO3 hown3 x1 x2
  go_wp2_with fail
  refine (make_new A3 (layF a b) c3 w3 (by have := layF_len a b hab ha1; omega) hT3 HRL.out hj4).mono ?_
  rintro e w4 ⟨A4, c4, rfl, hT4, hz, hfr, hcap4⟩
  have hw3 : w.heap.size + 1 + 1 < w3.heap.size := x3.lt
  replace x3 := x3.below hz x3.lt
  replace hb0 := hb0.trans (hz.mono hb0.size)
  clear hz hT3
  have hc := x3.cell 0
  have hf := x3.free 0
  have hl4 := x3.lt
  have hz2 := (hb0.setCell (p := ⟨w.heap.size + 1 + 1, 0, none⟩) (by simp only []; omega) (.slice A4 (joinF (layF a b)).length c4)).alloc (by have := hb0.size; simpa [World.setCell] using this) (.cells #[.slice A4 (joinF (layF a b)).length c4] 27)
  have hTf : Tab ((w4.setCell ⟨w.heap.size + 1 + 1, 0, none⟩ (.slice A4 (joinF (layF a b)).length c4)).alloc (.cells #[.slice A4 (joinF (layF a b)).length c4] 27)) ((w4.setCell ⟨w.heap.size + 1 + 1, 0, none⟩ (.slice A4 (joinF (layF a b)).length c4)).alloc (.cells #[.slice A4 (joinF (layF a b)).length c4] 27)).heap.size A4 (joinF (layF a b)) := by
    refine ((hT4.setCell (p := ⟨w.heap.size + 1 + 1, 0, none⟩) _ (fun b' o' e => ?_)).more (B' := (w4.setCell ⟨w.heap.size + 1 + 1, 0, none⟩ (.slice A4 (joinF (layF a b)).length c4)).heap.size) (by simp [World.setCell])).below ((Below.refl _ _).alloc (Nat.le_refl _) _) |>.more (by simp)
    have := hfr b' o' e
    simp only []
    omega
  have hq : ((w4.setCell ⟨w.heap.size + 1 + 1, 0, none⟩ (.slice A4 (joinF (layF a b)).length c4)).alloc (.cells #[.slice A4 (joinF (layF a b)).length c4] 27)).cell? ⟨w.heap.size + 1 + 1, 0, none⟩ = some (.slice A4 (joinF (layF a b)).length c4) := ((x3.set_ 0 (.slice A4 (joinF (layF a b)).length c4)).alloc (.cells #[.slice A4 (joinF (layF a b)).length c4] 27)).cell 0
  clear hT4 hfr
  go_wp2
  exact bodyPost_ret (v := .agg #[.slice A4 (joinF (layF a b)).length c4]) (by simp [results, Try.results18, go_sem, hq]) rfl ⟨A4, c4, rfl, hTf, hz2, hcap4⟩
end Go.Proofs.Ytgmcpmhpafcihaa
