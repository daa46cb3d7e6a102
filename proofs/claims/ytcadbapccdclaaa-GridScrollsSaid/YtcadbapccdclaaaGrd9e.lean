/- Package grid, walked: up and down. -/
import Derived.Test.YtcadbapccdclaaaGrd9d
import Derived.Laws.ResultCell
namespace Go.Proofs.Ytcadbapccdclaaa
open Go Go.RowKit
set_option linter.unusedVariables false
set_option linter.unusedSimpArgs false

theorem ret9_g2 {fn : Func} {p u : Tmp} (h : fn.results = #[.cell p 26, .tmp u]) (A : Option Addr) (n c : Nat) (tmps : Array Value) (W : World) (g : Nat) (t : TypeId) (x : Value) (hp : tmps.getD p undef = .pointer (some ⟨g, 0, none⟩)) (hx : tmps.getD u undef = x) (hg : Box W g t #[.slice A n c]) :
    (results fn tmps).run Try.prog W = .ok (.tuple #[.agg #[.slice A n c], x]) W := by
  rw [results_cell_tmp h, hp, hx]
  have := run_loadVar_row (P := Try.prog) W g t 26 #[.slice A n c] (0, 0) _ hg Try.underlying26 rfl (by kernel_rfl)
  simp [asAddr, Result.andThen, this]
/-- A grid, something else, and the answer's place. -/
structure Gd3 (w W : World) (A : Option Addr) (c : Nat) (es : List Rl) (t : TypeId) (cs : Array Value) : Prop where
  b1 : Box W w.heap.size 26 #[.slice A es.length c]
  b2 : Box W (w.heap.size + 1) t cs
  b3 : Box W (w.heap.size + 2) 26 #[.slice none 0 0]
  inr : InG W A c es
  bel : Below w.heap.size w W
theorem Gd3.on {w W V : World} {A : Option Addr} {c : Nat} {es : List Rl} {t : TypeId} {cs : Array Value} (h : Gd3 w W A c es t cs) (hb : Below W.heap.size W V) : Gd3 w V A c es t cs :=
  ⟨h.b1.below hb h.b1.lt, h.b2.below hb h.b2.lt, h.b3.below hb h.b3.lt, h.inr.on hb, h.bel.trans (hb.mono h.bel.size)⟩
theorem Gd3.new {w : World} {A : Option Addr} {c : Nat} {es : List Rl} (t : TypeId) (cs : Array Value) (h : InG w A c es) :
    Gd3 w (((w.alloc (.cells #[.slice A es.length c] 26)).alloc (.cells cs t)).alloc (.cells #[.slice none 0 0] 26)) A c es t cs := by
  have hb : Below w.heap.size w (((w.alloc (.cells #[.slice A es.length c] 26)).alloc (.cells cs t)).alloc (.cells #[.slice none 0 0] 26)) :=
    (((Below.refl _ _).alloc (Nat.le_refl _) _).alloc (by simp) _).alloc (by simp; omega) _
  exact ⟨((Box.new w _ _).alloc _).alloc _, (box8_1 w _ _ _).alloc _, box9_2 w _ _ _ _, h.on hb, hb⟩
/-- The answer is stored. -/
theorem Gd3.fin {w W : World} {A : Option Addr} {c : Nat} {es : List Rl} {t : TypeId} {cs : Array Value} (h : Gd3 w W A c es t cs) (B : Option Addr) (n d : Nat) :
    Box (W.setCell ⟨w.heap.size + 2, 0, none⟩ (.slice B n d)) (w.heap.size + 2) 26 #[.slice B n d] ∧
    Below w.heap.size w (W.setCell ⟨w.heap.size + 2, 0, none⟩ (.slice B n d)) ∧
    (∀ (X : Option Addr) (x : Nat) (l : List Rl), InG W X x l → InG (W.setCell ⟨w.heap.size + 2, 0, none⟩ (.slice B n d)) X x l) :=
  ⟨h.b3.set_ 0 _, h.bel.setCell (p := ⟨w.heap.size + 2, 0, none⟩) (by show w.heap.size ≤ w.heap.size + 2; omega) _, fun X x l hx => hx.far1 h.b3 (by simp) 0 _⟩
set_option maxRecDepth 100000 in
set_option maxHeartbeats 1000000 in
theorem up9_o : Up9O := by
  intro A c es t b n p w hin hok ht hb hn hp
  rw [show pnV p = .agg #[.int .i64 p.fg, .int .i64 p.bg, .int .i64 p.fl] from rfl]
  have hG := Gd3.new 31 #[.int .i64 p.fg, .int .i64 p.bg, .int .i64 p.fl] hin
  have hpt := fun V => part9_c A c es.length t b V
  have hmy := fun V (hV : Below w.heap.size w V) => may9_c A c es p V (hin.on hV) hok hp
  have HNOT : Hid (¬ (PartG es.length t b ∧ SaneN p ∧ SaneG (rws es)) → upG (rws es) t b n p = rws es ∧ goneG (rws es) t b n p = []) := Lib.hid fun h => by
    have h' : ¬ MayG (rws es) t b p := fun q => h ⟨⟨q.2.2.1, q.2.2.2.1, by have := q.2.2.2.2; rw [rws_length] at this; exact this⟩, q.2.1, q.1⟩
    unfold upG goneG
    rw [if_neg h', if_neg h']
    exact ⟨rfl, rfl⟩
  have HYES : Hid (PartG es.length t b → SaneN p → SaneG (rws es) → upG (rws es) t b n p = upL (rws es) t.toNat b.toNat (max 0 (min n (b - t))).toNat (newR (widthG (rws es)) p) ∧ goneG (rws es) t b n p = goneL (rws es) t.toNat (max 0 (min n (b - t))).toNat) := Lib.hid fun h1 h2 h3 => by
    have h' : MayG (rws es) t b p := ⟨h3, h2, h1.1, h1.2.1, by rw [rws_length]; exact h1.2.2⟩
    unfold upG goneG
    rw [if_pos h', if_pos h']
    exact ⟨rfl, rfl⟩
  generalize upG (rws es) t b n p = U at *
  generalize goneG (rws es) t b n p = G at *
  have HG := Lib.hid hG
  have HPT := Lib.hid hpt
  have HMY := Lib.hid hmy
  have HIN := Lib.hid (And.intro hin (And.intro hok hp))
  clear hG hpt hmy hin hok hp
  cases hp1 : decide (PartG es.length t b) with
  | false =>
    have HU := Lib.hid (HNOT.out (fun q => of_decide_eq_false hp1 q.1))
    have HQ : Hid (¬ MayG (rws es) t b p) := Lib.hid fun q => of_decide_eq_false hp1 ⟨q.2.2.1, q.2.2.2.1, by have := q.2.2.2.2; rw [rws_length] at this; exact this⟩
    rw [hp1] at HPT
    clear hp1 HNOT HYES HMY
    go_enter Try.func9, Try.ntmps9
    go_upto_region 1 with fail
    generalize ((w.alloc (.cells #[.slice A es.length c] 26)).alloc (.cells #[.int .i64 p.fg, .int .i64 p.bg, .int .i64 p.fl] 31)).alloc (.cells #[.slice none 0 0] 26) = W at *
    have k0 : W.cell? ⟨w.heap.size, 0, none⟩ = some (.slice A es.length c) := HG.out.b1.cell 0
    go_wp2_with fail
    refine (HPT.out _).mono ?_
    rintro e v1 ⟨rfl, hv1⟩
    have HG1 := Lib.hid (HG.out.on hv1)
    clear hv1 k0 HG
    have k0 : v1.cell? ⟨w.heap.size, 0, none⟩ = some (.slice A es.length c) := HG1.out.b1.cell 0
    have f0 : v1.frozen? ⟨w.heap.size + 2, 0, none⟩ = false := HG1.out.b3.free 0
    have j0 : v1.cell? ⟨w.heap.size + 2, 0, none⟩ = some (.slice none 0 0) := HG1.out.b3.cell 0
    go_wp2_with fail
    have hf := HG1.out.fin A es.length c
    refine bodyPost_ret (ret9_g2 rfl A es.length c _ _ (w.heap.size + 2) 26 (.slice none 0 0) rfl rfl hf.1) rfl ⟨A, c, es, none, 0, [], rfl, ⟨hf.2.2 _ _ _ HG1.out.inr, HU.out.1.symm, InG.nil (Nat.zero_le _), HU.out.2.symm, hf.2.1⟩, fun q => absurd q HQ.out⟩
  | true =>
    have HP1 := Lib.hid (of_decide_eq_true hp1)
    rw [hp1] at HPT
    clear hp1
    cases hs1 : decide (SaneN p ∧ SaneG (rws es)) with
    | false =>
      have HU := Lib.hid (HNOT.out (fun q => of_decide_eq_false hs1 q.2))
      have HQ : Hid (¬ MayG (rws es) t b p) := Lib.hid fun q => of_decide_eq_false hs1 ⟨q.2.1, q.1⟩
      rw [hs1] at HMY
      clear hs1 HNOT HYES
      go_enter Try.func9, Try.ntmps9
      go_upto_region 1 with fail
      generalize ((w.alloc (.cells #[.slice A es.length c] 26)).alloc (.cells #[.int .i64 p.fg, .int .i64 p.bg, .int .i64 p.fl] 31)).alloc (.cells #[.slice none 0 0] 26) = W at *
      have k0 : W.cell? ⟨w.heap.size, 0, none⟩ = some (.slice A es.length c) := HG.out.b1.cell 0
      go_wp2_with fail
      refine (HPT.out _).mono ?_
      rintro e v1 ⟨rfl, hv1⟩
      have HG1 := Lib.hid (HG.out.on hv1)
      clear hv1 k0 HG
      have k0 : v1.cell? ⟨w.heap.size, 0, none⟩ = some (.slice A es.length c) := HG1.out.b1.cell 0
      obtain ⟨p0, p1, p2⟩ : v1.cell? ⟨w.heap.size + 1, 0, none⟩ = some (.int .i64 p.fg) ∧ v1.cell? ⟨w.heap.size + 1, 1, none⟩ = some (.int .i64 p.bg) ∧ v1.cell? ⟨w.heap.size + 1, 2, none⟩ = some (.int .i64 p.fl) := ⟨HG1.out.b2.cell 0, HG1.out.b2.cell 1, HG1.out.b2.cell 2⟩
      go_wp2_with fail
      refine (HMY.out _ HG1.out.bel).mono ?_
      rintro e v2 ⟨rfl, hv2⟩
      have HG2 := Lib.hid (HG1.out.on hv2)
      clear hv2 k0 p0 p1 p2 HG1
      have k0 : v2.cell? ⟨w.heap.size, 0, none⟩ = some (.slice A es.length c) := HG2.out.b1.cell 0
      have f0 : v2.frozen? ⟨w.heap.size + 2, 0, none⟩ = false := HG2.out.b3.free 0
      have j0 : v2.cell? ⟨w.heap.size + 2, 0, none⟩ = some (.slice none 0 0) := HG2.out.b3.cell 0
      go_wp2_with fail
      have hf := HG2.out.fin A es.length c
      refine bodyPost_ret (ret9_g2 rfl A es.length c _ _ (w.heap.size + 2) 26 (.slice none 0 0) rfl rfl hf.1) rfl ⟨A, c, es, none, 0, [], rfl, ⟨hf.2.2 _ _ _ HG2.out.inr, HU.out.1.symm, InG.nil (Nat.zero_le _), HU.out.2.symm, hf.2.1⟩, fun q => absurd q HQ.out⟩
    | true =>
      have HS1 := Lib.hid (of_decide_eq_true hs1)
      rw [hs1] at HMY
      have hyes := HYES.out HP1.out HS1.out.1 HS1.out.2
      clear hs1 HNOT HYES
      obtain ⟨t0, t1, t2⟩ := HP1.out
      obtain ⟨T, rfl⟩ : ∃ T : Nat, t = T := ⟨t.toNat, by omega⟩
      obtain ⟨E, rfl⟩ : ∃ E : Nat, b = E := ⟨b.toNat, by omega⟩
      obtain ⟨K, hK⟩ : ∃ K : Nat, max 0 (min n ((E : Int) - T)) = (K : Int) := ⟨(max 0 (min n ((E : Int) - T))).toNat, by omega⟩
      have hle : 1 ≤ es.length ∧ es.length ≤ 1000 := by have := HS1.out.2.1; rw [rws_length] at this; exact this
      have hwi := fun V => within9_c n ((E : Int) - T) V hn (by unfold I64; omega)
      rw [hK] at hwi
      rw [hK] at hyes
      simp only [Int.toNat_natCast] at hyes
      have hKE : T + K ≤ E := by omega
      obtain ⟨PB, pd, hcut, hpart, hpl⟩ := HIN.out.1.cut (a := T) (b := T + K) (by omega) (by omega)
      rw [show T + K - T = K from by omega] at hcut hpl
      simp only [Int.natCast_add] at hcut
      have hU : ∀ l, (∀ i, l[i]? = movAt (rws es) T E K (newR (widthG (rws es)) p) i) → l = U := fun l hl => by rw [hyes.1]; exact upL_mov hKE (by rw [rws_length]; omega) hl
      have hGo : rws ((es.take (T + K)).drop T) = G := by rw [hyes.2, rws_drop, rws_take]; rfl
      have hmv := fun V (hV : Below w.heap.size w V) => moved9_c A c es T E (E - T) (K : Int) p V (HIN.out.1.on hV) HS1.out.2 (by omega) (by omega) (by omega) (by omega) HIN.out.2.2
      have hsub : ∀ q ∈ (es.take (T + K)).drop T, q ∈ es := fun q hq => List.mem_of_mem_take (List.mem_of_mem_drop hq)
      generalize (es.take (T + K)).drop T = part at *
      have hcl := fun V (hV : Below w.heap.size w V) => clone9_c PB pd part K hpl.symm (by omega) V (hpart.on hV).rows
      have HFIN := Lib.hid (And.intro hU (And.intro hGo (And.intro hpart (And.intro hpl hsub))))
      have HWI := Lib.hid hwi
      have HMV := Lib.hid hmv
      have HCL := Lib.hid hcl
      have hE1 : E ≤ 1000 := by omega
      have hT1 : T ≤ 1000 := by omega
      have hK1 : K ≤ 1000 := by omega
      clear hyes hU hGo hmv hcl hwi hpart hpl hsub hK ht hb hle t0 HP1
      go_enter Try.func9, Try.ntmps9
      go_upto_region 1 with fail
      generalize ((w.alloc (.cells #[.slice A es.length c] 26)).alloc (.cells #[.int .i64 p.fg, .int .i64 p.bg, .int .i64 p.fl] 31)).alloc (.cells #[.slice none 0 0] 26) = W at *
      have k0 : W.cell? ⟨w.heap.size, 0, none⟩ = some (.slice A es.length c) := HG.out.b1.cell 0
      go_wp2_with fail
      refine (HPT.out _).mono ?_
      rintro e v1 ⟨rfl, hv1⟩
      have HG1 := Lib.hid (HG.out.on hv1)
      clear hv1 k0 HG
      have k0 : v1.cell? ⟨w.heap.size, 0, none⟩ = some (.slice A es.length c) := HG1.out.b1.cell 0
      obtain ⟨p0, p1, p2⟩ : v1.cell? ⟨w.heap.size + 1, 0, none⟩ = some (.int .i64 p.fg) ∧ v1.cell? ⟨w.heap.size + 1, 1, none⟩ = some (.int .i64 p.bg) ∧ v1.cell? ⟨w.heap.size + 1, 2, none⟩ = some (.int .i64 p.fl) := ⟨HG1.out.b2.cell 0, HG1.out.b2.cell 1, HG1.out.b2.cell 2⟩
      go_wp2_with fail
      refine (HMY.out _ HG1.out.bel).mono ?_
      rintro e v2 ⟨rfl, hv2⟩
      have HG2 := Lib.hid (HG1.out.on hv2)
      clear hv2 k0 p0 p1 p2 HG1
      go_wp2_with fail
      refine (HWI.out _).mono ?_
      rintro e v3 ⟨rfl, rfl⟩
      go_upto_region 4 with fail
      have hsz : w.heap.size + 2 < v2.heap.size := HG2.out.b3.lt
      have m0 := Ext.cell (w := v2) (B := w.heap.size + 2) (p := ⟨w.heap.size, 0, none⟩) (by simp) (HG2.out.b1.cell 0)
      have n0 := Ext.cell (w := v2) (B := w.heap.size + 2) (p := ⟨w.heap.size + 1, 0, none⟩) (by simp) (HG2.out.b2.cell 0)
      have n1 := Ext.cell (w := v2) (B := w.heap.size + 2) (p := ⟨w.heap.size + 1, 1, none⟩) (by simp) (HG2.out.b2.cell 1)
      have n2 := Ext.cell (w := v2) (B := w.heap.size + 2) (p := ⟨w.heap.size + 1, 2, none⟩) (by simp) (HG2.out.b2.cell 2)
      refine region_plan [([0, 1, 2, 3, 4, 6, 7, 8, 9, 10, 11, 12], [5, 13, 14]), ([15], [])] (fun w' => ∃ u : Ext v2 (w.heap.size + 2), w' = u.val) (by kernel_rfl) (by kernel_rfl) (fun _ _ _ _ _ h => h) ⟨⟨_, (Below.refl _ _).drew⟩, rfl⟩ ?_
      simp only [wpPlan, sel, List.take_succ_cons, List.take_zero, List.drop_succ_cons, List.drop_zero, List.cons_append, List.nil_append]
      repeat (go_big_quiet_step (fail))
      refine wpQuiet_nil ?_
      unfold wpChain
      go_wp2_with fail
      refine (HMV.out _ (HG2.out.bel.drew)).mono ?_
      rintro e v3 ⟨A1, c1, e1, rfl, hI1, hr1, hv3, ho1, hn1⟩
      have hv4 : Below v2.heap.size v2 v3 := (Below.refl v2.heap.size v2).drew.trans hv3
      have HG3 := Lib.hid (HG2.out.on hv4)
      have HV3 := Lib.hid (hv4.mono (Nat.le_of_lt hsz))
      have HV23 : Hid (v2.heap.size ≤ v3.heap.size) := Lib.hid hv4.size
      have HI1 := Lib.hid (And.intro hI1 hr1)
      have HO1 : Hid (OwnG v3 v2.heap.size A1 c1 e1 ∧ ∀ q ∈ e1, q ∈ es ∨ Fresh v2.heap.size q) := Lib.hid ⟨ho1, hn1⟩
      have HSZ : Hid (w.heap.size + 2 < v2.heap.size) := Lib.hid hsz
      clear hv3 hv4 hI1 hr1 ho1 hn1 HG2 hsz
      go_wp2_with fail
      refine ⟨⟨⟨_, HV3.out⟩, rfl⟩, ?_⟩
      unfold wpChain
      go_wp2_with fail
      refine (HCL.out _ HG3.out.bel).mono ?_
      rintro e v4 ⟨A2, c2, rfl, hO, hv4⟩
      have HG4 := Lib.hid (HG3.out.on hv4)
      have HV4 := Lib.hid (HV3.out.trans (hv4.mono (Nat.le_of_lt HG3.out.b3.lt)))
      have HI4 : Hid (InG v4 A1 c1 e1 ∧ rws e1 = U) := Lib.hid ⟨HI1.out.1.on hv4, HFIN.out.1 _ HI1.out.2⟩
      have HO4 : Hid (OwnG v4 v2.heap.size A1 c1 e1) := Lib.hid (HO1.out.1.on hv4)
      have HO5 : Hid (OwnG v4 v3.heap.size A2 c2 part ∧ v2.heap.size ≤ v3.heap.size) := Lib.hid ⟨hO, HV23.out⟩
      have HI5 : Hid (InG v4 A2 c2 part) := Lib.hid ⟨hO.in_, fun x hx => ((HFIN.out.2.2.1.on HG3.out.bel).on hv4).els x hx⟩
      clear hv4 hO HG3 HV3 HI1
      go_wp2_with fail
      refine ⟨⟨⟨_, HV4.out⟩, rfl⟩, ?_⟩
      unfold wpChain
      clear m0 n0 n1 n2 hcut
      have f0 : v4.frozen? ⟨w.heap.size + 2, 0, none⟩ = false := HG4.out.b3.free 0
      have j0 : v4.cell? ⟨w.heap.size + 2, 0, none⟩ = some (.slice none 0 0) := HG4.out.b3.cell 0
      go_wp2_with fail
      refine ⟨⟨⟨_, HV4.out.setCell (p := ⟨w.heap.size + 2, 0, none⟩) (Nat.le_refl _) _⟩, rfl⟩, ?_⟩
      unfold wpChain
      repeat (go_big_quiet_step (fail))
      refine wpQuiet_nil ?_
      unfold wpChain
      go_wp2_with fail
      have hf := HG4.out.fin A1 e1.length c1
      have hpl := HFIN.out.2.2.2.1
      have hz4 := HSZ.out
      have hz5 := HO5.out.2
      have ho4 : OwnG (v4.setCell ⟨w.heap.size + 2, 0, none⟩ (.slice A1 e1.length c1)) w.heap.size A1 c1 e1 := by
        have h5 := HO4.out.le (show w.heap.size ≤ v2.heap.size by omega)
        have h6 := HO4.out
        unfold OwnG at h5 h6 ⊢
        exact own_far h5 (p := ⟨w.heap.size + 2, 0, none⟩) (fun k => by have := (own_block h6 k).1; have h7 : (⟨w.heap.size + 2, 0, none⟩ : Addr).block = w.heap.size + 2 := rfl; omega) _
      have ho5 : OwnG (v4.setCell ⟨w.heap.size + 2, 0, none⟩ (.slice A1 e1.length c1)) w.heap.size A2 c2 part := by
        have h5 := HO5.out.1.le (show w.heap.size ≤ v3.heap.size by omega)
        have h6 := HO5.out.1
        unfold OwnG at h5 h6 ⊢
        exact own_far h5 (p := ⟨w.heap.size + 2, 0, none⟩) (fun k => by have := (own_block h6 k).1; have h7 : (⟨w.heap.size + 2, 0, none⟩ : Addr).block = w.heap.size + 2 := rfl; omega) _
      refine bodyPost_ret (ret9_g2 rfl A1 e1.length c1 _ _ (w.heap.size + 2) 26 (.slice A2 part.length c2) rfl rfl hf.1) rfl ⟨A1, c1, e1, A2, c2, part, rfl, ⟨hf.2.2 _ _ _ HI4.out.1, HI4.out.2, hf.2.2 _ _ _ HI5.out, HFIN.out.2.1, hf.2.1⟩, fun _ => ⟨ho4, fun q hq => (HO1.out.2 q hq).imp id (fun k hc b' o' he' => by have := k hc b' o' he'; omega), ho5, HFIN.out.2.2.2.2⟩⟩
theorem up9_c : Up9C := up9_o.c
set_option maxRecDepth 100000 in
set_option maxHeartbeats 1000000 in
theorem down9_c : Down9C := by
  intro A c es t b n p w hin hok ht hb hn hp
  rw [show pnV p = .agg #[.int .i64 p.fg, .int .i64 p.bg, .int .i64 p.fl] from rfl]
  have hG := Gd3.new 31 #[.int .i64 p.fg, .int .i64 p.bg, .int .i64 p.fl] hin
  have hpt := fun V => part9_c A c es.length t b V
  have hmy := fun V (hV : Below w.heap.size w V) => may9_c A c es p V (hin.on hV) hok hp
  have HNOT : Hid (¬ (PartG es.length t b ∧ SaneN p ∧ SaneG (rws es)) → downG (rws es) t b n p = rws es) := Lib.hid fun h => by
    have h' : ¬ MayG (rws es) t b p := fun q => h ⟨⟨q.2.2.1, q.2.2.2.1, by have := q.2.2.2.2; rw [rws_length] at this; exact this⟩, q.2.1, q.1⟩
    unfold downG
    rw [if_neg h']
  have HYES : Hid (PartG es.length t b → SaneN p → SaneG (rws es) → downG (rws es) t b n p = downL (rws es) t.toNat b.toNat (max 0 (min n (b - t))).toNat (newR (widthG (rws es)) p)) := Lib.hid fun h1 h2 h3 => by
    have h' : MayG (rws es) t b p := ⟨h3, h2, h1.1, h1.2.1, by rw [rws_length]; exact h1.2.2⟩
    unfold downG
    rw [if_pos h']
  generalize downG (rws es) t b n p = U at *
  have HG := Lib.hid hG
  have HPT := Lib.hid hpt
  have HMY := Lib.hid hmy
  have HIN := Lib.hid (And.intro hin (And.intro hok hp))
  clear hG hpt hmy hin hok hp
  cases hp1 : decide (PartG es.length t b) with
  | false =>
    have HU := Lib.hid (HNOT.out (fun q => of_decide_eq_false hp1 q.1))
    rw [hp1] at HPT
    clear hp1 HNOT HYES HMY
    go_enter Try.func10, Try.ntmps10
    go_upto_region 1 with fail
    generalize ((w.alloc (.cells #[.slice A es.length c] 26)).alloc (.cells #[.int .i64 p.fg, .int .i64 p.bg, .int .i64 p.fl] 31)).alloc (.cells #[.slice none 0 0] 26) = W at *
    have k0 : W.cell? ⟨w.heap.size, 0, none⟩ = some (.slice A es.length c) := HG.out.b1.cell 0
    go_wp2_with fail
    refine (HPT.out _).mono ?_
    rintro e v1 ⟨rfl, hv1⟩
    have HG1 := Lib.hid (HG.out.on hv1)
    clear hv1 k0 HG
    have k0 : v1.cell? ⟨w.heap.size, 0, none⟩ = some (.slice A es.length c) := HG1.out.b1.cell 0
    have f0 : v1.frozen? ⟨w.heap.size + 2, 0, none⟩ = false := HG1.out.b3.free 0
    have j0 : v1.cell? ⟨w.heap.size + 2, 0, none⟩ = some (.slice none 0 0) := HG1.out.b3.cell 0
    go_wp2_with fail
    have hf := HG1.out.fin A es.length c
    refine bodyPost_ret (ret9_g rfl A es.length c _ _ (w.heap.size + 2) 26 rfl hf.1) rfl ⟨A, c, es, rfl, hf.2.2 _ _ _ HG1.out.inr, HU.out.symm, hf.2.1⟩
  | true =>
    have HP1 := Lib.hid (of_decide_eq_true hp1)
    rw [hp1] at HPT
    clear hp1
    cases hs1 : decide (SaneN p ∧ SaneG (rws es)) with
    | false =>
      have HU := Lib.hid (HNOT.out (fun q => of_decide_eq_false hs1 q.2))
      rw [hs1] at HMY
      clear hs1 HNOT HYES
      go_enter Try.func10, Try.ntmps10
      go_upto_region 1 with fail
      generalize ((w.alloc (.cells #[.slice A es.length c] 26)).alloc (.cells #[.int .i64 p.fg, .int .i64 p.bg, .int .i64 p.fl] 31)).alloc (.cells #[.slice none 0 0] 26) = W at *
      have k0 : W.cell? ⟨w.heap.size, 0, none⟩ = some (.slice A es.length c) := HG.out.b1.cell 0
      go_wp2_with fail
      refine (HPT.out _).mono ?_
      rintro e v1 ⟨rfl, hv1⟩
      have HG1 := Lib.hid (HG.out.on hv1)
      clear hv1 k0 HG
      have k0 : v1.cell? ⟨w.heap.size, 0, none⟩ = some (.slice A es.length c) := HG1.out.b1.cell 0
      obtain ⟨p0, p1, p2⟩ : v1.cell? ⟨w.heap.size + 1, 0, none⟩ = some (.int .i64 p.fg) ∧ v1.cell? ⟨w.heap.size + 1, 1, none⟩ = some (.int .i64 p.bg) ∧ v1.cell? ⟨w.heap.size + 1, 2, none⟩ = some (.int .i64 p.fl) := ⟨HG1.out.b2.cell 0, HG1.out.b2.cell 1, HG1.out.b2.cell 2⟩
      go_wp2_with fail
      refine (HMY.out _ HG1.out.bel).mono ?_
      rintro e v2 ⟨rfl, hv2⟩
      have HG2 := Lib.hid (HG1.out.on hv2)
      clear hv2 k0 p0 p1 p2 HG1
      have k0 : v2.cell? ⟨w.heap.size, 0, none⟩ = some (.slice A es.length c) := HG2.out.b1.cell 0
      have f0 : v2.frozen? ⟨w.heap.size + 2, 0, none⟩ = false := HG2.out.b3.free 0
      have j0 : v2.cell? ⟨w.heap.size + 2, 0, none⟩ = some (.slice none 0 0) := HG2.out.b3.cell 0
      go_wp2_with fail
      have hf := HG2.out.fin A es.length c
      refine bodyPost_ret (ret9_g rfl A es.length c _ _ (w.heap.size + 2) 26 rfl hf.1) rfl ⟨A, c, es, rfl, hf.2.2 _ _ _ HG2.out.inr, HU.out.symm, hf.2.1⟩
    | true =>
      have HS1 := Lib.hid (of_decide_eq_true hs1)
      rw [hs1] at HMY
      have hyes := HYES.out HP1.out HS1.out.1 HS1.out.2
      clear hs1 HNOT HYES
      obtain ⟨t0, t1, t2⟩ := HP1.out
      obtain ⟨T, rfl⟩ : ∃ T : Nat, t = T := ⟨t.toNat, by omega⟩
      obtain ⟨E, rfl⟩ : ∃ E : Nat, b = E := ⟨b.toNat, by omega⟩
      obtain ⟨K, hK⟩ : ∃ K : Nat, max 0 (min n ((E : Int) - T)) = (K : Int) := ⟨(max 0 (min n ((E : Int) - T))).toNat, by omega⟩
      have hle : 1 ≤ es.length ∧ es.length ≤ 1000 := by have := HS1.out.2.1; rw [rws_length] at this; exact this
      have hwi := fun V => within9_c n ((E : Int) - T) V hn (by unfold I64; omega)
      rw [hK] at hwi
      rw [hK] at hyes
      simp only [Int.toNat_natCast] at hyes
      have hKE : T + K ≤ E := by omega
      have hU : ∀ l, (∀ i, l[i]? = movAt (rws es) T E (-(K : Int)) (newR (widthG (rws es)) p) i) → l = U := fun l hl => by rw [hyes]; exact downL_mov hKE (by rw [rws_length]; omega) hl
      have hmv := fun V (hV : Below w.heap.size w V) => moved9_c A c es T E (E - T) (-(K : Int)) p V (HIN.out.1.on hV) HS1.out.2 (by omega) (by omega) (by omega) (by omega) HIN.out.2.2
      have HFIN := Lib.hid hU
      have HWI := Lib.hid hwi
      have HMV := Lib.hid hmv
      have hE1 : E ≤ 1000 := by omega
      have hT1 : T ≤ 1000 := by omega
      have hK1 : K ≤ 1000 := by omega
      clear hyes hU hmv hwi hK ht hb hle t0 HP1
      go_enter Try.func10, Try.ntmps10
      go_upto_region 1 with fail
      generalize ((w.alloc (.cells #[.slice A es.length c] 26)).alloc (.cells #[.int .i64 p.fg, .int .i64 p.bg, .int .i64 p.fl] 31)).alloc (.cells #[.slice none 0 0] 26) = W at *
      have k0 : W.cell? ⟨w.heap.size, 0, none⟩ = some (.slice A es.length c) := HG.out.b1.cell 0
      go_wp2_with fail
      refine (HPT.out _).mono ?_
      rintro e v1 ⟨rfl, hv1⟩
      have HG1 := Lib.hid (HG.out.on hv1)
      clear hv1 k0 HG
      have k0 : v1.cell? ⟨w.heap.size, 0, none⟩ = some (.slice A es.length c) := HG1.out.b1.cell 0
      obtain ⟨p0, p1, p2⟩ : v1.cell? ⟨w.heap.size + 1, 0, none⟩ = some (.int .i64 p.fg) ∧ v1.cell? ⟨w.heap.size + 1, 1, none⟩ = some (.int .i64 p.bg) ∧ v1.cell? ⟨w.heap.size + 1, 2, none⟩ = some (.int .i64 p.fl) := ⟨HG1.out.b2.cell 0, HG1.out.b2.cell 1, HG1.out.b2.cell 2⟩
      go_wp2_with fail
      refine (HMY.out _ HG1.out.bel).mono ?_
      rintro e v2 ⟨rfl, hv2⟩
      have HG2 := Lib.hid (HG1.out.on hv2)
      clear hv2 k0 p0 p1 p2 HG1
      go_upto_region 3 with fail
      have hsz : w.heap.size + 2 < v2.heap.size := HG2.out.b3.lt
      have m0 := Ext.cell (w := v2) (B := w.heap.size + 2) (p := ⟨w.heap.size, 0, none⟩) (by simp) (HG2.out.b1.cell 0)
      have n0 := Ext.cell (w := v2) (B := w.heap.size + 2) (p := ⟨w.heap.size + 1, 0, none⟩) (by simp) (HG2.out.b2.cell 0)
      have n1 := Ext.cell (w := v2) (B := w.heap.size + 2) (p := ⟨w.heap.size + 1, 1, none⟩) (by simp) (HG2.out.b2.cell 1)
      have n2 := Ext.cell (w := v2) (B := w.heap.size + 2) (p := ⟨w.heap.size + 1, 2, none⟩) (by simp) (HG2.out.b2.cell 2)
      refine region_plan [([0, 1, 2, 3, 4, 5, 6, 9], [7]), ([8], [10, 11])] (fun w' => ∃ u : Ext v2 (w.heap.size + 2), w' = u.val) (by kernel_rfl) (by kernel_rfl) (fun _ _ _ _ _ h => h) ⟨⟨_, (Below.refl _ _).drew⟩, rfl⟩ ?_
      simp only [wpPlan, sel, List.take_succ_cons, List.take_zero, List.drop_succ_cons, List.drop_zero, List.cons_append, List.nil_append]
      repeat (go_big_quiet_step (fail))
      refine wpQuiet_nil ?_
      unfold wpChain
      go_wp2_with fail
      refine (HWI.out _).mono ?_
      rintro e v3 ⟨rfl, rfl⟩
      go_wp2_with fail
      refine ⟨⟨⟨_, (Below.refl _ _).drew⟩, rfl⟩, ?_⟩
      unfold wpChain
      repeat (go_big_quiet_step (fail))
      refine wpQuiet_nil ?_
      unfold wpChain
      go_wp2_with fail
      refine (HMV.out _ (HG2.out.bel.drew)).mono ?_
      rintro e v3 ⟨A1, c1, e1, rfl, hI1, hr1, hv3, -, -⟩
      have hv4 : Below v2.heap.size v2 v3 := (Below.refl v2.heap.size v2).drew.trans hv3
      have HG3 := Lib.hid (HG2.out.on hv4)
      have HV3 := Lib.hid (hv4.mono (Nat.le_of_lt hsz))
      have HI1 := Lib.hid (And.intro hI1 hr1)
      clear hv3 hv4 hI1 hr1 HG2 hsz
      go_wp2_with fail
      refine ⟨⟨⟨_, HV3.out⟩, rfl⟩, ?_⟩
      unfold wpChain
      clear m0 n0 n1 n2
      have f0 : v3.frozen? ⟨w.heap.size + 2, 0, none⟩ = false := HG3.out.b3.free 0
      have j0 : v3.cell? ⟨w.heap.size + 2, 0, none⟩ = some (.slice none 0 0) := HG3.out.b3.cell 0
      go_wp2_with fail
      refine ⟨⟨⟨_, HV3.out.setCell (p := ⟨w.heap.size + 2, 0, none⟩) (Nat.le_refl _) _⟩, rfl⟩, ?_⟩
      unfold wpChain
      go_wp2_with fail
      have hf := HG3.out.fin A1 e1.length c1
      refine bodyPost_ret (ret9_g rfl A1 e1.length c1 _ _ (w.heap.size + 2) 26 rfl hf.1) rfl ⟨A1, c1, e1, rfl, hf.2.2 _ _ _ HI1.out.1, HFIN.out _ HI1.out.2, hf.2.1⟩
end Go.Proofs.Ytcadbapccdclaaa
