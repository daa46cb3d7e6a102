/- Package grid, walked: a part of a grid, whether a grid and a pen may be, a new grid. -/
import Derived.Test.YtcadbapccdclaaaGrd9b
import Derived.Test.YtcadbapccdclaaaRowN
import Derived.Test.YtcadbapccdclaaaMath09b
namespace Go.Proofs.Ytcadbapccdclaaa
open Go Go.RowKit
set_option linter.unusedVariables false
set_option linter.unusedSimpArgs false

theorem ret9_g {fn : Func} {p : Tmp} (h : fn.results = #[.cell p 26]) (A : Option Addr) (n c : Nat) (tmps : Array Value) (W : World) (g : Nat) (t : TypeId) (hp : tmps.getD p undef = .pointer (some ⟨g, 0, none⟩)) (hg : Box W g t #[.slice A n c]) :
    (results fn tmps).run Try.prog W = .ok (.agg #[.slice A n c]) W :=
  results_cell_row h tmps W g t #[.slice A n c] (0, 0) _ hp hg Try.underlying26 rfl (by kernel_rfl)
def PartG (n : Nat) (a b : Int) : Prop := 0 ≤ a ∧ a < b ∧ b ≤ n
instance (n : Nat) (a b : Int) : Decidable (PartG n a b) := inferInstanceAs (Decidable (_ ∧ _ ∧ _))
theorem part9_c (A : Option Addr) (c n : Nat) (a b : Int) (w : World) : Calls Try.prog 22 #[.agg #[.slice A n c], .int .i64 a, .int .i64 b] w fun e w' => e = .returned (.bool (decide (PartG n a b))) ∧ Below w.heap.size w w' := by
  have hb : Below w.heap.size w (w.alloc (.cells #[.slice A n c] 26)) := (Below.refl _ _).alloc (Nat.le_refl _) _
  have HB := Lib.hid hb
  clear hb
  rcases (show a < 0 ∨ (0 ≤ a ∧ b ≤ a) ∨ (0 ≤ a ∧ a < b ∧ (n : Int) < b) ∨ (0 ≤ a ∧ a < b ∧ b ≤ n) by omega) with k | ⟨k, k'⟩ | ⟨k, k', k2⟩ | ⟨k, k', k2⟩
  · rw [show decide (PartG n a b) = false from decide_eq_false (by unfold PartG; omega)]
    have z : ¬ 0 ≤ a := by omega
    go_enter Try.func22, Try.ntmps22
    go_wp2
    go_ret
    exact ⟨rfl, HB.out⟩
  · rw [show decide (PartG n a b) = false from decide_eq_false (by unfold PartG; omega)]
    have z : ¬ a < b := by omega
    go_enter Try.func22, Try.ntmps22
    go_wp2
    go_ret
    exact ⟨rfl, HB.out⟩
  · rw [show decide (PartG n a b) = false from decide_eq_false (by unfold PartG; omega)]
    have z : ¬ b ≤ (n : Int) := by omega
    go_enter Try.func22, Try.ntmps22
    go_wp2
    go_ret
    exact ⟨rfl, HB.out⟩
  · rw [show decide (PartG n a b) = true from decide_eq_true (by unfold PartG; omega)]
    go_enter Try.func22, Try.ntmps22
    go_wp2
    go_ret
    exact ⟨rfl, HB.out⟩
set_option maxRecDepth 100000 in
set_option maxHeartbeats 1000000 in
theorem may9_c (A : Option Addr) (c : Nat) (es : List Rl) (p : Pn) (w : World) (hin : InG w A c es) (hok : RsOk (rws es)) (hp : PnOk p) :
    Calls Try.prog 23 #[.agg #[.slice A es.length c], .agg #[.int .i64 p.fg, .int .i64 p.bg, .int .i64 p.fl]] w fun e w' => e = .returned (.bool (decide (SaneN p ∧ SaneG (rws es)))) ∧ Below w.heap.size w w' := by
  have hs := fun V (hV : Below w.heap.size w V) => sane9_c A c es V (hin.on hV) hok
  have hrn := fun V => new8_c 1 p V (by unfold I64; decide) hp
  have hrs := fun V B d (hB : InC V B d (newR 1 p).cs) => sane8_c (newR 1 p) B d V hB ⟨by show I64 0; unfold I64; decide, fun x hx => by rw [(List.mem_replicate.1 hx).2]; exact blank_ok hp⟩
  rw [show decide (SaneR (newR 1 p)) = decide (SaneN p) from decide_eq_decide.2 (new1_sane p)] at hrs
  have hbl : Below w.heap.size w ((w.alloc (.cells #[.slice A es.length c] 26)).alloc (.cells #[.int .i64 p.fg, .int .i64 p.bg, .int .i64 p.fl] 31)) := ((Below.refl _ _).alloc (Nat.le_refl _) _).alloc (by simp) _
  have hX : Box ((w.alloc (.cells #[.slice A es.length c] 26)).alloc (.cells #[.int .i64 p.fg, .int .i64 p.bg, .int .i64 p.fl] 31)) w.heap.size 26 #[.slice A es.length c] := (Box.new w _ _).alloc _
  have hY : Box ((w.alloc (.cells #[.slice A es.length c] 26)).alloc (.cells #[.int .i64 p.fg, .int .i64 p.bg, .int .i64 p.fl] 31)) (w.heap.size + 1) 31 #[.int .i64 p.fg, .int .i64 p.bg, .int .i64 p.fl] := box8_1 w _ _ _
  have HH := Lib.hid (And.intro hbl (And.intro hX hY))
  rw [show pnV p = .agg #[.int .i64 p.fg, .int .i64 p.bg, .int .i64 p.fl] from rfl] at hrn
  have HRN := Lib.hid hrn
  have HRS := Lib.hid hrs
  have HS := Lib.hid hs
  clear hbl hX hY hrn hrs hs hin hok hp
  cases hp : decide (SaneN p) with
  | false =>
    have HF : Hid (decide (SaneN p ∧ SaneG (rws es)) = false) := Lib.hid (decide_eq_false fun h => of_decide_eq_false hp h.1)
    rw [hp] at HRS
    clear hp
    go_enter Try.func23, Try.ntmps23
    go_upto_region 1 with fail
    generalize (w.alloc (.cells #[.slice A es.length c] 26)).alloc (.cells #[.int .i64 p.fg, .int .i64 p.bg, .int .i64 p.fl] 31) = W at *
    obtain ⟨k0, k1, k2⟩ : W.cell? ⟨w.heap.size + 1, 0, none⟩ = some (.int .i64 p.fg) ∧ W.cell? ⟨w.heap.size + 1, 1, none⟩ = some (.int .i64 p.bg) ∧ W.cell? ⟨w.heap.size + 1, 2, none⟩ = some (.int .i64 p.fl) := ⟨HH.out.2.2.cell 0, HH.out.2.2.cell 1, HH.out.2.2.cell 2⟩
    go_wp2_with fail
    refine (HRN.out _).mono ?_
    rintro e v1 ⟨B, d, rfl, hB, hv1⟩
    have hrs1 := HRS.out v1 B d hB
    have HV1 := Lib.hid (HH.out.1.trans (hv1.mono HH.out.1.size))
    clear hv1 hB k0 k1 k2
    go_wp2_with fail
    refine hrs1.mono ?_
    rintro e v2 ⟨rfl, hv2⟩
    have HV2 := Lib.hid (HV1.out.trans (hv2.mono HV1.out.size))
    clear hv2 hrs1
    go_wp2_with fail
    go_ret
    exact ⟨ret_bool HF.out.symm, HV2.out⟩
  | true =>
    have HF : Hid (decide (SaneN p ∧ SaneG (rws es)) = decide (SaneG (rws es))) := Lib.hid (decide_eq_decide.2 ⟨fun h => h.2, fun h => ⟨of_decide_eq_true hp, h⟩⟩)
    rw [hp] at HRS
    clear hp
    rw [HF.out]
    generalize decide (SaneG (rws es)) = R at *
    clear HF
    go_enter Try.func23, Try.ntmps23
    go_upto_region 1 with fail
    generalize (w.alloc (.cells #[.slice A es.length c] 26)).alloc (.cells #[.int .i64 p.fg, .int .i64 p.bg, .int .i64 p.fl] 31) = W at *
    obtain ⟨k0, k1, k2⟩ : W.cell? ⟨w.heap.size + 1, 0, none⟩ = some (.int .i64 p.fg) ∧ W.cell? ⟨w.heap.size + 1, 1, none⟩ = some (.int .i64 p.bg) ∧ W.cell? ⟨w.heap.size + 1, 2, none⟩ = some (.int .i64 p.fl) := ⟨HH.out.2.2.cell 0, HH.out.2.2.cell 1, HH.out.2.2.cell 2⟩
    go_wp2_with fail
    refine (HRN.out _).mono ?_
    rintro e v1 ⟨B, d, rfl, hB, hv1⟩
    have hrs1 := HRS.out v1 B d hB
    have HV1 := Lib.hid hv1
    have HW1 := Lib.hid (HH.out.1.trans (hv1.mono HH.out.1.size))
    clear hv1 hB k0 k1 k2
    go_wp2_with fail
    refine hrs1.mono ?_
    rintro e v2 ⟨rfl, hv2⟩
    have hx2 := HH.out.2.1.below (HV1.out.trans (hv2.mono HV1.out.size)) HH.out.2.1.lt
    have HV2 := Lib.hid (HW1.out.trans (hv2.mono HW1.out.size))
    have k0 : v2.cell? ⟨w.heap.size, 0, none⟩ = some (.slice A es.length c) := hx2.cell 0
    clear hv2 hrs1 hx2
    go_wp2_with fail
    refine (HS.out _ HV2.out).mono ?_
    rintro e v3 ⟨rfl, hv3⟩
    have HV3 := Lib.hid (HV2.out.trans (hv3.mono HV2.out.size))
    clear hv3 k0
    go_wp2_with fail
    go_ret
    exact ⟨rfl, HV3.out⟩
/- New. -/
theorem FarG.own {V : World} {base g : Nat} {e : Rl} (h : OwnC V base e.A e.c e.r.cs) (hg : g < base) : FarG g e := fun _ => own_ne h hg
structure NwM (w wr : World) (K g : Nat) (p : Pn) (B : Rw) (i : Nat) : Prop where
  own : ∃ es, OwnH wr (w.heap.size + 2) g K es ∧ rws es = List.replicate i B ++ List.replicate (K - i) zeroG.r
  bp : Box wr w.heap.size 31 #[.int .i64 p.fg, .int .i64 p.bg, .int .i64 p.fl]
  br : Box wr (w.heap.size + 1) 26 #[.slice none 0 0]
  bl : Below w.heap.size w wr
theorem NwM.on {w wr v : World} {K g : Nat} {p : Pn} {B : Rw} {i : Nat} (h : NwM w wr K g p B i) (hv : Below wr.heap.size wr v) : NwM w v K g p B i := by
  obtain ⟨⟨es, h1, h2⟩, h3, h4, h5⟩ := h
  exact ⟨⟨es, h1.on hv, h2⟩, h3.below hv h3.lt, h4.below hv h4.lt, h5.trans (hv.mono h5.size)⟩
theorem rws_set (es : List Rl) (k : Nat) (x : Rl) : rws (es.set k x) = (rws es).set k x.r := by simp [rws, List.map_set]
theorem repR_set (n k : Nat) (x y : Rw) (hk : k < n) : (List.replicate k x ++ List.replicate (n - k) y).set k x = List.replicate (k + 1) x ++ List.replicate (n - (k + 1)) y := by
  rw [List.set_append_right _ _ (by simp), List.length_replicate, Nat.sub_self, show n - k = (n - (k + 1)) + 1 from by omega, List.replicate_succ, List.set_cons_zero, List.replicate_succ', List.append_assoc]
  rfl
theorem putG_box {W : World} {g k g' : Nat} {x : Rl} {t : TypeId} {cs : Array Value} (h : Box W g' t cs) (hg : g' ≠ g) : Box (putG W g k x) g' t cs := by
  unfold putG
  exact (((h.far (p := ⟨_, _, none⟩) hg _).far (p := ⟨_, _, none⟩) hg _).far (p := ⟨_, _, none⟩) hg _).far (p := ⟨_, _, none⟩) hg _
theorem NwM.put {w wr : World} {K g : Nat} {p : Pn} {B : Rw} {i : Nat} (h : NwM w wr K g p B i) (hi : i < K) {x : Rl} (hx : InC wr x.A x.c x.r.cs) (hf : FarG g x) (e : x.r = B) : NwM w (putG wr g i x) K g p B (i + 1) := by
  obtain ⟨⟨es, h1, h2⟩, h3, h4, h5⟩ := h
  have hl : es.length = K := by
    have := congrArg List.length h2
    rw [rws_length] at this
    simp at this
    omega
  have hb := h1.base_le
  refine ⟨⟨es.set i x, h1.put (by omega) hx hf, ?_⟩, putG_box h3 (by omega), putG_box h4 (by omega), putG_below h5 (by omega)⟩
  rw [rws_set, h2, e, repR_set K i _ _ hi]
theorem NwM.cells {w wr : World} {K g : Nat} {p : Pn} {B : Rw} {i : Nat} (h : NwM w wr K g p B i) (hi : i < K) :
    ∃ u0 u1 u2 u3, (wr.frozen? ⟨g, i * 4, none⟩ = false ∧ wr.frozen? ⟨g, i * 4 + 1, none⟩ = false ∧ wr.frozen? ⟨g, i * 4 + 2, none⟩ = false ∧ wr.frozen? ⟨g, i * 4 + 3, none⟩ = false) ∧
    (wr.cell? ⟨g, i * 4, none⟩ = some u0 ∧ wr.cell? ⟨g, i * 4 + 1, none⟩ = some u1 ∧ wr.cell? ⟨g, i * 4 + 2, none⟩ = some u2 ∧ wr.cell? ⟨g, i * 4 + 3, none⟩ = some u3) := by
  obtain ⟨⟨es, h1, h2⟩, h3, h4, h5⟩ := h
  have hl : es.length = K := by
    have := congrArg List.length h2
    rw [rws_length] at this
    simp at this
    omega
  have := h1.cells (k := i) (e := es[i]'(by omega)) (List.getElem?_eq_getElem (by omega))
  exact ⟨_, _, _, _, this.1, this.2⟩
set_option maxRecDepth 100000 in
set_option maxHeartbeats 1000000 in
theorem new9_c : New9C := by
  intro h n p w hh hn hp
  obtain ⟨K, hK, hK1⟩ : ∃ K : Nat, max 1 (min h 1000) = (K : Int) ∧ K ≤ 1000 := ⟨(max 1 (min h 1000)).toNat, by omega, by omega⟩
  have hK0 : 1 ≤ K := by omega
  have hG : newG h n p = List.replicate K (newR n p) := by unfold newG; rw [hK]; rfl
  rw [hG]
  have hw9 := fun V => height9_c h V hh
  rw [hK] at hw9
  have hrn := fun V => new8_o n p V hn hp
  rw [show pnV p = .agg #[.int .i64 p.fg, .int .i64 p.bg, .int .i64 p.fl] from rfl] at hrn ⊢
  generalize newR n p = B at *
  have hbl : Below w.heap.size w ((w.alloc (.cells #[.int .i64 p.fg, .int .i64 p.bg, .int .i64 p.fl] 31)).alloc (.cells #[.slice none 0 0] 26)) := ((Below.refl _ _).alloc (Nat.le_refl _) _).alloc (by simp) _
  have hX : Box ((w.alloc (.cells #[.int .i64 p.fg, .int .i64 p.bg, .int .i64 p.fl] 31)).alloc (.cells #[.slice none 0 0] 26)) w.heap.size 31 #[.int .i64 p.fg, .int .i64 p.bg, .int .i64 p.fl] := (Box.new w _ _).alloc _
  have hY : Box ((w.alloc (.cells #[.int .i64 p.fg, .int .i64 p.bg, .int .i64 p.fl] 31)).alloc (.cells #[.slice none 0 0] 26)) (w.heap.size + 1) 26 #[.slice none 0 0] := box8_1 w _ _ _
  have hs : ((w.alloc (.cells #[.int .i64 p.fg, .int .i64 p.bg, .int .i64 p.fl] 31)).alloc (.cells #[.slice none 0 0] 26)).heap.size = w.heap.size + 2 := by simp
  have HH := Lib.hid (And.intro hbl (And.intro hX (And.intro hY hs)))
  have HRN := Lib.hid hrn
  have HW9 := Lib.hid hw9
  clear hbl hX hY hs hrn hw9 hG hK hp hn hh
  go_enter Try.func17, Try.ntmps17
  go_upto_region 1 with fail
  generalize (w.alloc (.cells #[.int .i64 p.fg, .int .i64 p.bg, .int .i64 p.fl] 31)).alloc (.cells #[.slice none 0 0] 26) = W at *
  go_wp2_with fail
  refine (HW9.out _).mono ?_
  rintro e v1 ⟨rfl, rfl⟩
  have hs := HH.out.2.2.2
  go_wp2_with (refine wpList_make_rows rfl _ _ rfl (w.heap.size + 2) K .i64 .i64 _ _ rfl rfl rfl rfl (by omega) (by omega) ?_)
  intro w2 hown hbel
  have HM0 : Hid (NwM w w2 K (w.heap.size + 2) p B 0) := Lib.hid ⟨⟨List.replicate K zeroG, ⟨hown, fun e he => by
      rw [(List.mem_replicate.1 he).2]
      exact ⟨InC.nil (Nat.zero_le _), fun h => absurd rfl h⟩⟩, by simp [rws]⟩, HH.out.2.1.below hbel (by omega), HH.out.2.2.1.below hbel (by omega), HH.out.1.trans (hbel.mono (by omega))⟩
  clear hown hbel HH hs
  go_wp2_with fail
  go_loopw [14] (fun u14 wr => ∃ i : Nat, i ≤ K ∧ u14 = .int .i64 (i : Int) ∧ Hid (NwM w wr K (w.heap.size + 2) p B i)) (fun u14 _ => K - (intOf u14).toNat)
  case atStart => exact ⟨0, Nat.zero_le _, rfl, HM0⟩
  case round =>
    obtain ⟨i, hi, rfl, HM⟩ := hrel
    clear HM0
    by_cases hlt : i < K
    · have z1 : (i : Int) < (K : Int) := by omega
      obtain ⟨k0, k1, k2⟩ : wr.cell? ⟨w.heap.size, 0, none⟩ = some (.int .i64 p.fg) ∧ wr.cell? ⟨w.heap.size, 1, none⟩ = some (.int .i64 p.bg) ∧ wr.cell? ⟨w.heap.size, 2, none⟩ = some (.int .i64 p.fl) := ⟨HM.out.bp.cell 0, HM.out.bp.cell 1, HM.out.bp.cell 2⟩
      have hgw : w.heap.size + 2 < wr.heap.size := by obtain ⟨es, h1, _⟩ := HM.out.own; exact h1.base_le.2
      go_wp2_with fail
      refine (HRN.out _).mono ?_
      rintro e v1 ⟨A, c, rfl, hA, hv1⟩
      have HM1 := Lib.hid (HM.out.on hv1)
      have HA := Lib.hid hA
      have HGW := Lib.hid hgw
      clear hv1 k0 k1 k2 HM hA hgw
      obtain ⟨u0, u1, u2, u3, ⟨f0, f1, f2, f3⟩, m0, m1, m2, m3⟩ := HM1.out.cells hlt
      simp only [rwV_eq]
      go_wp2_with fail
      exact ⟨⟨i + 1, by omega, by go_num, Lib.hid (HM1.out.put hlt (x := ⟨A, c, B⟩) HA.out.in_ (FarG.own HA.out HGW.out) rfl)⟩, by simp [intOf]; omega⟩
    · obtain rfl : i = K := by omega
      have z1 : ¬ (i : Int) < (i : Int) := by omega
      have f0 : wr.frozen? ⟨w.heap.size + 1, 0, none⟩ = false := HM.out.br.free 0
      have k0 : wr.cell? ⟨w.heap.size + 1, 0, none⟩ = some (.slice none 0 0) := HM.out.br.cell 0
      go_wp2_with fail
      obtain ⟨es, h1, h2⟩ := HM.out.own
      have hl : es.length = i := by
        have := congrArg List.length h2
        rw [rws_length] at this
        simp at this
        omega
      refine bodyPost_ret (ret9_g rfl (some ⟨w.heap.size + 2, 0, none⟩) i i _ _ (w.heap.size + 1) 26 rfl (HM.out.br.set_ 0 (.slice (some ⟨w.heap.size + 2, 0, none⟩) i i))) rfl ⟨some ⟨w.heap.size + 2, 0, none⟩, i, es, by rw [hl], h1.in_.far1 HM.out.br (by simp) 0 _, ?_, HM.out.bl.setCell (p := ⟨w.heap.size + 1, 0, none⟩) (Nat.le_succ _) _⟩
      rw [h2, Nat.sub_self, List.replicate_zero, List.append_nil]
end Go.Proofs.Ytcadbapccdclaaa
