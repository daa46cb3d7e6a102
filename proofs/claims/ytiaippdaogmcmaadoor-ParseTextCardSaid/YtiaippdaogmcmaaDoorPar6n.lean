/- Package parse: Step, as the document says it. Package parse: Feed, as the document says it. -/
import Derived.Test.YtiaippdaogmcmaaDoorPar6l
import Derived.Test.YtiaippdaogmcmaaDoorPar6f
namespace Go.Proofs.YtiaippdaogmcmaaDoor
open Go Go.RowKit
set_option linter.unusedVariables false
set_option linter.unusedSimpArgs false

set_option maxRecDepth 100000 in
set_option maxHeartbeats 2000000 in
theorem step6_c : Step6C := by
  intro s A c es r w hS hB hZ hr
  have HH := Lib.hid (two_sts w 28 s A es.length c)
  have HS := Lib.hid hS
  have hsn := fun V (hV : Below w.heap.size w V) => sane6_c s A c es V (hS.on hV) hB hZ
  by_cases hs : SaneS s
  · have hv : stepS s r = rStepS s r := by unfold stepS; rw [if_pos hs]
    rw [hv]
    have htk := fun V (hV : Below w.heap.size w V) => take_c s A c es r V hs (hS.on hV) hr
    have HN := Lib.hid (fun X (hX : w.heap.size ≤ X) => hS.inp.offNew hX)
    rw [decide_eq_true hs] at hsn
    generalize rStepS s r = y at *
    clear hS hB hZ hr hs hv
    simp only [stV_eq s]
    go_enter Tryd.func16, Tryd.ntmps16
    go_upto_region 1 with fail
    obtain ⟨hA, hB, hbel, hsz⟩ := HH.out
    clear HH
    generalize (w.alloc (.cells #[.int .i64 s.at_, .string (strS s.inter), .bool s.over, .slice A es.length c, .bool s.par.o, .string (strS s.text), .int .u8 (s.kind : Int)] 28)).alloc (.cells #[.int .i64 0, .string ⟨#[]⟩, .bool false, .slice none 0 0, .bool false, .string ⟨#[]⟩, .int .u8 0] 28) = W at *
    obtain ⟨a0, a1, a2, a3, a4, a5, a6⟩ := hA.st'
    have HB := Lib.hid (And.intro hA (And.intro hB hbel))
    clear hA hB hbel
    simp only [stV_eq s] at hsn htk
    go_wp2_with fail
    refine (hsn _ HB.out.2.2).mono ?_
    rintro e w1 ⟨rfl, hb1⟩
    have hA1 := HB.out.1.below hb1 HB.out.1.lt
    have hB1 := HB.out.2.1.below hb1 HB.out.2.1.lt
    have hbl1 := HB.out.2.2.trans (hb1.mono HB.out.2.2.size)
    clear a0 a1 a2 a3 a4 a5 a6
    obtain ⟨a0, a1, a2, a3, a4, a5, a6⟩ := hA1.st'
    have HB1 := Lib.hid (And.intro hB1 hbl1)
    clear hsn hb1 hA1 hB1 hbl1 HB
    go_wp2_with fail
    refine (htk _ HB1.out.2).mono ?_
    rintro e w2 ⟨A4, c4, es4, B, d, l, rfl, hS4, hI4, hac, hfar, hb4⟩
    have hR := HB1.out.1.below hb4 HB1.out.1.lt
    have hbl := HB1.out.2.trans (hb4.mono HB1.out.2.size)
    have hof := (hfar (w.heap.size + 1) HB1.out.1.lt).2 (HN.out _ (by omega))
    have hX := hR.sto7 hbl (by omega : w.heap.size ≤ w.heap.size + 1) (.int .i64 y.1.at_) (.string (strS y.1.inter)) (.bool y.1.over) (.slice A4 es4.length c4) (.bool y.1.par.o) (.string (strS y.1.text)) (.int .u8 (y.1.kind : Int))
    have hS5 := hS4.set7 hof.1 (.int .i64 y.1.at_) (.string (strS y.1.inter)) (.bool y.1.over) (.slice A4 es4.length c4) (.bool y.1.par.o) (.string (strS y.1.text)) (.int .u8 (y.1.kind : Int))
    have hI5 := hI4.set7 (hfar (w.heap.size + 1) HB1.out.1.lt).1 hof.2 (.int .i64 y.1.at_) (.string (strS y.1.inter)) (.bool y.1.over) (.slice A4 es4.length c4) (.bool y.1.par.o) (.string (strS y.1.text)) (.int .u8 (y.1.kind : Int))
    have hfar2 : FarS A es w A4 es4 B l := fun X hX => hfar X (Nat.lt_of_lt_of_le hX HB1.out.2.size)
    obtain ⟨c0, c1, c2, c3, c4', c5, c6⟩ := hR.cells7s
    obtain ⟨f0, f1, f2, f3, f4, f5, f6⟩ := hR.free7s
    have HX := Lib.hid (And.intro hX (And.intro hS5 (And.intro hI5 (And.intro hac hfar2))))
    clear hX hS5 hI5 hac hfar hfar2 hR hbl hof hS4 hI4 hb4 htk HB1 HN a0 a1 a2 a3 a4 a5 a6
    simp only [stV_eq]
    go_wp2_with fail
    exact bodyPost_ret (ret_s2 rfl y.1 A4 es4.length c4 _ _ (w.heap.size + 1) _ _ rfl rfl HX.out.1.1) rfl ⟨A4, c4, es4, B, d, l, rfl, HX.out.2.1, HX.out.2.2.1, HX.out.2.2.2.1, HX.out.2.2.2.2, HX.out.1.2⟩
  · have hv : stepS s r = (zeroS, []) := by unfold stepS; rw [if_neg hs]
    rw [hv]
    rw [decide_eq_false hs] at hsn
    clear hS hB hZ hr hs hv
    simp only [stV_eq s]
    go_enter Tryd.func16, Tryd.ntmps16
    go_upto_region 1 with fail
    obtain ⟨hA, hB, hbel, hsz⟩ := HH.out
    clear HH
    generalize (w.alloc (.cells #[.int .i64 s.at_, .string (strS s.inter), .bool s.over, .slice A es.length c, .bool s.par.o, .string (strS s.text), .int .u8 (s.kind : Int)] 28)).alloc (.cells #[.int .i64 0, .string ⟨#[]⟩, .bool false, .slice none 0 0, .bool false, .string ⟨#[]⟩, .int .u8 0] 28) = W at *
    obtain ⟨a0, a1, a2, a3, a4, a5, a6⟩ := hA.st'
    have HB := Lib.hid (And.intro hA (And.intro hB hbel))
    clear hA hB hbel
    simp only [stV_eq s] at hsn
    go_wp2_with fail
    refine (hsn _ HB.out.2.2).mono ?_
    rintro e w1 ⟨rfl, hb1⟩
    have hR := HB.out.2.1.below hb1 HB.out.2.1.lt
    have hbl := HB.out.2.2.trans (hb1.mono HB.out.2.2.size)
    have hX := hR.sto7 hbl (by omega : w.heap.size ≤ w.heap.size + 1) (.int .i64 0) (.string ⟨#[]⟩) (.bool false) (.slice none 0 0) (.bool false) (.string ⟨#[]⟩) (.int .u8 0)
    obtain ⟨c0, c1, c2, c3, c4, c5, c6⟩ := hR.cells7s
    obtain ⟨f0, f1, f2, f3, f4, f5, f6⟩ := hR.free7s
    have HX := Lib.hid hX
    clear hX hR hbl hb1 hsn HB a0 a1 a2 a3 a4 a5 a6
    go_wp2_with fail
    exact bodyPost_ret (ret_s2 rfl zeroS none 0 0 _ _ (w.heap.size + 1) _ _ rfl rfl HX.out.1) rfl (gives_none (es := []) rfl (InS.zero _) (fun X hX h => Off.nil) HX.out.2)
end Go.Proofs.YtiaippdaogmcmaaDoor

namespace Go.Proofs.YtiaippdaogmcmaaDoor
open Go Go.RowKit
set_option linter.unusedVariables false
set_option linter.unusedSimpArgs false

/-- What holds of what letters have made so far: a state, and what is told. -/
structure Fed (s : S6) (A0 : Option Addr) (es0 : List El) (rs : List Int) (w V : World) (k : Nat) (x : S6) (A : Option Addr) (c : Nat) (es : List El) (B : Option Addr) (d : Nat) (l : List AcE) : Prop where
  val : (rs.take k).foldl oneS (s, []) = (x, acts l)
  sane : SaneS x
  sb : Box V w.heap.size 28 (stCells x A es.length c)
  rb : Box V (w.heap.size + 1) 28 #[.int .i64 0, .string ⟨#[]⟩, .bool false, .slice none 0 0, .bool false, .string ⟨#[]⟩, .int .u8 0]
  bl : Below w.heap.size w V
  is_ : InS V A c es x
  own : V.ownsRow (w.heap.size + 2) 44 6 (.slice B l.length d) l.length (flatA l)
  par : ∀ e ∈ l, InP V e.A e.c e.es
  offr : ∀ g, (.slice B l.length d : Value).ownBlock = some g → Off g A es ∧ ∀ e ∈ l, Off g e.A e.es
  offb : ∀ X, X = w.heap.size ∨ X = w.heap.size + 1 → Off X A es ∧ ∀ e ∈ l, Off X e.A e.es
  offo : ∀ X, X < w.heap.size → Off X A0 es0 → Off X A es ∧ ∀ e ∈ l, Off X e.A e.es
  few : l.length ≤ 2 * k
theorem Box.cells7x {W : World} {g : Nat} {T : TypeId} {s : S6} {A : Option Addr} {n c : Nat} (h : Box W g T (stCells s A n c)) : W.cell? ⟨g, 0, none⟩ = some (.int .i64 s.at_) ∧ W.cell? ⟨g, 1, none⟩ = some (.string (strS s.inter)) ∧ W.cell? ⟨g, 2, none⟩ = some (.bool s.over) ∧ W.cell? ⟨g, 3, none⟩ = some (.slice A n c) ∧ W.cell? ⟨g, 4, none⟩ = some (.bool s.par.o) ∧ W.cell? ⟨g, 5, none⟩ = some (.string (strS s.text)) ∧ W.cell? ⟨g, 6, none⟩ = some (.int .u8 (s.kind : Int)) :=
  h.st'
theorem par_set7 {w : World} {A : Option Addr} {c : Nat} {es : List El} (h : InP w A c es) {X : Nat} (ho : Off X A es) (v0 v1 v2 v3 v4 v5 v6 : Value) : InP (set7 w X v0 v1 v2 v3 v4 v5 v6) A c es :=
  ((((((h.off ho _ rfl _).off ho _ rfl _).off ho _ rfl _).off ho _ rfl _).off ho _ rfl _).off ho _ rfl _).off ho _ rfl _
theorem own_set7 {w : World} {base : Nat} {e : TypeId} {size : Nat} {v : Value} {n : Nat} {xs : List Value} (h : w.ownsRow base e size v n xs) {X : Nat} (hne : v.ownBlock ≠ some X) (v0 v1 v2 v3 v4 v5 v6 : Value) : (set7 w X v0 v1 v2 v3 v4 v5 v6).ownsRow base e size v n xs :=
  own_far (own_far (own_far (own_far (own_far (own_far (own_far h (p := ⟨X, 0, none⟩) hne v0) (p := ⟨X, 1, none⟩) hne v1) (p := ⟨X, 2, none⟩) hne v2) (p := ⟨X, 3, none⟩) hne v3) (p := ⟨X, 4, none⟩) hne v4) (p := ⟨X, 5, none⟩) hne v5) (p := ⟨X, 6, none⟩) hne v6
theorem fold_snoc6 {s : S6} {rs : List Int} {k : Nat} {r : Int} {x : S6} {l l2 : List A6} {y : S6 × List A6} (hr : rs[k]? = some r) (h : (rs.take k).foldl oneS (s, []) = (x, l)) (hs : SaneS x) (hy : rStepS x r = y) (hl : l2 = y.2) : (rs.take (k + 1)).foldl oneS (s, []) = (y.1, l ++ l2) := by
  rw [take_snoc hr, List.foldl_append, h]
  simp only [List.foldl_cons, List.foldl_nil]
  unfold oneS
  rw [step_raw6 hs, hy, hl]
theorem rstep_few {s : S6} (h : SaneS s) (r : Int) : (rStepS s r).2.length ≤ 2 := by
  rw [← step_raw6 h]
  exact (few_step h r).1
set_option maxRecDepth 100000 in
set_option maxHeartbeats 4000000 in
theorem feed6_c : Feed6C := by
  intro s A0 c0' es0 L cap rs w hS hB hZ hL hk hk2 hlen hr
  have HH := Lib.hid (two_sts w 28 s A0 es0.length c0')
  have hsn := fun V (hV : Below w.heap.size w V) => sane6_c s A0 c0' es0 V (hS.on hV) hB hZ
  have hmk := hk2
  unfold maxLen at hmk
  by_cases hs : SaneS s
  · have HV := Lib.hid (feed6_fold hs rs)
    have HSS := Lib.hid hs
    rw [decide_eq_true hs] at hsn
    have HIN := Lib.hid hS
    have HLL := Lib.hid hL
    have HRR := Lib.hid hr
    clear hB hZ hs hS hL hr
    simp only [stV_eq s]
    go_enter Tryd.func9, Tryd.ntmps9
    go_upto_region 1 with fail
    obtain ⟨hA, hB, hbel, hsz⟩ := HH.out
    clear HH
    generalize (w.alloc (.cells #[.int .i64 s.at_, .string (strS s.inter), .bool s.over, .slice A0 es0.length c0', .bool s.par.o, .string (strS s.text), .int .u8 (s.kind : Int)] 28)).alloc (.cells #[.int .i64 0, .string ⟨#[]⟩, .bool false, .slice none 0 0, .bool false, .string ⟨#[]⟩, .int .u8 0] 28) = W at *
    obtain ⟨a0, a1, a2, a3, a4, a5, a6⟩ := hA.st'
    have HB := Lib.hid (And.intro hA (And.intro hB hbel))
    clear hA hB hbel
    simp only [stV_eq s] at hsn
    obtain ⟨i0, hi, hz0, hz1, hz2⟩ := info_parts infoActZ
    go_wp2_with fail
    refine (hsn _ HB.out.2.2).mono ?_
    rintro e w1 ⟨rfl, hb1⟩
    have hA1 := HB.out.1.below hb1 HB.out.1.lt
    have hR1 := HB.out.2.1.below hb1 HB.out.2.1.lt
    have hbl1 := HB.out.2.2.trans (hb1.mono HB.out.2.2.size)
    have h0 : Fed s A0 es0 rs w w1 0 s A0 c0' es0 none 0 [] := ⟨rfl, HSS.out, hA1, hR1, hbl1, HIN.out.on hbl1, World.ownsRow_nil _ _ _ _, by simp, (fun g hg => by simp [Value.ownBlock] at hg), (fun X hX => ⟨HIN.out.inp.offNew (by omega), by simp⟩), (fun X hX h => ⟨h, by simp⟩), by simp⟩
    clear hsn hb1 hA1 hR1 hbl1 HB a0 a1 a2 a3 a4 a5 a6
    go_wp2_with fail
    go_loopw [6, 17] (fun u6 u17 wr => ∃ (k : Nat) (x : S6) (A : Option Addr) (c : Nat) (es : List El) (B : Option Addr) (d : Nat) (l : List AcE), k ≤ rs.length ∧ u17 = .int .i64 (k : Int) ∧ u6 = .slice B l.length d ∧ Fed s A0 es0 rs w wr k x A c es B d l) (fun _ u17 _ => rs.length - (intOf u17).toNat)
    case atStart => exact ⟨0, s, A0, c0', es0, none, 0, [], Nat.zero_le _, rfl, rfl, h0⟩
    case round =>
      clear h0
      obtain ⟨k, x, A, c, es, B, d, l, hkr, rfl, rfl, hF⟩ := hrel
      obtain ⟨a0, a1, a2, a3, a4, a5, a6⟩ := hF.sb.st'
      by_cases hlt : k < rs.length
      · obtain ⟨r, hx⟩ : ∃ r, rs[k]? = some r := ⟨_, List.getElem?_eq_getElem hlt⟩
        obtain ⟨b, o, rfl, hbb, hc⟩ := (HLL.out.below hF.bl).at_ hx
        unfold intV at hc
        have hr64 := HRR.out r (List.mem_of_getElem? hx)
        have htk := take_c x A c es r wr hF.sane hF.is_ hr64
        have hfew := rstep_few hF.sane r
        have hby := rstep_sane (r := r) hF.sane
        have z1 : (k : Int) < (rs.length : Int) := by omega
        have HX0 := Lib.hid hx
        have HF := Lib.hid hF
        generalize hy : rStepS x r = y at *
        have HY := Lib.hid hy
        have HSY := Lib.hid hby
        have HFW := Lib.hid hfew
        clear hx hr64 hF hy hby hfew hkr
        simp only [stV_eq x] at htk
        go_wp2_with fail
        refine htk.mono ?_
        rintro e w1 ⟨A4, c4, es4, B4, d4, l4, rfl, hS4, hI4, hac, hfar, hb4⟩
        have hF := HF.out
        have hbx := Box.new w1 28 #[.int .i64 y.1.at_, .string (strS y.1.inter), .bool y.1.over, .slice A4 es4.length c4, .bool y.1.par.o, .string (strS y.1.text), .int .u8 (y.1.kind : Int)]
        have hal : Below w1.heap.size w1 (w1.alloc (.cells #[.int .i64 y.1.at_, .string (strS y.1.inter), .bool y.1.over, .slice A4 es4.length c4, .bool y.1.par.o, .string (strS y.1.text), .int .u8 (y.1.kind : Int)] 28)) := (Below.refl _ _).alloc (Nat.le_refl _) _
        have hb5 : Below wr.heap.size wr (w1.alloc (.cells #[.int .i64 y.1.at_, .string (strS y.1.inter), .bool y.1.over, .slice A4 es4.length c4, .bool y.1.par.o, .string (strS y.1.text), .int .u8 (y.1.kind : Int)] 28)) := hb4.alloc hb4.size _
        have hown5 := own_below hF.own hb5
        have hS5 := hS4.on hal
        have hI5 := hI4.on hal
        have hll : l4.length ≤ 2 := by rw [← acts_len, hac]; exact HFW.out
        have hl9 : l.length ≤ 2 * k := hF.few
        have hbase : w.heap.size + 2 ≤ (w1.alloc (.cells #[.int .i64 y.1.at_, .string (strS y.1.inter), .bool y.1.over, .slice A4 es4.length c4, .bool y.1.par.o, .string (strS y.1.text), .int .u8 (y.1.kind : Int)] 28)).heap.size := by have h1 := hF.rb.lt; have h2 := hb5.size; omega
        have hneX : (.slice B l.length d : Value).ownBlock ≠ some w1.heap.size := fun e => by have h1 := (own_block hF.own e).2; have h2 := hb4.size; omega
        have hne0 : (.slice B l.length d : Value).ownBlock ≠ some w.heap.size := fun e => by have h1 := (own_block hF.own e).1; omega
        have hne1 : (.slice B l.length d : Value).ownBlock ≠ some (w.heap.size + 1) := fun e => by have h1 := (own_block hF.own e).1; omega
        have hsb5 := hF.sb.below hb5 hF.sb.lt
        have hrb5 := hF.rb.below hb5 hF.rb.lt
        have hbl5 := hF.bl.trans (hb5.mono hF.bl.size)
        have hpar5 : ∀ e ∈ l, InP (w1.alloc (.cells #[.int .i64 y.1.at_, .string (strS y.1.inter), .bool y.1.over, .slice A4 es4.length c4, .bool y.1.par.o, .string (strS y.1.text), .int .u8 (y.1.kind : Int)] 28)) e.A e.c e.es := fun e he => (hF.par e he).on hb5
        simp only [stV_eq]
        have HD := Lib.hid (And.intro hbx (And.intro hS5 (And.intro hI5 (And.intro hown5 (And.intro hsb5 (And.intro hrb5 (And.intro hbl5 (And.intro hpar5 (And.intro hac (And.intro hfar (And.intro hb4.size (And.intro hneX (And.intro hne0 hne1)))))))))))))
        clear hbx hS5 hI5 hown5 hsb5 hrb5 hbl5 hpar5 hac hfar hneX hne0 hne1 hS4 hI4 hb4 hb5 hal hF a0 a1 a2 a3 a4 a5 a6 hc
        go_upto_region 8 with fail
        obtain ⟨hbx, hS5, hI5, hown5, hsb5, hrb5, hbl5, hpar5, hac, hfar, hsz4, hneX, hne0, hne1⟩ := HD.out
        clear HD
        generalize hWg : w1.alloc (.cells #[.int .i64 y.1.at_, .string (strS y.1.inter), .bool y.1.over, .slice A4 es4.length c4, .bool y.1.par.o, .string (strS y.1.text), .int .u8 (y.1.kind : Int)] 28) = W at *
        clear hWg
        have HHas : Nonempty (Has (fun X => Box X w1.heap.size 28 (stCells y.1 A4 es4.length c4))) := ⟨⟨W, hbx⟩⟩
        have k0 : ∀ u : Has (fun X => Box X w1.heap.size 28 (stCells y.1 A4 es4.length c4)), u.val.cell? ⟨w1.heap.size, 0, none⟩ = some (.int .i64 y.1.at_) := fun u => u.ok.cell 0
        have k1 : ∀ u : Has (fun X => Box X w1.heap.size 28 (stCells y.1 A4 es4.length c4)), u.val.cell? ⟨w1.heap.size, 1, none⟩ = some (.string (strS y.1.inter)) := fun u => u.ok.cell 1
        have k2 : ∀ u : Has (fun X => Box X w1.heap.size 28 (stCells y.1 A4 es4.length c4)), u.val.cell? ⟨w1.heap.size, 2, none⟩ = some (.bool y.1.over) := fun u => u.ok.cell 2
        have k3 : ∀ u : Has (fun X => Box X w1.heap.size 28 (stCells y.1 A4 es4.length c4)), u.val.cell? ⟨w1.heap.size, 3, none⟩ = some (.slice A4 es4.length c4) := fun u => u.ok.cell 3
        have k4 : ∀ u : Has (fun X => Box X w1.heap.size 28 (stCells y.1 A4 es4.length c4)), u.val.cell? ⟨w1.heap.size, 4, none⟩ = some (.bool y.1.par.o) := fun u => u.ok.cell 4
        have k5 : ∀ u : Has (fun X => Box X w1.heap.size 28 (stCells y.1 A4 es4.length c4)), u.val.cell? ⟨w1.heap.size, 5, none⟩ = some (.string (strS y.1.text)) := fun u => u.ok.cell 5
        have k6 : ∀ u : Has (fun X => Box X w1.heap.size 28 (stCells y.1 A4 es4.length c4)), u.val.cell? ⟨w1.heap.size, 6, none⟩ = some (.int .u8 (y.1.kind : Int)) := fun u => u.ok.cell 6
        have HN0 := Lib.hid hbx.drew
        have HOWN := Lib.hid hown5.drew
        have HIA := Lib.hid (hI5.on (Below.refl _ _).drew)
        have hltd : w.heap.size + 2 ≤ W.drew.heap.size := hbase
        have HD := Lib.hid (And.intro hbx (And.intro hS5 (And.intro hI5 (And.intro hown5 (And.intro hsb5 (And.intro hrb5 (And.intro hbl5 (And.intro hpar5 (And.intro hac (And.intro hfar (And.intro hsz4 (And.intro hneX (And.intro hne0 hne1)))))))))))))
        clear hbx hS5 hI5 hown5 hsb5 hrb5 hbl5 hpar5 hac hfar hsz4 hneX hne0 hne1
        refine region_plan [([0, 1, 2], [3, 4]), ([5], [])] (fun w' => ∃ u : Has (fun X => Box X w1.heap.size 28 (stCells y.1 A4 es4.length c4)), w' = u.val) (by kernel_rfl) (by kernel_rfl) (fun _ _ _ _ _ h => h) ⟨⟨_, HN0.out⟩, rfl⟩ ?_
        simp only [wpPlan, sel, List.take_succ_cons, List.take_zero, List.drop_succ_cons, List.drop_zero, List.cons_append, List.nil_append]
        repeat (go_big_quiet_step (fail))
        refine wpQuiet_nil ?_
        unfold wpChain
        clear k0 k1 k2 k3 k4 k5 k6 HHas
        go_wp2_with (at_builtin; refine wpList_append_acts rfl _ _ 29 rfl (w.heap.size + 2) 44 i0 _ 80 Tryd.underlying29 hi hz0 hz1 hz2 rfl _ l.length l rfl HOWN.out B4 d4 l4 rfl HIA.out (by unfold maxLen; omega) (by omega) hltd ?_)
        intro v' w5 hown6 hO
        obtain ⟨B6, d6, rfl⟩ : ∃ B6 d6, v' = .slice B6 (l.length + l4.length) d6 := by
          obtain ⟨A', c', h, _, _⟩ := own_form1 hown6
          exact ⟨A', c', h⟩
        obtain ⟨hbx, hS5, hI5, hown5, hsb5, hrb5, hbl5, hpar5, hac, hfar, hsz4, hneX, hne0, hne1⟩ := HD.out
        have hll6 : (l ++ l4).length = l.length + l4.length := List.length_append
        have hbx6 := hO.box hbx.drew hneX
        have hsb6 := hO.box hsb5.drew hne0
        have hrb6 := hO.box hrb5.drew hne1
        have hbl6 : Below w.heap.size w w5 := hbl5.drew.trans ((hO.belowBase hltd (fun g hg => (own_block HOWN.out hg).1)).mono (by omega))
        have hF := HF.out
        have hlt6 : ∀ g, (.slice B l.length d : Value).ownBlock = some g → g < wr.heap.size := fun g hg => (own_block hF.own hg).2
        have hof4 : ∀ X, X < wr.heap.size → Off X A es → Off X A4 es4 ∧ ∀ e ∈ l4, Off X e.A e.es := fun X hX => (hfar X hX).2
        have hS6 : InS w5 A4 c4 es4 y.1 := ⟨InP.own1 (w := W.drew) (hS5.inp.on (Below.refl _ _).drew) hO (fun g hg => (hof4 g (hlt6 g hg) (hF.offr g hg).1).1), hS5.reads⟩
        have hpar6 : ∀ e ∈ l ++ l4, InP w5 e.A e.c e.es := fun e he => by
          rcases List.mem_append.1 he with he | he
          · exact InP.own1 (w := W.drew) ((hpar5 e he).on (Below.refl _ _).drew) hO (fun g hg => (hF.offr g hg).2 e he)
          · exact InP.own1 (w := W.drew) ((hI5.par e he).on (Below.refl _ _).drew) hO (fun g hg => (hof4 g (hlt6 g hg) (hF.offr g hg).1).2 e he)
        have hoffr6 : ∀ g, (.slice B6 (l.length + l4.length) d6 : Value).ownBlock = some g → Off g A4 es4 ∧ ∀ e ∈ l ++ l4, Off g e.A e.es := fun g hg => by
          rcases hO.at_ with h1 | h1
          · rw [h1] at hg
            have h2 := hof4 g (hlt6 g hg) (hF.offr g hg).1
            refine ⟨h2.1, fun e he => ?_⟩
            rcases List.mem_append.1 he with he | he
            · exact (hF.offr g hg).2 e he
            · exact h2.2 e he
          · have h2 : W.heap.size ≤ g := h1 g hg
            refine ⟨hS5.inp.offNew h2, fun e he => ?_⟩
            rcases List.mem_append.1 he with he | he
            · exact (hpar5 e he).offNew h2
            · exact (hI5.par e he).offNew h2
        have hoffX : ∀ X, X < wr.heap.size → (Off X A es ∧ ∀ e ∈ l, Off X e.A e.es) → Off X A4 es4 ∧ ∀ e ∈ l ++ l4, Off X e.A e.es := fun X hX h => ⟨(hof4 X hX h.1).1, fun e he => by
          rcases List.mem_append.1 he with he | he
          · exact h.2 e he
          · exact (hof4 X hX h.1).2 e he⟩
        have hoffb6 : ∀ X, X = w.heap.size ∨ X = w.heap.size + 1 → Off X A4 es4 ∧ ∀ e ∈ l ++ l4, Off X e.A e.es := fun X hX => hoffX X (by have := hF.rb.lt; omega) (hF.offb X hX)
        have hoffo6 : ∀ X, X < w.heap.size → Off X A0 es0 → Off X A4 es4 ∧ ∀ e ∈ l ++ l4, Off X e.A e.es := fun X hX h => hoffX X (by have := hF.sb.lt; omega) (hF.offo X hX h)
        have hfold := fold_snoc6 HX0.out hF.val hF.sane HY.out hac
        rw [← acts_app] at hfold
        have hX := hsb6.sto7 hbl6 (Nat.le_refl _) (.int .i64 y.1.at_) (.string (strS y.1.inter)) (.bool y.1.over) (.slice A4 es4.length c4) (.bool y.1.par.o) (.string (strS y.1.text)) (.int .u8 (y.1.kind : Int))
        have hn3 := hbx6.far7 (g' := w.heap.size) (by have := hF.sb.lt; omega) (.int .i64 y.1.at_) (.string (strS y.1.inter)) (.bool y.1.over) (.slice A4 es4.length c4) (.bool y.1.par.o) (.string (strS y.1.text)) (.int .u8 (y.1.kind : Int))
        have hr3 := hrb6.far7 (g' := w.heap.size) (by omega) (.int .i64 y.1.at_) (.string (strS y.1.inter)) (.bool y.1.over) (.slice A4 es4.length c4) (.bool y.1.par.o) (.string (strS y.1.text)) (.int .u8 (y.1.kind : Int))
        have hown7 : w5.ownsRow (w.heap.size + 2) 44 6 (.slice B6 (l ++ l4).length d6) (l ++ l4).length (flatA (l ++ l4)) := by rw [hll6]; exact hown6
        have hS7 := hS6.set7 (hoffb6 w.heap.size (.inl rfl)).1 (.int .i64 y.1.at_) (.string (strS y.1.inter)) (.bool y.1.over) (.slice A4 es4.length c4) (.bool y.1.par.o) (.string (strS y.1.text)) (.int .u8 (y.1.kind : Int))
        have hpar7 := fun e he => par_set7 (hpar6 e he) ((hoffb6 w.heap.size (.inl rfl)).2 e he) (.int .i64 y.1.at_) (.string (strS y.1.inter)) (.bool y.1.over) (.slice A4 es4.length c4) (.bool y.1.par.o) (.string (strS y.1.text)) (.int .u8 (y.1.kind : Int))
        have hown8 := own_set7 hown7 (X := w.heap.size) (fun e => by have := (own_block hown7 e).1; omega) (.int .i64 y.1.at_) (.string (strS y.1.inter)) (.bool y.1.over) (.slice A4 es4.length c4) (.bool y.1.par.o) (.string (strS y.1.text)) (.int .u8 (y.1.kind : Int))
        have hfed : Fed s A0 es0 rs w (set7 w5 w.heap.size (.int .i64 y.1.at_) (.string (strS y.1.inter)) (.bool y.1.over) (.slice A4 es4.length c4) (.bool y.1.par.o) (.string (strS y.1.text)) (.int .u8 (y.1.kind : Int))) (k + 1) y.1 A4 c4 es4 B6 d6 (l ++ l4) :=
          ⟨hfold, HSY.out, hX.1, hr3, hX.2, hS7, hown8, hpar7, by rw [hll6]; exact hoffr6, hoffb6, hoffo6, by rw [hll6]; omega⟩
        obtain ⟨c0, c1, c2, c3, c4', c5, c6⟩ := hsb6.cells7x
        obtain ⟨f0, f1, f2, f3, f4, f5, f6⟩ := hsb6.free7s
        have HLEN := Lib.hid hll6
        have HX := Lib.hid (And.intro hfed (And.intro hn3 hbx6))
        clear hll6 hX hn3 hr3 hown7 hS7 hpar7 hown8 hfed hfold hoffo6 hoffb6 hoffX hoffr6 hpar6 hS6 hof4 hlt6 hF hbl6 hrb6 hsb6 hbx6 hbx hS5 hI5 hown5 hsb5 hrb5 hbl5 hpar5 hac hfar hsz4 hneX hne0 hne1 HD hown6 hO HIA HOWN HN0
        go_wp2_with fail
        refine ⟨⟨⟨_, HX.out.2.2⟩, rfl⟩, ?_⟩
        unfold wpChain
        go_wp2_with fail
        refine ⟨⟨⟨_, HX.out.2.1⟩, rfl⟩, ?_⟩
        unfold wpChain
        repeat (go_big_quiet_step (fail))
        refine wpQuiet_nil ?_
        unfold wpChain
        go_wp2_with fail
        exact ⟨⟨k + 1, y.1, A4, c4, es4, B6, d6, l ++ l4, by omega, by simp, by rw [HLEN.out], HX.out.1⟩, by simp [intOf]; omega⟩
      · have hke : k = rs.length := by omega
        have hval := hF.val
        rw [hke, List.take_length] at hval
        have hfs : feedS s rs = (x, acts l) := HV.out.trans hval
        have HFS := Lib.hid hfs
        have hX := hF.rb.sto7 hF.bl (by omega : w.heap.size ≤ w.heap.size + 1) (.int .i64 x.at_) (.string (strS x.inter)) (.bool x.over) (.slice A es.length c) (.bool x.par.o) (.string (strS x.text)) (.int .u8 (x.kind : Int))
        have hS7 := hF.is_.set7 (hF.offb (w.heap.size + 1) (.inr rfl)).1 (.int .i64 x.at_) (.string (strS x.inter)) (.bool x.over) (.slice A es.length c) (.bool x.par.o) (.string (strS x.text)) (.int .u8 (x.kind : Int))
        have hpar7 : ∀ e ∈ l, InP (set7 wr (w.heap.size + 1) (.int .i64 x.at_) (.string (strS x.inter)) (.bool x.over) (.slice A es.length c) (.bool x.par.o) (.string (strS x.text)) (.int .u8 (x.kind : Int))) e.A e.c e.es := fun e he => par_set7 (hF.par e he) ((hF.offb (w.heap.size + 1) (.inr rfl)).2 e he) (.int .i64 x.at_) (.string (strS x.inter)) (.bool x.over) (.slice A es.length c) (.bool x.par.o) (.string (strS x.text)) (.int .u8 (x.kind : Int))
        have hown7 := own_le (own_set7 hF.own (X := w.heap.size + 1) (fun e => by have := (own_block hF.own e).1; omega) (.int .i64 x.at_) (.string (strS x.inter)) (.bool x.over) (.slice A es.length c) (.bool x.par.o) (.string (strS x.text)) (.int .u8 (x.kind : Int))) (show w.heap.size ≤ w.heap.size + 2 by omega)
        have HX := Lib.hid (And.intro hX (And.intro hS7 (And.intro hpar7 (And.intro hown7 (And.intro hF.offr hF.offo)))))
        obtain ⟨c0, c1, c2, c3, c4', c5, c6⟩ := hF.rb.cells7s
        obtain ⟨f0, f1, f2, f3, f4, f5, f6⟩ := hF.rb.free7s
        clear hX hS7 hpar7 hown7 hval hF hfs hke
        go_wp2_with fail
        exact bodyPost_ret (ret_s2 rfl x A es.length c _ _ (w.heap.size + 1) _ _ rfl rfl HX.out.1.1) rfl (by rw [HFS.out]; exact ⟨A, c, es, B, d, l, rfl, HX.out.2.1, HX.out.2.2.2.1, HX.out.2.2.1, rfl, HX.out.1.2, HX.out.2.2.2.2.1, HX.out.2.2.2.2.2⟩)
  · have hv : feedS s rs = (zeroS, []) := by unfold feedS; rw [if_neg hs]
    rw [hv]
    rw [decide_eq_false hs] at hsn
    clear hs hv
    simp only [stV_eq s]
    go_enter Tryd.func9, Tryd.ntmps9
    go_upto_region 1 with fail
    obtain ⟨hA, hB, hbel, hsz⟩ := HH.out
    clear HH
    generalize (w.alloc (.cells #[.int .i64 s.at_, .string (strS s.inter), .bool s.over, .slice A0 es0.length c0', .bool s.par.o, .string (strS s.text), .int .u8 (s.kind : Int)] 28)).alloc (.cells #[.int .i64 0, .string ⟨#[]⟩, .bool false, .slice none 0 0, .bool false, .string ⟨#[]⟩, .int .u8 0] 28) = W at *
    obtain ⟨a0, a1, a2, a3, a4, a5, a6⟩ := hA.st'
    have HB := Lib.hid (And.intro hA (And.intro hB hbel))
    clear hA hB hbel
    simp only [stV_eq s] at hsn
    go_wp2_with fail
    refine (hsn _ HB.out.2.2).mono ?_
    rintro e w1 ⟨rfl, hb1⟩
    have hR := HB.out.2.1.below hb1 HB.out.2.1.lt
    have hbl := HB.out.2.2.trans (hb1.mono HB.out.2.2.size)
    have hX := hR.sto7 hbl (by omega : w.heap.size ≤ w.heap.size + 1) (.int .i64 0) (.string ⟨#[]⟩) (.bool false) (.slice none 0 0) (.bool false) (.string ⟨#[]⟩) (.int .u8 0)
    obtain ⟨c0, c1, c2, c3, c4, c5, c6⟩ := hR.cells7s
    obtain ⟨f0, f1, f2, f3, f4, f5, f6⟩ := hR.free7s
    have HX := Lib.hid hX
    clear hX hR hbl hb1 hsn HB a0 a1 a2 a3 a4 a5 a6
    go_wp2_with fail
    exact bodyPost_ret (ret_s2 rfl zeroS none 0 0 _ _ (w.heap.size + 1) _ _ rfl rfl HX.out.1) rfl ⟨none, 0, [], none, 0, [], rfl, InS.zero _, World.ownsRow_nil _ _ _ _, by simp, rfl, HX.out.2, fun g hg => by simp [Value.ownBlock] at hg, fun X hX h => ⟨Off.nil, by simp⟩⟩
end Go.Proofs.YtiaippdaogmcmaaDoor
