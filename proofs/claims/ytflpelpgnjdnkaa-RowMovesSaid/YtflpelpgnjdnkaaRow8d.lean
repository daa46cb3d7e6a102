/- Package row, walked: a row laid out of parts by copy, and mended. -/
import Derived.Test.YtflpelpgnjdnkaaRow8c
namespace Go.Proofs.Ytflpelpgnjdnkaa
open Go Go.RowKit
set_option linter.unusedVariables false
set_option linter.unusedSimpArgs false

/-- A part: where it lies, its capacity, what it reads as. -/
structure Pt where
  A : Option Addr
  c : Nat
  l : List Cl
def ptV (e : Pt) : Value := .slice e.A e.l.length e.c
def catL (ps : List Pt) : List Cl := ps.flatMap Pt.l
theorem catL_take {ps : List Pt} {k : Nat} {e : Pt} (h : ps[k]? = some e) : catL (ps.take (k + 1)) = catL (ps.take k) ++ e.l := by
  obtain ⟨hk, he⟩ := List.getElem?_eq_some_iff.1 h
  unfold catL
  rw [List.take_succ_eq_append_getElem hk, List.flatMap_append, he]
  simp
theorem catL_split {ps : List Pt} {k : Nat} {e : Pt} (h : ps[k]? = some e) : catL ps = catL (ps.take k) ++ (e.l ++ catL (ps.drop (k + 1))) := by
  obtain ⟨hk, he⟩ := List.getElem?_eq_some_iff.1 h
  have h1 : ps = ps.take k ++ e :: ps.drop (k + 1) := by
    rw [← he, ← List.drop_eq_getElem_cons hk, List.take_append_drop]
  conv => lhs; rw [h1]
  unfold catL
  rw [List.flatMap_append, List.flatMap_cons]
theorem catL_le {ps : List Pt} {k : Nat} {e : Pt} (h : ps[k]? = some e) : (catL (ps.take k)).length + e.l.length ≤ (catL ps).length := by
  rw [catL_split h, List.length_append, List.length_append]; omega
/-- Parts in memory. -/
structure InN (w : World) (A : Option Addr) (ps : List Pt) : Prop where
  rd : ps ≠ [] → ∃ b o, A = some ⟨b, o, none⟩ ∧ b < w.heap.size ∧ ∀ (k : Nat) e, ps[k]? = some e → w.cell? ⟨b, o + k, none⟩ = some (ptV e)
  ok : ∀ e ∈ ps, InC w e.A e.c e.l
theorem InN.on {w w' : World} {A : Option Addr} {ps : List Pt} (h : InN w A ps) (hb : Below w.heap.size w w') : InN w' A ps := by
  refine ⟨fun hl => ?_, fun e he => (h.ok e he).on hb⟩
  obtain ⟨b, o, e, hB, hc⟩ := h.rd hl
  exact ⟨b, o, e, Nat.lt_of_lt_of_le hB hb.size, fun k x hx => (hb.cell (by exact hB)).trans (hc k x hx)⟩
theorem InN.at_ {w : World} {A : Option Addr} {ps : List Pt} {k : Nat} {e : Pt} (h : InN w A ps) (hx : ps[k]? = some e) : ∃ b o, A = some ⟨b, o, none⟩ ∧ b < w.heap.size ∧ w.cell? ⟨b, o + k, none⟩ = some (.slice e.A e.l.length e.c) := by
  obtain ⟨b, o, ha, hB, hc⟩ := h.rd (by rintro rfl; simp at hx)
  exact ⟨b, o, ha, hB, hc k e hx⟩
theorem parts_in (w : World) (t : TypeId) (ps : List Pt) (h : ∀ e ∈ ps, InC w e.A e.c e.l) : InN (w.alloc (.cells (ps.map ptV).toArray t)) (some ⟨w.heap.size, 0, none⟩) ps := by
  have hb : Below w.heap.size w (w.alloc (.cells (ps.map ptV).toArray t)) := (Below.refl _ _).alloc (Nat.le_refl _) _
  refine ⟨fun _ => ⟨w.heap.size, 0, rfl, by simp, fun k e hk => ?_⟩, fun e he => (h e he).on hb⟩
  have hbx := Box.new w t (ps.map ptV).toArray
  rw [hbx.cell, List.getElem?_toArray, Nat.zero_add, List.getElem?_map, hk]
  rfl
/-- What is copied so far. -/
structure CpM (w wr : World) (A0 : Option Addr) (m c : Nat) (y1 : Bool) (y2 : Int) (y3 : Bool) (A : Option Addr) (ps : List Pt) (k : Nat) : Prop where
  b1 : Box wr w.heap.size 24 #[.slice A0 m c, .bool y1, .int .i64 y2, .bool y3]
  b2 : Box wr (w.heap.size + 1) 24 #[.slice none 0 0, .bool false, .int .i64 0, .bool false]
  own : OwnC wr (w.heap.size + 2) (some ⟨w.heap.size + 2, 0, none⟩) (catL ps).length (catL (ps.take k) ++ List.replicate ((catL ps).length - (catL (ps.take k)).length) zeroC)
  bl : Below w.heap.size w wr
  gl : w.heap.size + 2 < wr.heap.size
theorem copy_cat {ps : List Pt} {k : Nat} {e : Pt} (h : ps[k]? = some e) :
    copyC (catL (ps.take k) ++ List.replicate ((catL ps).length - (catL (ps.take k)).length) zeroC) (catL (ps.take k)).length e.l.length e.l = catL (ps.take (k + 1)) ++ List.replicate ((catL ps).length - (catL (ps.take (k + 1))).length) zeroC := by
  have hle := catL_le h
  unfold copyC
  rw [catL_take h, List.take_left' rfl, List.take_length, List.length_append, List.drop_append, List.drop_of_length_le (by omega), List.nil_append, List.drop_replicate]
  congr 2
  omega
theorem cp_len {ps : List Pt} {k : Nat} (h : (catL (ps.take k)).length ≤ (catL ps).length) : (catL (ps.take k) ++ List.replicate ((catL ps).length - (catL (ps.take k)).length) zeroC).length = (catL ps).length := by
  rw [List.length_append, List.length_replicate]; omega
theorem catL_take_le (ps : List Pt) (k : Nat) : (catL (ps.take k)).length ≤ (catL ps).length := by
  have : catL ps = catL (ps.take k) ++ catL (ps.drop k) := by unfold catL; rw [← List.flatMap_append, List.take_append_drop]
  rw [this, List.length_append]; omega
theorem cutC_dst (g n M : Nat) (hM : M ≤ n) : ∃ dp, (∀ V, (Instr.sliceAt 22 (.slice (some ⟨g, 0, none⟩) n n) (some (.int .i64 (M : Int))) none none).run Try.prog V = .ok (.slice dp (n - M) (n - M)) V) ∧ (M < n → dp = some ⟨g, M * 7, none⟩) := by
  refine ⟨_, fun V => cutC_l _ n n M hM V, fun h => ?_⟩
  rw [if_neg (by omega)]
  simp [Addr.add]
  intro h0; omega
theorem Box.put4r {w W : World} {B g : Nat} {t : TypeId} {o0 o1 o2 o3 : Value} (h : Box W g t #[o0, o1, o2, o3]) (hb : Below B w W) (hg : B ≤ g) (v0 v1 v2 v3 : Value) :
    Box ((((W.setCell ⟨g, 0, none⟩ v0).setCell ⟨g, 1, none⟩ v1).setCell ⟨g, 2, none⟩ v2).setCell ⟨g, 3, none⟩ v3) g t #[v0, v1, v2, v3] ∧
    Below B w ((((W.setCell ⟨g, 0, none⟩ v0).setCell ⟨g, 1, none⟩ v1).setCell ⟨g, 2, none⟩ v2).setCell ⟨g, 3, none⟩ v3) :=
  have h0 : Box (W.setCell ⟨g, 0, none⟩ v0) g t #[v0, o1, o2, o3] := h.set_ 0 v0
  have h1 : Box ((W.setCell ⟨g, 0, none⟩ v0).setCell ⟨g, 1, none⟩ v1) g t #[v0, v1, o2, o3] := h0.set_ 1 v1
  have h2 : Box (((W.setCell ⟨g, 0, none⟩ v0).setCell ⟨g, 1, none⟩ v1).setCell ⟨g, 2, none⟩ v2) g t #[v0, v1, v2, o3] := h1.set_ 2 v2
  ⟨h2.set_ 3 v3, (((hb.setCell (p := ⟨g, 0, none⟩) hg v0).setCell (p := ⟨g, 1, none⟩) hg v1).setCell (p := ⟨g, 2, none⟩) hg v2).setCell (p := ⟨g, 3, none⟩) hg v3⟩
/-- Cells in memory stay where another box is stored to. -/
theorem InC.box4 {W : World} {A : Option Addr} {c g : Nat} {l : List Cl} {t : TypeId} {cs : Array Value} (h : InC W A c l) (hb : Box W g t cs) (hne : ∀ b o, A = some ⟨b, o, none⟩ → b ≠ g) (v0 v1 v2 v3 : Value) :
    InC ((((W.setCell ⟨g, 0, none⟩ v0).setCell ⟨g, 1, none⟩ v1).setCell ⟨g, 2, none⟩ v2).setCell ⟨g, 3, none⟩ v3) A c l := by
  refine ⟨fun hl => ?_, h.cap, h.max⟩
  obtain ⟨b, o, e, hB, hc⟩ := h.rd hl
  have hn := hne b o e
  refine ⟨b, o, e, by simpa using hB, fun k x hx j u hu => ?_⟩
  rw [← hc k x hx j u hu]
  have hstep : ∀ (V : World) (i : Nat) (v : Value) (q : Nat), (V.setCell ⟨g, i, none⟩ v).cell? ⟨b, q, none⟩ = V.cell? ⟨b, q, none⟩ := fun V i v q => by
    have := Below.heap_setCell V ⟨g, i, none⟩ v b (by simpa using hn)
    unfold World.cell?
    simp only [this]
  rw [hstep, hstep, hstep, hstep]
theorem own_ne {W : World} {base g : Nat} {A : Option Addr} {c : Nat} {l : List Cl} (h : OwnC W base A c l) (hg : g < base) : ∀ b o, A = some ⟨b, o, none⟩ → b ≠ g := by
  intro b o e
  subst e
  rcases h.2 with ⟨hv, _⟩ | ⟨g', _, _, hv, hb, _⟩
  · injection hv with hv; cases hv
  · injection hv with hv; injection hv with hv; injection hv with hv
    omega
set_option maxRecDepth 100000 in
set_option maxHeartbeats 1000000 in
theorem laid8_c (r : Rw) (A0 : Option Addr) (c : Nat) (A : Option Addr) (ps : List Pt) (n d : Nat) (hn : n = ps.length) (w : World) (hin : InN w A ps) (hps : ps.length ≤ 8) (hlen : (catL ps).length ≤ 8192) (hd : n ≤ d) :
    Calls Try.prog 24 #[.agg #[.slice A0 r.cs.length c, .bool r.wrap, .int .i64 r.dir, .bool r.ex], .slice A n d] w (GivesRow { r with cs := mendL (catL ps) } w) := by
  obtain ⟨l0, y1, y2, y3⟩ := r
  simp only
  generalize l0.length = m0
  have hX : Box ((w.alloc (.cells #[.slice A0 m0 c, .bool y1, .int .i64 y2, .bool y3] 24)).alloc (.cells #[.slice none 0 0, .bool false, .int .i64 0, .bool false] 24)) (w.heap.size + 1) 24 #[.slice none 0 0, .bool false, .int .i64 0, .bool false] := box8_1 w _ _ _
  have hY : Box ((w.alloc (.cells #[.slice A0 m0 c, .bool y1, .int .i64 y2, .bool y3] 24)).alloc (.cells #[.slice none 0 0, .bool false, .int .i64 0, .bool false] 24)) w.heap.size 24 #[.slice A0 m0 c, .bool y1, .int .i64 y2, .bool y3] := (Box.new w _ _).alloc _
  have hb : Below w.heap.size w ((w.alloc (.cells #[.slice A0 m0 c, .bool y1, .int .i64 y2, .bool y3] 24)).alloc (.cells #[.slice none 0 0, .bool false, .int .i64 0, .bool false] 24)) := ((Below.refl _ _).alloc (Nat.le_refl _) _).alloc (by simp) _
  have hs : ((w.alloc (.cells #[.slice A0 m0 c, .bool y1, .int .i64 y2, .bool y3] 24)).alloc (.cells #[.slice none 0 0, .bool false, .int .i64 0, .bool false] 24)).heap.size = w.heap.size + 2 := by simp
  have hin1 := hin.on hb
  have HH := Lib.hid (And.intro hX (And.intro hY (And.intro hb (And.intro hs hin1))))
  have HN := Lib.hid hn
  have hn8 : n ≤ 8 := by omega
  clear hX hY hb hs hin1 hin hn hps
  go_enter Try.func24, Try.ntmps24
  go_upto_region 1 with fail
  generalize (w.alloc (.cells #[.slice A0 m0 c, .bool y1, .int .i64 y2, .bool y3] 24)).alloc (.cells #[.slice none 0 0, .bool false, .int .i64 0, .bool false] 24) = W at *
  go_wp2_with fail
  go_loopw [5, 14] (fun u5 u14 wr => ∃ k : Nat, k ≤ n ∧ u14 = .int .i64 (k : Int) ∧ u5 = .int .i64 ((catL (ps.take k)).length : Int) ∧ wr = W) (fun _ u14 _ => n - (intOf u14).toNat)
  case atStart => exact ⟨0, Nat.zero_le _, rfl, rfl, by first | trivial | rfl⟩
  case round =>
    obtain ⟨k, hk, rfl, rfl, hwr⟩ := hrel
    subst wr
    by_cases hlt : k < n
    · have z1 : (k : Int) < (n : Int) := by omega
      obtain ⟨e, he⟩ : ∃ e, ps[k]? = some e := ⟨_, List.getElem?_eq_getElem (by have := HN.out; omega)⟩
      have hle := catL_le he
      have HT : Hid ((catL (ps.take (k + 1))).length = (catL (ps.take k)).length + e.l.length) := Lib.hid (by rw [catL_take he, List.length_append])
      obtain ⟨b, o, rfl, hB, k0⟩ := HH.out.2.2.2.2.at_ he
      clear he
      generalize (catL (ps.take k)).length = q at *
      generalize e.l.length = q2 at *
      go_wp2_with fail
      refine ⟨⟨k + 1, by omega, by go_num, ?_, by first | trivial | rfl⟩, by simp [intOf]; omega⟩
      rw [HT.out]
      simp
    · obtain rfl : k = n := by omega
      have z1 : ¬ (k : Int) < (k : Int) := by omega
      have e1 : ps.take k = ps := by rw [HN.out]; exact List.take_length
      rw [e1]
      clear e1
      have HL := Lib.hid hlen
      have hle := hlen
      clear hlen
      go_wp2_with (refine wpList_make_cells rfl _ _ rfl (w.heap.size + 2) (catL ps).length .i64 .i64 _ _ rfl rfl rfl rfl (by omega) (by have := HH.out.2.2.2.1; omega) ?_)
      intro w2 hown hbel
      have hsz := HH.out.2.2.2.1
      rw [hsz] at hown hbel ⊢
      have hg2 : w.heap.size + 2 < w2.heap.size := by
        rcases hown.2 with ⟨hv, _⟩ | ⟨g', _, _, hv, _, hg, _⟩
        · injection hv with hv; cases hv
        · injection hv with hv; injection hv with hv; injection hv with hv
          have := (Array.getElem?_eq_some_iff.1 hg).1
          omega
      have HM0 : Hid (CpM w w2 A0 m0 c y1 y2 y3 A ps 0) := Lib.hid ⟨HH.out.2.1.below hbel (by omega), HH.out.1.below hbel (by omega), by simpa [catL] using hown, HH.out.2.2.1.trans (hbel.mono (by omega)), by omega⟩
      have HG0 : Hid (Below (w.heap.size + 2) W w2) := Lib.hid hbel
      have HIN : Hid (W.heap.size = w.heap.size + 2 ∧ InN W A ps) := Lib.hid ⟨hsz, HH.out.2.2.2.2⟩
      clear hown hbel hg2 HH hsz
      clear hlt
      have HK := HN.out
      generalize hNT : (catL ps).length = nt at *
      have HNT := Lib.hid hNT
      clear hNT HK
      go_wp2_with fail
      go_loopw [9, 27] (fun u9 u27 wr => ∃ j : Nat, j ≤ k ∧ u27 = .int .i64 (j : Int) ∧ u9 = .int .i64 ((catL (ps.take j)).length : Int) ∧ Hid (CpM w wr A0 m0 c y1 y2 y3 A ps j) ∧ Hid (Below (w.heap.size + 2) W wr)) (fun _ u27 _ => k - (intOf u27).toNat)
      case atStart => exact ⟨0, Nat.zero_le _, rfl, rfl, HM0, HG0⟩
      case round =>
        obtain ⟨j, hj, rfl, rfl, HM, HG⟩ := hrel
        clear HM0 HG0
        have HI : Hid (InN wr A ps) := Lib.hid (HIN.out.2.on (by rw [HIN.out.1]; exact HG.out))
        by_cases hlt : j < k
        · have z2 : (j : Int) < (k : Int) := by omega
          obtain ⟨e, he⟩ : ∃ e, ps[j]? = some e := ⟨_, List.getElem?_eq_getElem (by have := HN.out; omega)⟩
          have hle2 := catL_le he
          rw [HNT.out] at hle2
          have HT : Hid ((catL (ps.take (j + 1))).length = (catL (ps.take j)).length + e.l.length) := Lib.hid (by rw [catL_take he, List.length_append])
          have HE : Hid (InC wr e.A e.c e.l) := Lib.hid (HI.out.ok e (List.mem_of_getElem? he))
          have hcc := copy_cat he
          have hl2 := cp_len (catL_take_le ps j)
          have ho := HM.out.own
          rw [HNT.out] at hcc hl2 ho
          obtain ⟨b, o, rfl, hB, k0⟩ := HI.out.at_ he
          obtain ⟨dp, hcut, hdp⟩ := cutC_dst (w.heap.size + 2) nt (catL (ps.take j)).length (by omega)
          clear he
          generalize hq : (catL (ps.take j)).length = q at *
          have HC := Lib.hid hcc
          have HL2 := Lib.hid hl2
          have HO := Lib.hid ho
          have HDP := Lib.hid hdp
          have hm : Nat.min e.l.length (nt - q) = e.l.length := Nat.min_eq_left (by omega)
          have HMIN := Lib.hid hm
          have hkk : 0 < e.l.length → q < nt := by omega
          have HKK := Lib.hid hkk
          have hcap2 := HI.out.ok
          clear hq hcc hl2 ho hdp hm hkk hcap2
          go_wp2_with (refine wpList_copy_cells rfl _ _ rfl (w.heap.size + 2) nt (w.heap.size + 2) _ HO.out q e.l.length dp (nt - q) (nt - q) rfl e.A e.c e.l _ rfl rfl HE.out HMIN.out (by rw [HL2.out]; omega) (fun h => HDP.out (HKK.out h)) ?_)
          intro w3 hown3 hO
          rw [HC.out] at hown3
          have hM1 : CpM w w3 A0 m0 c y1 y2 y3 (some ⟨b, o, none⟩) ps (j + 1) := by
            refine ⟨hO.box HM.out.b1 (by simp [Value.ownBlock]), hO.box HM.out.b2 (by simp [Value.ownBlock]), by rw [HNT.out]; exact hown3, HM.out.bl.trans (hO.belowBase HM.out.bl.size (by simp [Value.ownBlock])), ?_⟩
            have := hO.gr.size
            have := HM.out.gl
            omega
          have hG1 : Below (w.heap.size + 2) W w3 := HG.out.trans (hO.belowBase (by have := HM.out.gl; omega) (by simp [Value.ownBlock]))
          have HM1 := Lib.hid hM1
          have HG1 := Lib.hid hG1
          clear hM1 hG1 hown3 hO HM HI HO HDP hcut k0 hB HC HE HL2 HKK HMIN
          go_wp2_with fail
          refine ⟨⟨j + 1, by omega, by go_num, ?_, HM1, HG1⟩, by simp [intOf]; omega⟩
          rw [HT.out]
          simp
        · obtain rfl : j = k := by omega
          have z2 : ¬ (j : Int) < (j : Int) := by omega
          have e1 : ps.take j = ps := by rw [HN.out]; exact List.take_length
          have ho := HM.out.own
          rw [e1, Nat.sub_self, List.replicate_zero, List.append_nil, HNT.out] at ho
          have hmend := fun V => mend8_c (w.heap.size + 2) (w.heap.size + 2) nt (catL ps) nt HNT.out.symm V
          have hg := HM.out.gl
          have HX := Lib.hid (And.intro HM.out.b1 (And.intro HM.out.b2 HM.out.bl))
          have HME := Lib.hid (hmend wr ho hg)
          clear e1 ho hmend hg HM HI HG HIN
          go_wp2_with fail
          refine HME.out.mono ?_
          rintro e v1 ⟨rfl, hM⟩
          have hb1 := HX.out.1.below hM.bl (by omega)
          have hb2 := HX.out.2.1.below hM.bl (by omega)
          have hbl := HX.out.2.2.trans (hM.bl.mono (by omega))
          have hfin := hM.own
          rw [hyb_all] at hfin
          have HF := Lib.hid (And.intro hb1 (And.intro hb2 (And.intro hbl hfin)))
          have f0 : v1.frozen? ⟨w.heap.size, 0, none⟩ = false := hb1.free 0
          have k0 : v1.cell? ⟨w.heap.size, 0, none⟩ = some (.slice A0 m0 c) := hb1.cell 0
          clear hM hb1 hb2 hbl hfin HX HME
          go_upto_region 16 with fail
          have hY1 : Box (v1.setCell ⟨w.heap.size, 0, none⟩ (.slice (some ⟨w.heap.size + 2, 0, none⟩) nt nt)) w.heap.size 24 #[.slice (some ⟨w.heap.size + 2, 0, none⟩) nt nt, .bool y1, .int .i64 y2, .bool y3] := HF.out.1.set_ 0 _
          have hX1 : Box (v1.setCell ⟨w.heap.size, 0, none⟩ (.slice (some ⟨w.heap.size + 2, 0, none⟩) nt nt)) (w.heap.size + 1) 24 #[.slice none 0 0, .bool false, .int .i64 0, .bool false] := HF.out.2.1.far (p := ⟨w.heap.size, 0, none⟩) (by simp) _
          have hb1 : Below w.heap.size w (v1.setCell ⟨w.heap.size, 0, none⟩ (.slice (some ⟨w.heap.size + 2, 0, none⟩) nt nt)) := HF.out.2.2.1.setCell (p := ⟨w.heap.size, 0, none⟩) (Nat.le_refl _) _
          have ho1 : OwnC (v1.setCell ⟨w.heap.size, 0, none⟩ (.slice (some ⟨w.heap.size + 2, 0, none⟩) nt nt)) (w.heap.size + 2) (some ⟨w.heap.size + 2, 0, none⟩) nt (mendL (catL ps)) := by
            have h := HF.out.2.2.2
            unfold OwnC at h ⊢
            exact own_far h (p := ⟨w.heap.size, 0, none⟩) (by simp [Value.ownBlock]) _
          clear f0 k0 HF
          generalize v1.setCell ⟨w.heap.size, 0, none⟩ (.slice (some ⟨w.heap.size + 2, 0, none⟩) nt nt) = W1 at *
          obtain ⟨k0, k1, k2, k3⟩ : W1.cell? ⟨w.heap.size, 0, none⟩ = some (.slice (some ⟨w.heap.size + 2, 0, none⟩) nt nt) ∧ W1.cell? ⟨w.heap.size, 1, none⟩ = some (.bool y1) ∧ W1.cell? ⟨w.heap.size, 2, none⟩ = some (.int .i64 y2) ∧ W1.cell? ⟨w.heap.size, 3, none⟩ = some (.bool y3) := ⟨hY1.cell 0, hY1.cell 1, hY1.cell 2, hY1.cell 3⟩
          obtain ⟨f0, f1, f2, f3⟩ : W1.frozen? ⟨w.heap.size + 1, 0, none⟩ = false ∧ W1.frozen? ⟨w.heap.size + 1, 1, none⟩ = false ∧ W1.frozen? ⟨w.heap.size + 1, 2, none⟩ = false ∧ W1.frozen? ⟨w.heap.size + 1, 3, none⟩ = false := ⟨hX1.free 0, hX1.free 1, hX1.free 2, hX1.free 3⟩
          obtain ⟨j0, j1, j2, j3⟩ : W1.cell? ⟨w.heap.size + 1, 0, none⟩ = some (.slice none 0 0) ∧ W1.cell? ⟨w.heap.size + 1, 1, none⟩ = some (.bool false) ∧ W1.cell? ⟨w.heap.size + 1, 2, none⟩ = some (.int .i64 0) ∧ W1.cell? ⟨w.heap.size + 1, 3, none⟩ = some (.bool false) := ⟨hX1.cell 0, hX1.cell 1, hX1.cell 2, hX1.cell 3⟩
          have HE := Lib.hid (And.intro hX1 (And.intro hb1 ho1))
          clear hX1 hY1 hb1 ho1
          go_wp2_with fail
          have hp4 := HE.out.1.put4r HE.out.2.1 (Nat.le_succ _) (.slice (some ⟨w.heap.size + 2, 0, none⟩) nt nt) (.bool y1) (.int .i64 y2) (.bool y3)
          have hi4 := HE.out.2.2.in_.box4 HE.out.1 (own_ne HE.out.2.2 (by omega)) (.slice (some ⟨w.heap.size + 2, 0, none⟩) nt nt) (.bool y1) (.int .i64 y2) (.bool y3)
          have hml : (mendL (catL ps)).length = nt := by rw [mend_len]; exact HNT.out
          refine bodyPost_ret (ret8_rw rfl ⟨mendL (catL ps), y1, y2, y3⟩ (some ⟨w.heap.size + 2, 0, none⟩) nt _ _ (w.heap.size + 1) 24 rfl ?_) rfl ⟨_, _, rfl, hi4, hp4.2⟩
          unfold rwCells
          simp only [hml]
          exact hp4.1
end Go.Proofs.Ytflpelpgnjdnkaa
