/- Print: parameters as a text. -/
import Derived.Test.YtiaippdaogmcmaaDoorP5Bld
import Derived.Test.YtiaippdaogmcmaaDoorItoa05
namespace Go.Proofs.YtiaippdaogmcmaaDoor
open Go Go.RowKit
set_option linter.unusedVariables false
set_option linter.unusedSimpArgs false

theorem num_lt (n : Int) : ∀ c ∈ numP n, c < 256 := by
  intro c hc
  unfold numP at hc
  split at hc
  · simp at hc
  · obtain ⟨x, _, rfl⟩ := List.mem_map.1 hc
    exact x.toNat_lt
theorem join_lt {α : Type} (sep : Nat) (f : α → List Nat) (hs : sep < 256) (l : List α) (h : ∀ x ∈ l, ∀ c ∈ f x, c < 256) : ∀ c ∈ joinP sep f l, c < 256 := by
  cases l with
  | nil => simp [joinP]
  | cons x l =>
    intro c hc
    unfold joinP at hc
    rcases List.mem_append.1 hc with hc | hc
    · exact h x (by simp) c hc
    · obtain ⟨y, hy, hc⟩ := List.mem_flatMap.1 hc
      rcases List.mem_cons.1 hc with rfl | hc
      · exact hs
      · exact h y (by simp [hy]) c hc
theorem print_lt (l : List (List Int)) : ∀ c ∈ printP l, c < 256 := join_lt 59 oneP (by decide) l fun q _ => join_lt 58 numP (by decide) q fun n _ => num_lt n
theorem strCells_strS {l : List Nat} (h : ∀ c ∈ l, c < 256) : Lib.strCells (strS l) = l.map byteV := by
  unfold Lib.strCells strS byteV
  simp only [List.map_map]
  refine List.map_congr_left fun c hc => ?_
  have := h c hc
  simp
  omega
theorem byteCells_of {l : List Nat} (h : ∀ c ∈ l, c < 256) : l.map byteV = Lib.byteCells (l.map UInt8.ofNat) := by
  unfold Lib.byteCells byteV
  rw [List.map_map]
  refine List.map_congr_left fun c hc => ?_
  have := h c hc
  simp
  omega
theorem bAt_below {T e : TypeId} {B b : Nat} {p : Value} {bs : List Value} {w w' : World} (h : Lib.BuilderAt T e B b p bs w) (hb : Below w.heap.size w w') : Lib.BuilderAt T e B b p bs w' := by
  obtain ⟨h1, v, h2, h3, h4⟩ := h
  exact ⟨h1, v, (hb.block b (Array.getElem?_eq_some_iff.1 h2).1).trans h2, own_below h3 hb, h4⟩
theorem isB_below {T e : TypeId} {B b : Nat} {bs : List Value} {w w' : World} (h : Lib.IsBuilder T e B b bs w) (hb : Below w.heap.size w w') : Lib.IsBuilder T e B b bs w' :=
  h.imp (fun k => bAt_below k hb) (fun k => bAt_below k hb)
/-- The builder at B holds a text. -/
structure Bd (w0 w : World) (B : Nat) (t : List Nat) : Prop where
  is_ : Lib.IsBuilder 65 5 B B (t.map byteV) w
  bel : Below w0.heap.size w0 w
  at_ : w0.heap.size = B
  lt : B < w.heap.size
theorem Bd.byte {w0 w : World} {B : Nat} {t : List Nat} (h : Bd w0 w B t) (c : Nat) (hl : t.length ≤ 100000) : Calls Tryd.prog 25 #[.pointer (some ⟨B, 0, none⟩), .int .u8 (c : Int)] w fun e w' => e = .returned .nilIface ∧ Bd w0 w' B (t ++ [c]) := by
  refine (wb_c B B (t.map byteV) c w h.is_ (by simp; omega) (Nat.le_of_lt h.lt)).mono ?_
  rintro e w' ⟨rfl, h1, h2⟩
  refine ⟨rfl, .inr (by simpa [byteV] using h1), h.bel.trans (by rw [h.at_]; exact h2), h.at_, Nat.lt_of_lt_of_le h.lt h2.size⟩
theorem Bd.text {w0 w : World} {B : Nat} {t : List Nat} (h : Bd w0 w B t) (s : List Nat) (hs : ∀ c ∈ s, c < 256) (hl : t.length + s.length ≤ 100000) : Calls Tryd.prog 26 #[.pointer (some ⟨B, 0, none⟩), .string (strS s)] w fun e w' => e = .returned (.tuple #[.int .i64 (strS s).size, .nilIface]) ∧ Bd w0 w' B (t ++ s) := by
  refine (ws_c B B (t.map byteV) (strS s) w h.is_ (by rw [strS_size]; simp; omega) (Nat.le_of_lt h.lt)).mono ?_
  rintro e w' ⟨rfl, h1, h2⟩
  rw [strCells_strS hs] at h1
  refine ⟨rfl, .inr (by simpa using h1), h.bel.trans (by rw [h.at_]; exact h2), h.at_, Nat.lt_of_lt_of_le h.lt h2.size⟩
theorem Bd.tell {w0 w : World} {B : Nat} {t : List Nat} (h : Bd w0 w B t) (ht : ∀ c ∈ t, c < 256) : Calls Tryd.prog 28 #[.pointer (some ⟨B, 0, none⟩)] w fun e w' => e = .returned (.string (strS t)) ∧ Below w0.heap.size w0 w' := by
  have hi := h.is_
  rw [byteCells_of ht] at hi
  refine (st_c B B _ w hi (Nat.le_of_lt h.lt)).mono ?_
  rintro e w' ⟨rfl, h2⟩
  exact ⟨rfl, h.bel.trans (by rw [h.at_]; exact h2)⟩
set_option maxRecDepth 100000 in
set_option maxHeartbeats 4000000 in
theorem print_c : PrintC := by
  intro A c es w hin hz hP
  have h := hin.nest
  have hm : es.length ≤ 30 := by rw [← qs_length]; exact hz.few
  have hg := hP.size
  have hb0 : Bd w (w.alloc (.cells #[.pointer none, .slice none 0 0] 65)) w.heap.size (printP ((qs es).take 0)) := ⟨Lib.fresh_isBuilder 65 5 w, (Below.refl _ _).alloc (Nat.le_refl _) _, rfl, by simp⟩
  clear hin
  go_enter Tryd.func20, Tryd.ntmps20
  go_wp2_with fail
  go_loopw [10] (fun u10 wr => ∃ k : Nat, k ≤ es.length ∧ u10 = .int .i64 (k : Int) ∧ Bd w wr w.heap.size (printP ((qs es).take k))) (fun u10 _ => es.length - (intOf u10).toNat)
  case atStart => exact ⟨0, by omega, rfl, hb0⟩
  case round =>
    obtain ⟨k, hk, rfl, hbd⟩ := hrel
    by_cases hlt : k < es.length
    · have g1 : es[k]? = some es[k] := List.getElem?_eq_getElem hlt
      generalize es[k] = e1 at g1
      obtain ⟨eA, ec, q⟩ := e1
      obtain ⟨b1, o1, rfl, hb1, d1, ok1⟩ := (h.on hbd.bel).at_ g1
      have q1 : (qs es)[k]? = some q := qs_at g1
      simp only at d1
      obtain ⟨hml, hI⟩ := hz.each q (List.mem_of_getElem? q1)
      have z1 : (k : Int) < (es.length : Int) := by omega
      have HI : Hid (∀ n ∈ q, I64 n) := Lib.hid hI
      have G1 := Lib.hid g1
      have hs1 : (printP ((qs es).take k)).length ≤ 14000 := (hz.take k).print
      have hs2 : (preP ((qs es).take k)).length ≤ 14001 := (hz.take k).pre
      have HS : Hid (if k = 0 then printP ((qs es).take k) = preP ((qs es).take k) else printP ((qs es).take k) ++ [59] = preP ((qs es).take k)) := Lib.hid (by
        split
        · rename_i h0; subst h0; rfl
        · unfold preP
          rw [if_neg (take_ne (by omega) (by rw [qs_length]; omega))])
      have HN : Hid (∀ j n, q[j]? = some n → preO (q.take j) ++ numP n = oneP (q.take (j + 1))) := Lib.hid (by
        intro j n hj
        rw [take_snoc hj, one_snoc]
        rfl)
      have HO : Hid (preP ((qs es).take k) ++ oneP (q.take q.length) = printP ((qs es).take (k + 1))) := Lib.hid (by
        rw [take_snoc q1, print_snoc, List.take_length]
        rfl)
      generalize printP ((qs es).take k) = S1 at *
      generalize preP ((qs es).take k) = S2 at *
      have hby := hbd.byte 59 (by omega)
      have HB := Lib.hid hbd
      clear g1 q1 ok1 hbd hb0
      go_upto_if 16 with fail
      go_cut [17] (fun u wx => Bd w wx w.heap.size S2)
      case first =>
        by_cases hk0 : k = 0
        · have zk : ¬ (k : Int) > 0 := by omega
          have hs := HS.out
          rw [if_pos hk0] at hs
          have HS' := Lib.hid hs
          clear hs hk0 hby
          go_wp2_with fail
          go_meet
          rw [← HS'.out]
          exact HB.out
        · have zk : (k : Int) > 0 := by omega
          have hs := HS.out
          rw [if_neg hk0] at hs
          rw [hs] at hby
          clear hs hk0
          go_wp2_with fail
          refine hby.mono ?_
          rintro e wx ⟨rfl, hbx⟩
          have HX := Lib.hid hbx
          clear hby hbx
          go_wp2_with fail
          go_meet
          exact HX.out
      case rest =>
        have hbc := hcut
        clear hby HB HS hs1
        have d1 := (h.on hbc.bel).at_ G1.out
        obtain ⟨b1', o1', e, l1, d1, ok1⟩ := d1
        simp only at d1
        injection e with e; injection e with e3 e4; subst e3; subst e4
        go_wp2_with fail
        go_loopw [20] (fun u20 wr2 => ∃ j : Nat, j ≤ q.length ∧ u20 = .int .i64 (j : Int) ∧ Bd w wr2 w.heap.size (S2 ++ oneP (q.take j))) (fun u20 _ => q.length - (intOf u20).toNat)
        case atStart => exact ⟨0, by omega, rfl, by simpa [oneP, joinP] using hbc⟩
        case round =>
          obtain ⟨j, hj, rfl, hbd⟩ := hrel
          obtain ⟨b1', o1', e, l1', d1', ok1'⟩ := (h.on hbd.bel).at_ G1.out
          injection e with e; injection e with e3 e4; subst e3; subst e4
          simp only at d1'
          clear d1 ok1
          by_cases hjl : j < q.length
          · have x1 : q[j]? = some q[j] := List.getElem?_eq_getElem hjl
            generalize q[j] = n1 at x1
            obtain ⟨b3, o3, ha3, l3, y1⟩ := ok1'.rd.at_ (k := j) (x := n1) x1
            unfold intV at y1
            simp only at ha3
            subst ha3
            have zj : (j : Int) < (q.length : Int) := by omega
            have hI1 : I64 n1 := HI.out n1 (List.mem_of_getElem? x1)
            have hq1 : (oneP (q.take j)).length ≤ 440 := size_one (by rw [List.length_take]; omega) (fun n hn => HI.out n (List.mem_of_mem_take hn))
            have hq2 : (preO (q.take j)).length ≤ 441 := by
              unfold preO
              split
              · simp
              · simp; omega
            have hq3 : (numP n1).length ≤ 21 := len_num hI1
            have HJ : Hid (if j = 0 then oneP (q.take j) = preO (q.take j) else oneP (q.take j) ++ [58] = preO (q.take j)) := Lib.hid (by
              split
              · rename_i h0; subst h0; rfl
              · unfold preO
                rw [if_neg (take_ne (by omega) (by omega))])
            have HM : Hid (S2 ++ preO (q.take j) ++ numP n1 = S2 ++ oneP (q.take (j + 1))) := Lib.hid (by rw [List.append_assoc, HN.out j n1 x1])
            have hlen1 : (S2 ++ oneP (q.take j)).length ≤ 20000 := by rw [List.length_append]; omega
            have hlen2 : (S2 ++ preO (q.take j)).length ≤ 20000 := by rw [List.length_append]; omega
            generalize oneP (q.take j) = T1 at *
            generalize preO (q.take j) = T2 at *
            have hby := hbd.byte 58 (by omega)
            have HB := Lib.hid hbd
            clear x1 ok1' hbd hbc hcut
            go_upto_if 26 with fail
            go_cut [27] (fun u wx => Bd w wx w.heap.size (S2 ++ T2))
            case first =>
              by_cases hj0 : j = 0
              · have zk : ¬ (j : Int) > 0 := by omega
                have hs := HJ.out
                rw [if_pos hj0] at hs
                have HS' := Lib.hid hs
                clear hs hj0 hby
                go_wp2_with fail
                go_meet
                rw [← HS'.out]
                exact HB.out
              · have zk : (j : Int) > 0 := by omega
                have hs := HJ.out
                rw [if_neg hj0] at hs
                rw [List.append_assoc, hs] at hby
                clear hs hj0
                go_wp2_with fail
                refine hby.mono ?_
                rintro e wx ⟨rfl, hbx⟩
                have HX := Lib.hid hbx
                clear hby hbx
                go_wp2_with fail
                go_meet
                exact HX.out
            case rest =>
              clear hby HB
              by_cases hn1 : n1 = -1
              · have hnb : (n1 != -1) = false := by simp [hn1]
                have hE : S2 ++ T2 = S2 ++ oneP (q.take (j + 1)) := by
                  rw [← HM.out, hn1]; simp [numP]
                have HE := Lib.hid (by rw [← hE]; exact hcut : Bd w wc w.heap.size (S2 ++ oneP (q.take (j + 1))))
                clear hn1 hE hcut
                go_wp2_with fail
                exact ⟨⟨j + 1, by omega, by go_num, HE.out⟩, by simp [intOf]; omega⟩
              · have hnb : (n1 != -1) = true := by simp [hn1]
                have hic := itoa_c n1 hI1 hn1 wc (hP.below hcut.bel hg)
                have HC := Lib.hid hcut
                clear hn1 hcut
                go_wp2_with fail
                refine hic.mono ?_
                rintro e wx ⟨rfl, hb3⟩
                have hc := HC.out
                have hbx : Bd w wx w.heap.size (S2 ++ T2) := ⟨isB_below hc.is_ hb3, hc.bel.trans (hb3.mono hc.bel.size), rfl, Nat.lt_of_lt_of_le hc.lt hb3.size⟩
                have ht := hbx.text (numP n1) (num_lt n1) (by omega)
                rw [HM.out] at ht
                clear hic hb3 hbx hc
                go_wp2_with fail
                refine ht.mono ?_
                rintro e w5 ⟨rfl, hbf⟩
                have HF := Lib.hid hbf
                clear ht hbf
                go_wp2_with fail
                exact ⟨⟨j + 1, by omega, by go_num, HF.out⟩, by simp [intOf]; omega⟩
          · obtain rfl : j = q.length := by omega
            have zj : ¬ (q.length : Int) < (q.length : Int) := by omega
            rw [HO.out] at hbd
            have HF := Lib.hid hbd
            clear hbd d1' hbc hcut
            go_wp2_with fail
            exact ⟨⟨k + 1, by omega, by go_num, HF.out⟩, by simp [intOf]; omega⟩
    · obtain rfl : k = es.length := by omega
      have z1 : ¬ (es.length : Int) < (es.length : Int) := by omega
      have hr : (qs es).take es.length = qs es := by rw [← qs_length, List.take_length]
      rw [hr] at hbd
      have ht := hbd.tell (print_lt _)
      clear hr hbd
      go_wp2_with fail
      refine ht.mono ?_
      rintro e w2 ⟨rfl, hb2⟩
      clear ht
      go_wp2_with fail
      go_ret
      exact ⟨rfl, hb2⟩
end Go.Proofs.YtiaippdaogmcmaaDoor
