/- tell and Pack, by their contracts. -/
import Derived.Test.YtgmcpmhpafcihaaWalk01c
import Derived.Test.YtgmcpmhpafcihaaMem01p
import Derived.Deep.AppendLies
namespace Go.Proofs.Ytgmcpmhpafcihaa
open Go Go.RowKit
set_option linter.unusedVariables false
set_option linter.unusedSimpArgs false

theorem infoByte : (Try.prog.info? 5).map (fun i => (i.zero, i.size, i.bytes)) = some (some (.int .u8 0), 1, 1) := by kernel_rfl

/-- What a call leaves that lays bytes behind v: a slice of its own with them. -/
def Told (base : Nat) (bytes : List Nat) (w : World) (v : Value) (e : Ending) (w' : World) : Prop := ∃ v' n', e = .returned v' ∧ w'.ownsRow base 5 1 v' n' (byteCells bytes) ∧ Own1 w w' v v'
theorem Told.mk {base : Nat} {bytes : List Nat} {w w' : World} {v v' : Value} {e : Ending} {n' : Nat} (h : e = .returned v') (h1 : w'.ownsRow base 5 1 v' n' (byteCells bytes)) (h2 : Own1 w w' v v') : Told base bytes w v e w' := ⟨v', n', h, h1, h2⟩
theorem newByte (w : World) (t : TypeId) (c : Int) : ∀ j u, ([Value.int .u8 c])[j]? = some u → (w.alloc (.cells #[.int .u8 c] t)).cell? ((⟨w.heap.size, 0, none⟩ : Addr).add j) = some u := by
  intro j u hj
  match j, hj with
  | 0, hj => simp at hj; subst hj; simp [Addr.add]
theorem byte_one (c : Int) : ∀ u ∈ [Value.int .u8 c], u.oneCell' = true := by intro u hu; simp at hu; subst hu; rfl
def numsOf (ns : List Nat) : List Nat := ns.flatMap num
theorem numsOf_snoc (ns : List Nat) (n : Nat) : numsOf (ns ++ [n]) = numsOf ns ++ num n := by simp [numsOf]
theorem numsOf_len (ns : List Nat) : (numsOf ns).length ≤ ns.length * 3 := by
  induction ns with
  | nil => simp [numsOf]
  | cons n ns ih => have := (num_len n).2; simp [numsOf] at ih ⊢; omega

set_option maxRecDepth 100000 in
set_option maxHeartbeats 4000000 in
theorem tell_c (base : Nat) (v : Value) (n : Nat) (out ns : List Nat) (Y c : Nat) (w : World) (hown : w.ownsRow base 5 1 v n (byteCells out)) (hbase : base ≤ w.heap.size) (hY : Y < w.heap.size) (hvY : v.ownBlock ≠ some Y) (hc : ∀ (k q : Nat), ns[k]? = some q → w.cell? ⟨Y, k, none⟩ = some (.int .i64 (q : Int)))
    (hb : ∀ q ∈ ns, q < 2097152) (hl : ns.length ≤ 100) (ho : out.length ≤ 100000) :
    Calls Try.prog 22 #[v, .slice (some ⟨Y, 0, none⟩) ns.length c] w (Told base (out ++ numsOf ns) w v) := by
  obtain ⟨i0, hi, hz0, hz1, hz2⟩ := info_parts infoByte
  go_enter Try.func22, Try.ntmps22
  go_wp2
  go_loopw [0, 9] (fun vj i wr => ∃ (j nj : Nat), j ≤ ns.length ∧ i = .int .i64 j ∧ wr.ownsRow base 5 1 vj nj (byteCells (out ++ numsOf (ns.take j))) ∧ Own1 w wr v vj) (fun _ i _ => ns.length - (intOf i).toNat)
  case atStart => exact ⟨0, n, Nat.zero_le _, rfl, by simpa [numsOf] using hown, Own1.refl _ _⟩
  case round =>
    obtain ⟨j, nj, hj, rfl, hownj, hO⟩ := hrel
    by_cases hlt : j < ns.length
    · have hg : ns[j]? = some ns[j] := List.getElem?_eq_getElem hlt
      have hqb := hb ns[j] (List.getElem_mem hlt)
      generalize ns[j] = q at *
      have h1 : wr.cell? ⟨Y, j, none⟩ = some (.int .i64 (q : Int)) := (World.cell?_of_block (hO.gr.block Y hY (fun e => hvY e.symm))).trans (hc j q hg)
      have hs : numsOf (ns.take (j + 1)) = numsOf (ns.take j) ++ num q := by rw [take_snoc hg, numsOf_snoc]
      have HS := Lib.hid hs
      have hlen := numsOf_len (ns.take j)
      have hlen2 : (numsOf (ns.take j)).length ≤ 300 := by rw [List.length_take] at hlen; omega
      clear hs hg hlen
      obtain ⟨wo, rfl⟩ : ∃ wo : World, wo = wr := ⟨_, rfl⟩
      generalize numsOf (ns.take j) = done at *
      go_wp2
      go_loopw [0, 6] (fun vq i wr => ∃ (p nq : Nat) (dn : List Nat), i = .int .i64 p ∧ p < 2097152 ∧ num q = dn ++ num p ∧ wr.ownsRow base 5 1 vq nq (byteCells ((out ++ done) ++ dn)) ∧ Own1 w wr v vq) (fun _ i _ => (intOf i).toNat)
      case atStart => exact ⟨q, nj, [], rfl, hqb, rfl, by rw [List.append_nil]; exact hownj, hO⟩
      case round =>
        obtain ⟨p, nq, dn, rfl, hp, hnum, hownq, hOq⟩ := hrel
        have HN := Lib.hid hnum
        have hnl := (num_len q).2
        have hdl : dn.length ≤ 3 := by rw [hnum, List.length_append] at hnl; omega
        have hnq := own_len1 hownq
        have hnq2 : nq ≤ 200000 := by rw [hnq]; simp; omega
        clear hnum hnl hnq
        by_cases hge : 128 ≤ p
        · have hst : num p = (p % 128 + 128) :: num (p / 128) := num_step hge hp
          have HST := Lib.hid hst
          clear hst
          go_wp2_with (at_builtin; refine wpList_append_lies _ rfl _ _ 23 rfl base 5 i0 _ 1 1 Try.underlying23 hi hz0 hz1 hz2 rfl (by decide) _ _ _ rfl (hownq.alloc _) ⟨wr.heap.size, 0, none⟩ 1 1 [.int .u8 ((p : Int) % 128 + 128)] rfl rfl (newByte wr 5 _) (byte_one _) (by decide) (by unfold maxLen; omega) (by omega) (by have := hOq.gr.size; simp; omega) (wr.heap.size + 1) (by simp) ?_)
          intro g cap w2 hown2 hgrow hat hlt2
          have hown3 : w2.ownsRow base 5 1 (.slice (some ⟨g, 0, none⟩) (nq + 1) cap) (nq + 1) (byteCells ((out ++ done) ++ (dn ++ [p % 128 + 128]))) := by
            have e : byteCells ((out ++ done) ++ (dn ++ [p % 128 + 128])) = byteCells (out ++ (done ++ dn)) ++ [Value.int .u8 ((p : Int) % 128 + 128)] := by
              rw [← List.append_assoc, byteCells_snoc, List.append_assoc]; rfl
            rw [e]; exact hown2
          have hO2 := hOq.trans ((Own1.below ((Below.refl wr.heap.size wr).alloc (Nat.le_refl _) (.cells #[.int .u8 ((p : Int) % 128 + 128)] 5))).trans (Own1.grown hgrow (v' := .slice (some ⟨g, 0, none⟩) (nq + 1) cap) (by
            rcases hat with h | h
            · exact .inl h
            · right; intro g' hg'; simp [Value.ownBlock] at hg'; subst hg'; simp; omega)))
          clear hown2 hgrow hat hlt2
          go_wp2
          exact ⟨⟨p / 128, nq + 1, dn ++ [p % 128 + 128], congrArg _ (by omega), by omega, by rw [HN.out, HST.out]; simp, hown3, hO2⟩, by simp [intOf]; omega⟩
        · have hst : num p = [p] := num_small (by omega)
          have HST := Lib.hid hst
          clear hst
          go_wp2_with (at_builtin; refine wpList_append_lies _ rfl _ _ 23 rfl base 5 i0 _ 1 1 Try.underlying23 hi hz0 hz1 hz2 rfl (by decide) _ _ _ rfl (hownq.alloc _) ⟨wr.heap.size, 0, none⟩ 1 1 [.int .u8 (p : Int)] rfl rfl (newByte wr 5 _) (byte_one _) (by decide) (by unfold maxLen; omega) (by omega) (by have := hOq.gr.size; simp; omega) (wr.heap.size + 1) (by simp) ?_)
          intro g cap w2 hown2 hgrow hat hlt2
          have hown3 : w2.ownsRow base 5 1 (.slice (some ⟨g, 0, none⟩) (nq + 1) cap) (nq + 1) (byteCells (out ++ numsOf (ns.take (j + 1)))) := by
            have e : byteCells (out ++ numsOf (ns.take (j + 1))) = byteCells (out ++ (done ++ dn)) ++ [Value.int .u8 (p : Int)] := by
              rw [HS.out, HN.out, HST.out, ← List.append_assoc done, ← List.append_assoc, byteCells_snoc]
            rw [e]; exact hown2
          have hO2 := hOq.trans ((Own1.below ((Below.refl wr.heap.size wr).alloc (Nat.le_refl _) (.cells #[.int .u8 (p : Int)] 5))).trans (Own1.grown hgrow (v' := .slice (some ⟨g, 0, none⟩) (nq + 1) cap) (by
            rcases hat with h | h
            · exact .inl h
            · right; intro g' hg'; simp [Value.ownBlock] at hg'; subst hg'; simp; omega)))
          clear hown2 hgrow hat hlt2
          go_wp2
          exact ⟨⟨j + 1, nq + 1, by omega, by go_num, hown3, hO2⟩, by simp [intOf]; omega⟩
    · have hjn : ns.take j = ns := List.take_of_length_le (by omega)
      rw [hjn] at hownj
      clear hjn
      go_wp2
      go_ret
      exact Told.mk rfl hownj hO

theorem own_block {w : World} {base : Nat} {e : TypeId} {size : Nat} {v : Value} {n : Nat} {xs : List Value} (h : w.ownsRow base e size v n xs) {g : Nat} (hg : v.ownBlock = some g) : base ≤ g ∧ g < w.heap.size := by
  obtain ⟨_, h⟩ := h
  rcases h with ⟨rfl, _⟩ | ⟨g', cap, cur, rfl, h1, h2, _⟩
  · simp [Value.ownBlock] at hg
  · simp [Value.ownBlock] at hg; subst hg; exact ⟨h1, (Array.getElem?_eq_some_iff.1 h2).1⟩
theorem lastHi_snoc' (last : Int) (l : List R3) (x : R3) : lastHi last (l ++ [x]) = x.hi := by simp [lastHi]
theorem packRow_nums (last : Int) (x : R3) : packRow last x = numsOf [(x.lo - last).toNat, (x.hi - x.lo).toNat, x.v.toNat] := by simp [packRow, numsOf]

set_option maxRecDepth 100000 in
set_option maxHeartbeats 4000000 in
theorem pack_c (A : Option Addr) (l : List R3) (c : Nat) (w : World) (h : Tab w w.heap.size A l) (hs : saneF l = true) :
    Calls Try.prog 11 #[.agg #[.slice A l.length c]] w fun e w' => ∃ A' c', e = .returned (.tuple #[.slice A' (packF 0 l).length c', .int .i64 0]) ∧ w'.ownsRow w.heap.size 5 1 (.slice A' (packF 0 l).length c') (packF 0 l).length (byteCells (packF 0 l)) ∧ Below w.heap.size w w' := by
  obtain ⟨hl4, hri, _⟩ := sane_parts hs
  have HRI := Lib.hid hri
  have HS := Lib.hid hs
  clear hri hs
  go_enter Try.func11, Try.ntmps11
  go_wp2_with fail
  have hx1 := Box.new w 27 #[.slice A l.length c]
  have hb0 : Below w.heap.size w (w.alloc (.cells #[.slice A l.length c] 27)) := (Below.refl _ _).alloc (Nat.le_refl _) _
  refine (sane_c A l c _ (by unfold maxLen; omega) ((h.below hb0).more hb0.size) true HS.out).mono ?_
  rintro e w1 ⟨rfl, hz⟩
  replace hx1 := hx1.below hz (by simp)
  have hb1 := hb0.trans (hz.mono hb0.size)
  have hc1 : w1.cell? ⟨w.heap.size, 0, none⟩ = some (.slice A l.length c) := hx1.cell 0
  clear hz hb0
  go_wp2_with fail
  go_loopw [4, 5, 14] (fun vb la i wr => ∃ (j n : Nat), j ≤ l.length ∧ i = .int .i64 j ∧ la = .int .i64 (lastHi 0 (l.take j)) ∧ wr.ownsRow w.heap.size 5 1 vb n (byteCells (packF 0 (l.take j))) ∧ Below w.heap.size w wr) (fun _ _ i _ => l.length - (intOf i).toNat)
  case atStart => exact ⟨0, 0, Nat.zero_le _, rfl, rfl, World.ownsRow_nil _ _ _ _, hb1⟩
  case round =>
    obtain ⟨j, n, hj, rfl, rfl, hown, hbel⟩ := hrel
    by_cases hlt : j < l.length
    · have hg : l[j]? = some l[j] := List.getElem?_eq_getElem hlt
      generalize l[j] = x at *
      obtain ⟨b, o, rfl, hb, h0⟩ := h.at_ hg
      obtain ⟨h1, h2, h3⟩ := h0.below hbel hb
      have hs1 : packF 0 (l.take (j + 1)) = packF 0 (l.take j) ++ packRow (lastHi 0 (l.take j)) x := by rw [take_snoc hg, packF_snoc]
      have hs2 : lastHi 0 (l.take (j + 1)) = x.hi := by rw [take_snoc hg, lastHi_snoc']
      have hlen := packF_len 0 (l.take j)
      have hlen2 : (packF 0 (l.take j)).length ≤ 40000 := by rw [List.length_take] at hlen; omega
      have hlo : 0 ≤ lastHi 0 (l.take j) ∧ lastHi 0 (l.take j) ≤ x.lo := by
        have hr := rise_take HRI.out (j + 1)
        rw [take_snoc hg, rise_snoc, Bool.and_eq_true, okb_iff] at hr
        have hge := lastHi_ge hr.1
        unfold lastHi at hge hr ⊢
        cases hq : (l.take j).getLast? with
        | none => rw [hq] at hr hge; simp at hr ⊢; omega
        | some y =>
          obtain ⟨k, hk⟩ := List.mem_iff_getElem?.1 (List.mem_of_getLast? hq)
          have h3 := rise_ok hr.1 hk
          rw [hq] at hr hge; simp at hr ⊢; omega
      obtain ⟨hlo1, hlo2⟩ := hlo
      obtain ⟨_, hx2, hx3, hx4, hx5⟩ := rise_ok HRI.out hg
      have HS1 := Lib.hid hs1
      have HS2 := Lib.hid hs2
      clear hs1 hs2 hg h0 h hlen hc1
      generalize lastHi 0 (l.take j) = last at *
      generalize packF 0 (l.take j) = done at *
      obtain ⟨p1, hp1⟩ : ∃ p : Nat, x.lo - last = (p : Int) := ⟨(x.lo - last).toNat, by omega⟩
      obtain ⟨p2, hp2⟩ : ∃ p : Nat, x.hi - x.lo = (p : Int) := ⟨(x.hi - x.lo).toNat, by omega⟩
      obtain ⟨p3, hp3⟩ : ∃ p : Nat, x.v = (p : Int) := ⟨x.v.toNat, by omega⟩
      have hrow : packRow last x = numsOf [p1, p2, p3] := by rw [packRow_nums, show (x.lo - last).toNat = p1 by omega, show (x.hi - x.lo).toNat = p2 by omega, show x.v.toNat = p3 by omega]
      have HROW := Lib.hid hrow
      have hpb : ∀ q ∈ [p1, p2, p3], q < 2097152 := by intro q hq; simp at hq; omega
      clear hrow
      go_wp2_with fail
      have hxR := Box.new wr 47 #[.int .i64 x.lo, .int .i64 x.hi, .int .i64 (p3 : Int)]
      have hown2 := (hown.alloc (.cells #[.int .i64 x.lo, .int .i64 x.hi, .int .i64 (p3 : Int)] 47)).alloc (.cells #[.int .i64 (p1 : Int), .int .i64 (p2 : Int), .int .i64 (p3 : Int)] 3)
      have hxN := Box.new (wr.alloc (.cells #[.int .i64 x.lo, .int .i64 x.hi, .int .i64 (p3 : Int)] 47)) 3 #[.int .i64 (p1 : Int), .int .i64 (p2 : Int), .int .i64 (p3 : Int)]
      replace hxR := hxR.alloc (.cells #[.int .i64 (p1 : Int), .int .i64 (p2 : Int), .int .i64 (p3 : Int)] 3)
      have hbel2 := (hbel.alloc hbel.size (.cells #[.int .i64 x.lo, .int .i64 x.hi, .int .i64 (p3 : Int)] 47))
      replace hbel2 := hbel2.alloc hbel2.size (.cells #[.int .i64 (p1 : Int), .int .i64 (p2 : Int), .int .i64 (p3 : Int)] 3)
      have hsz2 : ((wr.alloc (.cells #[.int .i64 x.lo, .int .i64 x.hi, .int .i64 (p3 : Int)] 47)).alloc (.cells #[.int .i64 (p1 : Int), .int .i64 (p2 : Int), .int .i64 (p3 : Int)] 3)).heap.size = wr.heap.size + 2 := by simp
      have hne : ∀ g, wr.heap.size ≤ g → (u4 : Value).ownBlock ≠ some g := by intro g hg he; have := (own_block hown he).2; omega
      have hge4 : ∀ g, (u4 : Value).ownBlock = some g → w.heap.size ≤ g := fun g hg => (own_block hown hg).1
      refine (tell_c w.heap.size u4 n done [p1, p2, p3] (wr.heap.size + 1) 3 _ hown2 hbel2.size (by rw [hsz2]; omega) (hne _ (by omega)) (by
        intro k q hk
        have hxk := hxN.cell k
        have hsz1 : (wr.alloc (.cells #[.int .i64 x.lo, .int .i64 x.hi, .int .i64 (p3 : Int)] 47)).heap.size = wr.heap.size + 1 := by simp
        rw [hsz1] at hxk
        rw [hxk]
        match k, hk with
        | 0, hk => simp at hk; subst hk; rfl
        | 1, hk => simp at hk; subst hk; rfl
        | 2, hk => simp at hk; subst hk; rfl) hpb (by simp) (by omega)).mono ?_
      rintro e w2 ⟨v2, n2, rfl, hown3, hO⟩
      replace hxR := hO.box hxR (hne _ (by simp))
      have hbel3 := hbel2.trans (hO.belowBase hbel2.size hge4)
      have hch : w2.cell? ⟨wr.heap.size, 1, none⟩ = some (.int .i64 x.hi) := hxR.cell 1
      clear hxR hxN hown2 hown hO hne hge4 hbel2 hsz2 hpb
      have e3 : packF 0 (l.take (j + 1)) = done ++ numsOf [p1, p2, p3] := by rw [HS1.out, HROW.out]
      rw [← e3] at hown3
      go_wp2_with fail
      exact ⟨⟨j + 1, n2, by omega, by go_num, by rw [HS2.out], hown3, hbel3⟩, by simp [intOf]; omega⟩
    · have hjn : l.take j = l := List.take_of_length_le (by omega)
      rw [hjn] at hown
      have hnl := own_len1 hown
      subst hnl
      obtain ⟨A', c', rfl, _, _⟩ := own_form1 hown
      clear hjn hc1
      go_wp2
      go_ret2
      exact ⟨A', c', rfl, hown, hbel⟩
end Go.Proofs.Ytgmcpmhpafcihaa
