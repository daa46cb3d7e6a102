/- ParseText, walked over the contracts. -/
import Derived.Test.YtiaippdaogmcmaaDoorAwake06
namespace Go.Proofs.YtiaippdaogmcmaaDoor
open Go Go.RowKit
set_option linter.unusedVariables false
set_option linter.unusedSimpArgs false

theorem one_act {l : List AcE} {x : A6} (h : acts l = [x]) : ∃ a, l = [a] ∧ a.plain = x := by
  have hl : l.length = 1 := by rw [← acts_len, h]; rfl
  match l, hl with
  | [a], _ => exact ⟨a, rfl, by simpa [acts] using h⟩
theorem two_acts {l : List AcE} {x y : A6} (h : acts l = [x, y]) : ∃ a b, l = [a, b] ∧ a.plain = x ∧ b.plain = y := by
  have hl : l.length = 2 := by rw [← acts_len, h]; rfl
  match l, hl with
  | [a, b], _ => exact ⟨a, b, rfl, by simpa [acts] using h⟩
theorem str_refl (T : ByteArray) : (T == T) = true := by
  show (T.data == T.data) = true
  exact beq_self_eq_true _
theorem strS_take (bs : List Nat) (n : Nat) : (strS bs).extract 0 n = strS (bs.take n) := by
  apply ByteArray.ext
  unfold strS
  simp [ByteArray.data_extract]
set_option maxRecDepth 100000 in
set_option maxHeartbeats 4000000 in
theorem text_law (hf : Feed6C) (bs : List Nat) (hbs : ∀ c ∈ bs, c < 256) (w : World) (hP : Pw w) :
    Calls Tryd.prog 6 #[.string (strS bs), .bool false] w fun e w' => e = .returned (.bool true) ∧ Below w.heap.size w w' := by
  have hg := hP.size
  have hs : (strS bs).size = bs.length := strS_size bs
  by_cases hbig : 1200 < bs.length
  · have hz : (bs.length : Int) > 1200 := by omega
    go_enter Tryd.func6, Tryd.ntmps6
    go_wp2_with fail
    refine (awake6_c hf w hP).mono ?_
    rintro e w1 ⟨rfl, hb1⟩
    go_wp2_with fail
    go_ret
    exact ⟨rfl, hb1⟩
  · have hz : ¬ (bs.length : Int) > 1200 := by omega
    go_enter Tryd.func6, Tryd.ntmps6
    go_wp2_with fail
    refine (awake6_c hf w hP).mono ?_
    rintro e w1 ⟨rfl, hb1⟩
    go_wp2_with fail
    go_loopw [6] (fun u6 wr => ∃ k : Nat, k ≤ bs.length ∧ u6 = .int .i64 (k : Int) ∧ wr = w1 ∧ Hid (∀ c ∈ bs.take k, 32 ≤ c ∧ c ≤ 126)) (fun u6 _ => bs.length - (intOf u6).toNat)
    case atStart => exact ⟨0, Nat.zero_le _, rfl, rfl, Lib.hid (by simp)⟩
    case round =>
      obtain ⟨k, hk, rfl, rfl, HA⟩ := hrel
      by_cases hlt : k < bs.length
      · obtain ⟨x, hx⟩ : ∃ x, bs[k]? = some x := ⟨_, List.getElem?_eq_getElem hlt⟩
        have hx2 := hbs x (List.mem_of_getElem? hx)
        have hix := idx_at hx hx2
        have z1 : (k : Int) < (bs.length : Int) := by omega
        have HN : 32 ≤ x ∧ x ≤ 126 → Hid (∀ c ∈ bs.take (k + 1), 32 ≤ c ∧ c ≤ 126) := fun h => Lib.hid (by
          rw [take_snoc hx]
          intro y hy
          rcases List.mem_append.1 hy with hy | hy
          · exact HA.out y hy
          · simp at hy; subst hy; exact h)
        clear hx
        rcases (show x < 32 ∨ (32 ≤ x ∧ x ≤ 126) ∨ 126 < x from by omega) with h | ⟨h3, h4⟩ | h
        · clear HN
          go_wp2_with fail
          go_ret
          exact ⟨rfl, hb1⟩
        · have HN' := HN ⟨h3, h4⟩
          clear HN
          go_wp2_with fail
          exact ⟨⟨k + 1, by omega, by go_num, by first | rfl | trivial, HN'⟩, by simp [intOf]; omega⟩
        · clear HN
          have h5 : ¬ x < 32 := by omega
          go_wp2_with fail
          go_ret
          exact ⟨rfl, hb1⟩
      · obtain rfl : k = bs.length := by omega
        have z1 : ¬ (bs.length : Int) < (bs.length : Int) := by omega
        have hall : ∀ c ∈ bs, 32 ≤ c ∧ c ≤ 126 := by have := HA.out; rwa [List.take_length] at this
        have hstr : (⟨#[27, 93]⟩ : ByteArray) ++ strS bs ++ ⟨#[7]⟩ = strS ([27, 93] ++ bs ++ [7]) := by rw [strS_append, strS_append]; rfl
        have hby : ∀ c ∈ [27, 93] ++ bs ++ [7], c < 256 := by
          intro c hc
          simp only [List.mem_append, List.mem_cons, List.not_mem_nil, or_false] at hc
          rcases hc with (hc | hc) | hc
          · omega
          · exact hbs c hc
          · omega
        have hl : Calls Tryd.prog 18 #[.string (⟨#[27, 93]⟩ ++ strS bs ++ ⟨#[7]⟩)] wr (GivesI (lets ([27, 93] ++ bs ++ [7])) wr) := by rw [hstr]; exact letters_c _ hby (by simp; omega) wr
        have hfd : feedS zeroS (lets ([27, 93] ++ bs ++ [7])) = (zeroS, [actE 5 (bs.take 1024) 0]) := osc_feed bs [7] hall _ (fun t ht he => by subst he; exact osc_bell ht)
        have hlen : (lets ([27, 93] ++ bs ++ [7])).length = bs.length + 3 := by rw [lets_len]; simp
        have HFD := Lib.hid (And.intro hfd (And.intro (lets_i64 hby) hlen))
        generalize lets ([27, 93] ++ bs ++ [7]) = rs at *
        have zs1 : ¬ (2 + (strS bs).size > 9223372036854775807) := by omega
        have zs2 : ¬ (((⟨#[27, 93]⟩ : ByteArray) ++ strS bs).size + 1 > 9223372036854775807) := by
          rw [ByteArray.size_append]
          have h2 : (⟨#[27, 93]⟩ : ByteArray).size = 2 := rfl
          omega
        clear hstr hby hfd hall HA hlen
        go_wp2_with fail
        refine hl.mono ?_
        rintro e w2 ⟨L, kk, rfl, hI, hk1, hk2, hb2⟩
        have hff := feed_zero hf hI hk1 hk2 (by have := HFD.out.2.2; omega) HFD.out.2.1
        rw [HFD.out.1, zero_val] at hff
        have hbel2 := hb1.trans (hb2.mono hb1.size)
        clear hl hI hk1 hk2 hb2 zs1 zs2 HFD
        go_wp2_with fail
        refine hff.mono ?_
        rintro e w3 ⟨A, c, es, B, d, l, rfl, hS, hown, hpar, hac, hb3, -⟩
        obtain ⟨a, rfl, hap⟩ := one_act hac
        have hin := InA.of_own hown hpar
        have e1 : a.what = 5 := congrArg A6.what hap
        have e2 : a.text = bs.take 1024 := congrArg A6.text hap
        have hbel3 := hbel2.trans (hb3.mono hbel2.size)
        have hal : Below w3.heap.size w3 (w3.alloc (.cells #[.int .i64 0, .string ⟨#[]⟩, .bool false, .slice A es.length c, .bool false, .string ⟨#[]⟩, .int .u8 0] 28)) := (Below.refl _ _).alloc (Nat.le_refl _) _
        obtain ⟨b, o, rfl, hbl, a0, a1, a2, a3, a4, a5, ip⟩ := (hin.on hal).at_ (k := 0) rfl
        rw [e1] at a0
        rw [e2] at a5
        simp only [Nat.zero_mul, Nat.add_zero] at a0 a5
        have hd := hin.cap
        have hd2 := hin.max
        unfold maxLen at hd2
        have HB := Lib.hid (hbel3.trans (hal.mono hbel3.size))
        clear hS hown hpar hac hin hap e1 e2 hal ip a1 a2 a3 a4 hff hb3 hbel2 hbel3 hb1
        simp only [List.length_singleton, zero_stV] at hd ⊢
        have z0 := (Box.new w3 28 #[.int .i64 0, .string ⟨#[]⟩, .bool false, .slice A es.length c, .bool false, .string ⟨#[]⟩, .int .u8 0]).cell 0
        have hw3 : w3.heap.size < (w3.alloc (.cells #[.int .i64 0, .string ⟨#[]⟩, .bool false, .slice A es.length c, .bool false, .string ⟨#[]⟩, .int .u8 0] 28)).heap.size := by simp
        go_upto_region 15 with fail
        have hTT : ((strS (bs.take 1024)).toList == ((strS bs).extract 0 (min (bs.length : Int) 1024).toNat).toList) = true := by
          have he : (strS bs).extract 0 (min (bs.length : Int) 1024).toNat = strS (bs.take 1024) := by
            rw [strS_take]
            rcases (show bs.length ≤ 1024 ∨ 1024 < bs.length from by omega) with hm | hm
            · rw [show (min (bs.length : Int) 1024).toNat = bs.length from by omega, List.take_length, List.take_of_length_le hm]
            · rw [show (min (bs.length : Int) 1024).toNat = 1024 from by omega]
          rw [he]
          exact beq_self_eq_true _
        generalize strS (bs.take 1024) = T at *
        generalize w3.alloc (.cells #[.int .i64 0, .string ⟨#[]⟩, .bool false, .slice A es.length c, .bool false, .string ⟨#[]⟩, .int .u8 0] 28) = W at *
        have g0 := Ext.cell (w := W) (B := W.heap.size) hbl a0
        have g5 := Ext.cell (w := W) (B := W.heap.size) hbl a5
        have y0 := Ext.cell (w := W) (B := W.heap.size) hw3 z0
        clear a0 a5 z0
        refine region_plan [([0, 1, 2, 3, 4, 5, 6, 7, 8, 9, 10, 11, 12, 13, 14, 15, 16, 17, 18, 19, 20, 21, 22, 23, 24, 25, 26, 27], [28]), ([29, 30, 31, 32, 33, 34, 35, 36, 37, 38, 39, 40, 41, 42, 43, 44, 45, 46, 47, 48, 49], [])] (fun w' => ∃ u : Ext W W.heap.size, w' = u.val) (by kernel_rfl) (by kernel_rfl) (fun _ _ _ _ _ h => h) ⟨⟨_, (Below.refl _ _).drew⟩, rfl⟩ ?_
        simp only [wpPlan, sel, List.take_succ_cons, List.take_zero, List.drop_succ_cons, List.drop_zero, List.cons_append, List.nil_append]
        repeat (go_big_quiet_step (fail))
        refine wpQuiet_nil ?_
        unfold wpChain
        go_wp2_with fail
        refine ⟨⟨⟨W.drew, (Below.refl _ _).drew⟩, rfl⟩, ?_⟩
        unfold wpChain
        repeat (go_big_quiet_step (fail))
        refine wpQuiet_nil ?_
        unfold wpChain
        have hbel := (HB.out).drew
        clear g0 g5 y0
        go_wp2_with fail
        go_ret
        exact ⟨rfl, hbel⟩
set_option maxRecDepth 100000 in
set_option maxHeartbeats 4000000 in
theorem text_law_st (hf : Feed6C) (bs : List Nat) (hbs : ∀ c ∈ bs, c < 256) (w : World) (hP : Pw w) :
    Calls Tryd.prog 6 #[.string (strS bs), .bool true] w fun e w' => e = .returned (.bool true) ∧ Below w.heap.size w w' := by
  have hg := hP.size
  have hs : (strS bs).size = bs.length := strS_size bs
  by_cases hbig : 1200 < bs.length
  · have hz : (bs.length : Int) > 1200 := by omega
    go_enter Tryd.func6, Tryd.ntmps6
    go_wp2_with fail
    refine (awake6_c hf w hP).mono ?_
    rintro e w1 ⟨rfl, hb1⟩
    go_wp2_with fail
    go_ret
    exact ⟨rfl, hb1⟩
  · have hz : ¬ (bs.length : Int) > 1200 := by omega
    go_enter Tryd.func6, Tryd.ntmps6
    go_wp2_with fail
    refine (awake6_c hf w hP).mono ?_
    rintro e w1 ⟨rfl, hb1⟩
    go_wp2_with fail
    go_loopw [6] (fun u6 wr => ∃ k : Nat, k ≤ bs.length ∧ u6 = .int .i64 (k : Int) ∧ wr = w1 ∧ Hid (∀ c ∈ bs.take k, 32 ≤ c ∧ c ≤ 126)) (fun u6 _ => bs.length - (intOf u6).toNat)
    case atStart => exact ⟨0, Nat.zero_le _, rfl, rfl, Lib.hid (by simp)⟩
    case round =>
      obtain ⟨k, hk, rfl, rfl, HA⟩ := hrel
      by_cases hlt : k < bs.length
      · obtain ⟨x, hx⟩ : ∃ x, bs[k]? = some x := ⟨_, List.getElem?_eq_getElem hlt⟩
        have hx2 := hbs x (List.mem_of_getElem? hx)
        have hix := idx_at hx hx2
        have z1 : (k : Int) < (bs.length : Int) := by omega
        have HN : 32 ≤ x ∧ x ≤ 126 → Hid (∀ c ∈ bs.take (k + 1), 32 ≤ c ∧ c ≤ 126) := fun h => Lib.hid (by
          rw [take_snoc hx]
          intro y hy
          rcases List.mem_append.1 hy with hy | hy
          · exact HA.out y hy
          · simp at hy; subst hy; exact h)
        clear hx
        rcases (show x < 32 ∨ (32 ≤ x ∧ x ≤ 126) ∨ 126 < x from by omega) with h | ⟨h3, h4⟩ | h
        · clear HN
          go_wp2_with fail
          go_ret
          exact ⟨rfl, hb1⟩
        · have HN' := HN ⟨h3, h4⟩
          clear HN
          go_wp2_with fail
          exact ⟨⟨k + 1, by omega, by go_num, by first | rfl | trivial, HN'⟩, by simp [intOf]; omega⟩
        · clear HN
          have h5 : ¬ x < 32 := by omega
          go_wp2_with fail
          go_ret
          exact ⟨rfl, hb1⟩
      · obtain rfl : k = bs.length := by omega
        have z1 : ¬ (bs.length : Int) < (bs.length : Int) := by omega
        have hall : ∀ c ∈ bs, 32 ≤ c ∧ c ≤ 126 := by have := HA.out; rwa [List.take_length] at this
        have hstr : (⟨#[27, 93]⟩ : ByteArray) ++ strS bs ++ ⟨#[27, 92]⟩ = strS ([27, 93] ++ bs ++ [27, 92]) := by rw [strS_append, strS_append]; rfl
        have hby : ∀ c ∈ [27, 93] ++ bs ++ [27, 92], c < 256 := by
          intro c hc
          simp only [List.mem_append, List.mem_cons, List.not_mem_nil, or_false] at hc
          rcases hc with (hc | hc) | hc
          · omega
          · exact hbs c hc
          · omega
        have hl : Calls Tryd.prog 18 #[.string (⟨#[27, 93]⟩ ++ strS bs ++ ⟨#[27, 92]⟩)] wr (GivesI (lets ([27, 93] ++ bs ++ [27, 92])) wr) := by rw [hstr]; exact letters_c _ hby (by simp; omega) wr
        have hfd : feedS zeroS (lets ([27, 93] ++ bs ++ [27, 92])) = (zeroS, [actE 5 (bs.take 1024) 0, ⟨3, 0, 92, [], [], []⟩]) := osc_feed bs [27, 92] hall _ (fun t ht he => by subst he; exact osc_st ht)
        have hlen : (lets ([27, 93] ++ bs ++ [27, 92])).length = bs.length + 4 := by rw [lets_len]; simp
        have HFD := Lib.hid (And.intro hfd (And.intro (lets_i64 hby) hlen))
        generalize lets ([27, 93] ++ bs ++ [27, 92]) = rs at *
        have zs1 : ¬ (2 + (strS bs).size > 9223372036854775807) := by omega
        have zs2 : ¬ (((⟨#[27, 93]⟩ : ByteArray) ++ strS bs).size + 2 > 9223372036854775807) := by
          rw [ByteArray.size_append]
          have h2 : (⟨#[27, 93]⟩ : ByteArray).size = 2 := rfl
          omega
        clear hstr hby hfd hall HA hlen
        go_wp2_with fail
        refine hl.mono ?_
        rintro e w2 ⟨L, kk, rfl, hI, hk1, hk2, hb2⟩
        have hff := feed_zero hf hI hk1 hk2 (by have := HFD.out.2.2; omega) HFD.out.2.1
        rw [HFD.out.1, zero_val] at hff
        have hbel2 := hb1.trans (hb2.mono hb1.size)
        clear hl hI hk1 hk2 hb2 zs1 zs2 HFD
        go_wp2_with fail
        refine hff.mono ?_
        rintro e w3 ⟨A, c, es, B, d, l, rfl, hS, hown, hpar, hac, hb3, -⟩
        obtain ⟨a, a', rfl, hap, hap'⟩ := two_acts hac
        have hin := InA.of_own hown hpar
        have e1 : a.what = 5 := congrArg A6.what hap
        have e2 : a.text = bs.take 1024 := congrArg A6.text hap
        have e3 : a'.what = 3 := congrArg A6.what hap'
        have e4 : a'.fin = 92 := congrArg A6.fin hap'
        have hbel3 := hbel2.trans (hb3.mono hbel2.size)
        have hal : Below w3.heap.size w3 (w3.alloc (.cells #[.int .i64 0, .string ⟨#[]⟩, .bool false, .slice A es.length c, .bool false, .string ⟨#[]⟩, .int .u8 0] 28)) := (Below.refl _ _).alloc (Nat.le_refl _) _
        obtain ⟨b, o, rfl, hbl, a0, a1, a2, a3, a4, a5, ip⟩ := (hin.on hal).at_ (k := 0) rfl
        obtain ⟨b', o', eb, _, k0, _, k2, _, _, _, _⟩ := (hin.on hal).at_ (k := 1) rfl
        injection eb with eb; injection eb with eb1 eb2; subst eb1; subst eb2
        rw [e1] at a0
        rw [e2] at a5
        rw [e3] at k0
        rw [e4] at k2
        simp only [Nat.zero_mul, Nat.add_zero, Nat.one_mul] at a0 a5 k0 k2
        have hd := hin.cap
        have hd2 := hin.max
        unfold maxLen at hd2
        have HB := Lib.hid (hbel3.trans (hal.mono hbel3.size))
        clear hS hown hpar hac hin hap hap' e1 e2 e3 e4 hal ip a1 a2 a3 a4 hff hb3 hbel2 hbel3 hb1
        simp only [List.length_cons, List.length_nil, zero_stV] at hd ⊢
        have z0 := (Box.new w3 28 #[.int .i64 0, .string ⟨#[]⟩, .bool false, .slice A es.length c, .bool false, .string ⟨#[]⟩, .int .u8 0]).cell 0
        have hw3 : w3.heap.size < (w3.alloc (.cells #[.int .i64 0, .string ⟨#[]⟩, .bool false, .slice A es.length c, .bool false, .string ⟨#[]⟩, .int .u8 0] 28)).heap.size := by simp
        go_upto_region 15 with fail
        have hTT : ((strS (bs.take 1024)).toList == ((strS bs).extract 0 (min (bs.length : Int) 1024).toNat).toList) = true := by
          have he : (strS bs).extract 0 (min (bs.length : Int) 1024).toNat = strS (bs.take 1024) := by
            rw [strS_take]
            rcases (show bs.length ≤ 1024 ∨ 1024 < bs.length from by omega) with hm | hm
            · rw [show (min (bs.length : Int) 1024).toNat = bs.length from by omega, List.take_length, List.take_of_length_le hm]
            · rw [show (min (bs.length : Int) 1024).toNat = 1024 from by omega]
          rw [he]
          exact beq_self_eq_true _
        generalize strS (bs.take 1024) = T at *
        generalize w3.alloc (.cells #[.int .i64 0, .string ⟨#[]⟩, .bool false, .slice A es.length c, .bool false, .string ⟨#[]⟩, .int .u8 0] 28) = W at *
        have g0 := Ext.cell (w := W) (B := W.heap.size) hbl a0
        have g5 := Ext.cell (w := W) (B := W.heap.size) hbl a5
        have g6 := Ext.cell (w := W) (B := W.heap.size) hbl k0
        have g8 := Ext.cell (w := W) (B := W.heap.size) hbl k2
        have y0 := Ext.cell (w := W) (B := W.heap.size) hw3 z0
        clear a0 a5 z0 k0 k2
        refine region_plan [([0, 1, 2, 3, 4, 5, 6, 7, 8, 9, 10, 11, 12, 13, 14, 15, 16, 17, 18, 19, 20, 21, 22, 23, 24, 25, 26, 27], [28]), ([29, 30, 31, 32, 33, 34, 35, 36, 37, 38, 39, 40, 41, 42, 43, 44, 45, 46, 47, 48, 49], [])] (fun w' => ∃ u : Ext W W.heap.size, w' = u.val) (by kernel_rfl) (by kernel_rfl) (fun _ _ _ _ _ h => h) ⟨⟨_, (Below.refl _ _).drew⟩, rfl⟩ ?_
        simp only [wpPlan, sel, List.take_succ_cons, List.take_zero, List.drop_succ_cons, List.drop_zero, List.cons_append, List.nil_append]
        repeat (go_big_quiet_step (fail))
        refine wpQuiet_nil ?_
        unfold wpChain
        go_wp2_with fail
        refine ⟨⟨⟨W.drew, (Below.refl _ _).drew⟩, rfl⟩, ?_⟩
        unfold wpChain
        repeat (go_big_quiet_step (fail))
        refine wpQuiet_nil ?_
        unfold wpChain
        have hbel := (HB.out).drew
        clear g0 g5 y0 g6 g8
        go_wp2_with fail
        go_ret
        exact ⟨rfl, hbel⟩
theorem text_both (hf : Feed6C) (bs : List Nat) (hbs : ∀ c ∈ bs, c < 256) (st : Bool) (w : World) (hP : Pw w) :
    Calls Tryd.prog 6 #[.string (strS bs), .bool st] w fun e w' => e = .returned (.bool true) ∧ Below w.heap.size w w' := by
  cases st
  · exact text_law hf bs hbs w hP
  · exact text_law_st hf bs hbs w hP
end Go.Proofs.YtiaippdaogmcmaaDoor
