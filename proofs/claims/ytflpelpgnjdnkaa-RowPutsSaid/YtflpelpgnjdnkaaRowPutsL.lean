/- RowPuts over the contracts. -/
import Derived.Test.YtflpelpgnjdnkaaAwake08
import Derived.Test.YtflpelpgnjdnkaaRef08
import Derived.Test.YtflpelpgnjdnkaaMath08b
import Derived.Test.YtflpelpgnjdnkaaRows08
import Derived.Test.YtflpelpgnjdnkaaBitsR
namespace Go.Proofs.Ytflpelpgnjdnkaa
open Go Go.RowKit
set_option linter.unusedVariables false
set_option linter.unusedSimpArgs false

theorem put_ok8 {r : Rw} (h : RwOk r) (k : Int) {x : Cl} (hx : ClOk x) : RwOk (putR r k x) := by
  unfold putR
  split
  · refine ⟨h.1, mend_ok fun c hc => ?_⟩
    have key : ∀ l : List Cl, (∀ d ∈ l, ClOk d) → ∀ (i : Nat) (y : Cl), ClOk y → ∀ d ∈ l.set i y, ClOk d := by
      intro l hl i y hy d hd
      rcases List.mem_or_eq_of_mem_set hd with h | h
      · exact hl d h
      · subst h; exact hy
    unfold putL at hc
    split at hc
    · exact key _ (key _ h.2 k.toNat x hx) (k.toNat + 1) (halfC x.pen) ⟨by simp [halfC, I64], by simp [halfC, I64], by simp [halfC, I64], by simp [halfC, I64], hx.2.2.2.2⟩ c hc
    · exact key _ h.2 _ _ hx c hc
  · exact h
/-- A row and a cell in the law's own variables. -/
structure RowK (w W : World) (r : Rw) (A : Option Addr) (c : Nat) (x : Cl) : Prop where
  b1 : Box W w.heap.size 24 #[.slice A r.cs.length c, .bool r.wrap, .int .i64 r.dir, .bool r.ex]
  b2 : Box W (w.heap.size + 1) 29 #[.int .i64 x.r, .int .i64 x.m0, .int .i64 x.m1, .int .i64 x.w, .int .i64 x.pen.fg, .int .i64 x.pen.bg, .int .i64 x.pen.fl]
  inr : InC W A c r.cs
  bel : Below w.heap.size w W
theorem RowK.on {w W W' : World} {r : Rw} {A : Option Addr} {c : Nat} {x : Cl} (h : RowK w W r A c x) (hb : Below W.heap.size W W') : RowK w W' r A c x :=
  ⟨h.b1.below hb h.b1.lt, h.b2.below hb h.b2.lt, h.inr.on hb, h.bel.trans (hb.mono h.bel.size)⟩
theorem RowK.new {w : World} {r : Rw} {A : Option Addr} {c : Nat} (x : Cl) (h : InC w A c r.cs) : RowK w ((w.alloc (.cells #[.slice A r.cs.length c, .bool r.wrap, .int .i64 r.dir, .bool r.ex] 24)).alloc (.cells #[.int .i64 x.r, .int .i64 x.m0, .int .i64 x.m1, .int .i64 x.w, .int .i64 x.pen.fg, .int .i64 x.pen.bg, .int .i64 x.pen.fl] 29)) r A c x := by
  have hb : Below w.heap.size w ((w.alloc (.cells #[.slice A r.cs.length c, .bool r.wrap, .int .i64 r.dir, .bool r.ex] 24)).alloc (.cells #[.int .i64 x.r, .int .i64 x.m0, .int .i64 x.m1, .int .i64 x.w, .int .i64 x.pen.fg, .int .i64 x.pen.bg, .int .i64 x.pen.fl] 29)) := ((Below.refl _ _).alloc (Nat.le_refl _) _).alloc (by simp) _
  refine ⟨(Box.new w _ _).alloc _, ?_, h.on hb, hb⟩
  have h := Box.new (w.alloc (.cells #[.slice A r.cs.length c, .bool r.wrap, .int .i64 r.dir, .bool r.ex] 24)) 29 #[.int .i64 x.r, .int .i64 x.m0, .int .i64 x.m1, .int .i64 x.w, .int .i64 x.pen.fg, .int .i64 x.pen.bg, .int .i64 x.pen.fl]
  simpa using h
/-- And what is told of it, in a variable of its own. -/
structure RowT (w W : World) (r : Rw) (A : Option Addr) (c : Nat) (x : Cl) (g : Nat) (s : Rw) (B : Option Addr) (d : Nat) : Prop where
  rp : RowK w W r A c x
  b3 : Box W g 24 #[.slice B s.cs.length d, .bool s.wrap, .int .i64 s.dir, .bool s.ex]
  ins : InC W B d s.cs
theorem RowT.on {w W W' : World} {r : Rw} {A : Option Addr} {c : Nat} {x : Cl} {g : Nat} {s : Rw} {B : Option Addr} {d : Nat} (h : RowT w W r A c x g s B d) (hb : Below W.heap.size W W') : RowT w W' r A c x g s B d :=
  ⟨h.rp.on hb, h.b3.below hb h.b3.lt, h.ins.on hb⟩
theorem RowT.new {w W : World} {r : Rw} {A : Option Addr} {c : Nat} {x : Cl} {s : Rw} {B : Option Addr} {d : Nat} (h : RowK w W r A c x) (hs : InC W B d s.cs) : RowT w (W.alloc (.cells #[.slice B s.cs.length d, .bool s.wrap, .int .i64 s.dir, .bool s.ex] 24)) r A c x W.heap.size s B d := by
  have hb := (Below.refl W.heap.size W).alloc (Nat.le_refl _) (.cells #[.slice B s.cs.length d, .bool s.wrap, .int .i64 s.dir, .bool s.ex] 24)
  exact ⟨h.on hb, Box.new W _ _, hs.on hb⟩
theorem Box.four {W : World} {g : Nat} {t : TypeId} {a b c d : Value} (h : Box W g t #[a, b, c, d]) : W.cell? ⟨g, 0, none⟩ = some a ∧ W.cell? ⟨g, 1, none⟩ = some b ∧ W.cell? ⟨g, 2, none⟩ = some c ∧ W.cell? ⟨g, 3, none⟩ = some d := ⟨h.cell 0, h.cell 1, h.cell 2, h.cell 3⟩
theorem Box.sevenC {W : World} {g : Nat} {t : TypeId} {a b c d e f h : Value} (k : Box W g t #[a, b, c, d, e, f, h]) : W.cell? ⟨g, 0, none⟩ = some a ∧ W.cell? ⟨g, 1, none⟩ = some b ∧ W.cell? ⟨g, 2, none⟩ = some c ∧ W.cell? ⟨g, 3, none⟩ = some d ∧ W.cell? ⟨g, 4, none⟩ = some e ∧ W.cell? ⟨g, 5, none⟩ = some f ∧ W.cell? ⟨g, 6, none⟩ = some h := ⟨k.cell 0, k.cell 1, k.cell 2, k.cell 3, k.cell 4, k.cell 5, k.cell 6⟩
theorem puts_one {r : Rw} (h : SaneR r) {k : Nat} {x : Cl} (hx : (putR r k x).cs[k]? = some x) : OneC x := by
  unfold putR at hx
  split at hx
  · rename_i hc; exact hc.2.1
  · exact h.one hx
set_option maxRecDepth 100000 in
set_option maxHeartbeats 8000000 in
theorem puts_law (hn : New8C) (hp : Put8C) (hs : Sane8C) (hbk : Blank8C) (r : Rw) (A : Option Addr) (c : Nat) (ka : Int) (x : Cl) (w : World) (hin : InC w A c r.cs) (hr : RwOk r) (hxk : ClOk x) :
    Calls Try.prog 3 #[rwV r A c, .int .i64 ka, clV x] w fun e w' => e = .returned (.bool true) ∧ Below w.heap.size w w' := by
  have hk0 := RowK.new x hin
  have hawake := awake8_c hn hp hs ((w.alloc (.cells #[.slice A r.cs.length c, .bool r.wrap, .int .i64 r.dir, .bool r.ex] 24)).alloc (.cells #[.int .i64 x.r, .int .i64 x.m0, .int .i64 x.m1, .int .i64 x.w, .int .i64 x.pen.fg, .int .i64 x.pen.bg, .int .i64 x.pen.fl] 29))
  have hlen := hin.len
  unfold maxLen at hlen
  have a1 := and_65535 ka
  have HE := Lib.hid hk0
  have HR := Lib.hid (And.intro hr hxk)
  clear hk0 hin hr hxk
  simp only [rwV_eq, clV]
  go_enter Try.func3, Try.ntmps3
  go_wp2_with fail
  refine hawake.mono ?_
  rintro e w1 ⟨rfl, hb1⟩
  have hE := HE.out.on hb1
  clear hawake hb1 HE
  obtain ⟨k0, k1, k2, k3⟩ := hE.b1.four
  by_cases h300 : r.cs.length > 300
  · have z1 : (r.cs.length : Int) > 300 := by omega
    have hb := hE.bel
    clear hE a1
    go_wp2_with fail
    go_ret
    exact ⟨rfl, hb⟩
  have z1 : ¬ (r.cs.length : Int) > 300 := by omega
  have h1 := hs r A c w1 hE.inr HR.out.1
  simp only [rwV_eq] at h1
  have HE := Lib.hid hE
  clear hE
  by_cases hsane : SaneR r
  · rw [decide_eq_true hsane] at h1
    have hpos : 1 ≤ r.cs.length := hsane.1.1
    have zl0 : ((r.cs.length : Int) == 0) = false := beq_eq_false_iff_ne.2 (by omega)
    have HS := Lib.hid hsane
    clear hsane
    go_wp2_with fail
    refine h1.mono ?_
    rintro e w2 ⟨rfl, hb2⟩
    have hE := HE.out.on hb2
    clear h1 hb2 HE k0 k1 k2 k3
    obtain ⟨k0, k1, k2, k3⟩ := hE.b1.four
    obtain ⟨p0, p1, p2, p3, p4, p5, p6⟩ := hE.b2.sevenC
    obtain ⟨z, hz⟩ : ∃ z, ka % 65536 = z := ⟨_, rfl⟩
    rw [hz] at a1
    have hx0 : 0 ≤ z := by omega
    have hx1 : z ≤ 65535 := by omega
    have hl1 : (0 : Int) ≤ r.cs.length := by omega
    clear hz
    have hxm := Int.emod_nonneg z (show (r.cs.length : Int) ≠ 0 by omega)
    have hxl := Int.emod_lt_of_pos z (show (0 : Int) < (r.cs.length : Int) by omega)
    obtain ⟨k, hf⟩ : ∃ k : Nat, z % (r.cs.length : Int) = (k : Int) := Int.eq_ofNat_of_zero_le hxm
    have hft : z.tmod (r.cs.length : Int) = (k : Int) := by rw [Int.tmod_eq_emod_of_nonneg hx0]; exact hf
    have hkl : k < r.cs.length := by omega
    have hne0 : ¬ (r.cs.length : Int) = 0 := by omega
    clear hxm hxl
    have h1 := hp r A c k x w2 hE.inr HR.out.1 (by unfold I64; omega) HR.out.2
    simp only [rwV_eq, clV] at h1
    unfold GivesRow at h1
    simp only [rwV_eq] at h1
    have hln := puts_len r (k : Int) x
    have hsaid := puts_said HS.out hkl x
    have hok := put_ok8 HR.out.1 (k : Int) HR.out.2
    have hone := fun h => puts_one HS.out (k := k) (x := x) h
    generalize hst : putR r (k : Int) x = s at *
    have HM := Lib.hid (And.intro hsaid (And.intro hok hone))
    have HL := Lib.hid hln
    have HE := Lib.hid hE
    clear hsaid hok hone hst hln hE
    go_wp2_with fail
    refine h1.mono ?_
    rintro e w3 ⟨A3, c3, rfl, hin3, hb3⟩
    have hE := RowT.new (HE.out.on hb3) hin3
    clear h1 hb3 hin3 HE k0 k1 k2 k3 p0 p1 p2 p3 p4 p5 p6 a1 hft hx0 hx1 hf hne0 zl0
    go_upto_region 6 with fail
    generalize hG : w3.heap.size = gs at *
    generalize w3.alloc (.cells #[.slice A3 s.cs.length c3, .bool s.wrap, .int .i64 s.dir, .bool s.ex] 24) = W at *
    clear hG
    obtain ⟨k0, k1, k2, k3⟩ := hE.rp.b1.four
    obtain ⟨m0, m1, m2, m3⟩ := hE.b3.four
    have en : ((s.cs.length : Int) != (r.cs.length : Int)) = false := by rw [HL.out]; simp
    have HE := Lib.hid hE
    clear hE
    go_upto_region 8 with fail
    obtain ⟨y, hy⟩ : ∃ y, s.cs[k]? = some y := ⟨_, List.getElem?_eq_getElem (by rw [HL.out]; exact hkl)⟩
    obtain ⟨g2, o2, eB, bb, b0, b1, b2, b3, b4, b5, b6⟩ := HE.out.ins.at_ hy
    obtain ⟨p0, p1, p2, p3, p4, p5, p6⟩ := HE.out.rp.b2.sevenC
    have pb := HE.out.rp.b2.lt
    have mb := HE.out.b3.lt
    have hcs := HE.out.ins.cap
    have hsl : s.cs.length = r.cs.length := HL.out
    have zs : (k : Int) < (s.cs.length : Int) := by omega
    have v0 := Ext.cell (w := W) (B := W.heap.size) (p := ⟨g2, o2 + k * 7, none⟩) bb b0
    have v1 := Ext.cell (w := W) (B := W.heap.size) (p := ⟨g2, o2 + k * 7 + 1, none⟩) bb b1
    have v2 := Ext.cell (w := W) (B := W.heap.size) (p := ⟨g2, o2 + k * 7 + 2, none⟩) bb b2
    have v3 := Ext.cell (w := W) (B := W.heap.size) (p := ⟨g2, o2 + k * 7 + 3, none⟩) bb b3
    have v4 := Ext.cell (w := W) (B := W.heap.size) (p := ⟨g2, o2 + k * 7 + 4, none⟩) bb b4
    have v5 := Ext.cell (w := W) (B := W.heap.size) (p := ⟨g2, o2 + k * 7 + 5, none⟩) bb b5
    have v6 := Ext.cell (w := W) (B := W.heap.size) (p := ⟨g2, o2 + k * 7 + 6, none⟩) bb b6
    have q0 := Ext.cell (w := W) (B := W.heap.size) (p := ⟨w.heap.size + 1, 0, none⟩) pb p0
    have q1 := Ext.cell (w := W) (B := W.heap.size) (p := ⟨w.heap.size + 1, 1, none⟩) pb p1
    have q2 := Ext.cell (w := W) (B := W.heap.size) (p := ⟨w.heap.size + 1, 2, none⟩) pb p2
    have q3 := Ext.cell (w := W) (B := W.heap.size) (p := ⟨w.heap.size + 1, 3, none⟩) pb p3
    have q4 := Ext.cell (w := W) (B := W.heap.size) (p := ⟨w.heap.size + 1, 4, none⟩) pb p4
    have q5 := Ext.cell (w := W) (B := W.heap.size) (p := ⟨w.heap.size + 1, 5, none⟩) pb p5
    have q6 := Ext.cell (w := W) (B := W.heap.size) (p := ⟨w.heap.size + 1, 6, none⟩) pb p6
    have s0 := Ext.cell (w := W) (B := W.heap.size) (p := ⟨gs, 0, none⟩) mb (show W.cell? ⟨gs, 0, none⟩ = some (.slice (some ⟨g2, o2, none⟩) s.cs.length c3) from by rw [← eB]; exact m0)
    have hcy := fun V => cell_neq y x V
    unfold clV at hcy
    have HY := Lib.hid hy
    clear b0 b1 b2 b3 b4 b5 b6 p0 p1 p2 p3 p4 p5 p6 k0 k1 k2 k3 m0 m1 m2 m3 bb pb mb hy hsl eB en
    by_cases hyx : y = x
    · have hne : ∀ V, (binOp .neq 29 (.agg #[.int .i64 y.r, .int .i64 y.m0, .int .i64 y.m1, .int .i64 y.w, .int .i64 y.pen.fg, .int .i64 y.pen.bg, .int .i64 y.pen.fl]) (.agg #[.int .i64 x.r, .int .i64 x.m0, .int .i64 x.m1, .int .i64 x.w, .int .i64 x.pen.fg, .int .i64 x.pen.bg, .int .i64 x.pen.fl])).run Try.prog V = .ok (.bool false) V := fun V => by
        have h := hcy V
        rw [decide_eq_true hyx] at h
        exact h
      have HSX := Lib.hid (show s.cs[k]? = some x from hyx ▸ HY.out)
      clear hcy hyx HY
      refine region_plan [([0, 1, 2, 3, 4, 5, 6], [])] (fun w' => ∃ u : Ext W W.heap.size, w' = u.val) (by kernel_rfl) (by kernel_rfl) (fun _ _ _ _ _ h => h) ⟨⟨_, (Below.refl _ _).drew⟩, rfl⟩ ?_
      simp only [wpPlan, sel, List.take_succ_cons, List.take_zero, List.drop_succ_cons, List.drop_zero, List.cons_append, List.nil_append]
      repeat (go_big_quiet_step (fail))
      refine wpQuiet_nil ?_
      unfold wpChain
      have HE2 := Lib.hid (HE.out.on (Below.refl W.heap.size W).drew)
      clear v0 v1 v2 v3 v4 v5 v6 q0 q1 q2 q3 q4 q5 q6 s0 hne HE
      go_wp2_with fail
      have hone := HM.out.2.2 HSX.out
      have hw0 : 0 ≤ x.w := hone.1.1
      have hw2 : x.w ≤ 2 := hone.1.2
      have HALL := Lib.hid (HM.out.1.2.1 HSX.out)
      have HHALF := Lib.hid (And.intro (HM.out.1.2.2.1 HSX.out) (HM.out.1.2.2.2 HSX.out))
      clear hone
      go_loopw [10] (fun u10 wr => ∃ i : Nat, i ≤ r.cs.length ∧ u10 = .int .i64 (i : Int) ∧ Hid (RowT w wr r A c x gs s A3 c3)) (fun u10 _ => r.cs.length - (intOf u10).toNat)
      case atStart => exact ⟨0, Nat.zero_le _, rfl, HE2⟩
      case round =>
        obtain ⟨i, hi, rfl, HE⟩ := hrel
        clear HE2
        obtain ⟨k0, k1, k2, k3⟩ := HE.out.rp.b1.four
        by_cases hlt : i < r.cs.length
        · obtain ⟨z, hz⟩ : ∃ z, r.cs[i]? = some z := ⟨_, List.getElem?_eq_getElem hlt⟩
          obtain ⟨y, hy⟩ : ∃ y, s.cs[i]? = some y := ⟨_, List.getElem?_eq_getElem (by rw [HL.out]; exact hlt)⟩
          have hd := HALL.out i hlt
          rw [hz, hy] at hd
          simp only [Option.map_some, Option.some.injEq] at hd
          have hzok := HR.out.1.2 z (List.mem_of_getElem? hz)
          obtain ⟨g1, o1, eA, ab, a0, a1, a2, a3, a4, a5, a6⟩ := HE.out.rp.inr.at_ hz
          obtain ⟨g3, o3, eB, bb, b0, b1, b2, b3, b4, b5, b6⟩ := HE.out.ins.at_ hy
          have u0 := Ext.cell (w := wr) (B := wr.heap.size) (p := ⟨g1, o1 + i * 7, none⟩) ab a0
          have u1 := Ext.cell (w := wr) (B := wr.heap.size) (p := ⟨g1, o1 + i * 7 + 1, none⟩) ab a1
          have u2 := Ext.cell (w := wr) (B := wr.heap.size) (p := ⟨g1, o1 + i * 7 + 2, none⟩) ab a2
          have u3 := Ext.cell (w := wr) (B := wr.heap.size) (p := ⟨g1, o1 + i * 7 + 3, none⟩) ab a3
          have u4 := Ext.cell (w := wr) (B := wr.heap.size) (p := ⟨g1, o1 + i * 7 + 4, none⟩) ab a4
          have u5 := Ext.cell (w := wr) (B := wr.heap.size) (p := ⟨g1, o1 + i * 7 + 5, none⟩) ab a5
          have u6 := Ext.cell (w := wr) (B := wr.heap.size) (p := ⟨g1, o1 + i * 7 + 6, none⟩) ab a6
          have v0 := Ext.cell (w := wr) (B := wr.heap.size) (p := ⟨g3, o3 + i * 7, none⟩) bb b0
          have v1 := Ext.cell (w := wr) (B := wr.heap.size) (p := ⟨g3, o3 + i * 7 + 1, none⟩) bb b1
          have v2 := Ext.cell (w := wr) (B := wr.heap.size) (p := ⟨g3, o3 + i * 7 + 2, none⟩) bb b2
          have v3 := Ext.cell (w := wr) (B := wr.heap.size) (p := ⟨g3, o3 + i * 7 + 3, none⟩) bb b3
          have v4 := Ext.cell (w := wr) (B := wr.heap.size) (p := ⟨g3, o3 + i * 7 + 4, none⟩) bb b4
          have v5 := Ext.cell (w := wr) (B := wr.heap.size) (p := ⟨g3, o3 + i * 7 + 5, none⟩) bb b5
          have v6 := Ext.cell (w := wr) (B := wr.heap.size) (p := ⟨g3, o3 + i * 7 + 6, none⟩) bb b6
          have s0 := Ext.cell (w := wr) (B := wr.heap.size) HE.out.b3.lt (show wr.cell? ⟨gs, 0, none⟩ = some (.slice (some ⟨g3, o3, none⟩) s.cs.length c3) from by rw [← eB]; exact HE.out.b3.cell 0)
          have r0 := Ext.cell (w := wr) (B := wr.heap.size) HE.out.rp.b1.lt (show wr.cell? ⟨w.heap.size, 0, none⟩ = some (.slice (some ⟨g1, o1, none⟩) r.cs.length c) from by rw [← eA]; exact HE.out.rp.b1.cell 0)
          have q3 := Ext.cell (w := wr) (B := wr.heap.size) HE.out.rp.b2.lt (show wr.cell? ⟨w.heap.size + 1, 3, none⟩ = some (.int .i64 x.w) from HE.out.rp.b2.cell 3)
          have hcr := HE.out.rp.inr.cap
          have hcs := HE.out.ins.cap
          have hsl : s.cs.length = r.cs.length := HL.out
          have zl : (i : Int) < (r.cs.length : Int) := by omega
          have zs : (i : Int) < (s.cs.length : Int) := by omega
          have hb2 : ∀ V, Calls Try.prog 11 #[.agg #[.int .i64 z.pen.fg, .int .i64 z.pen.bg, .int .i64 z.pen.fl]] V (fun e w' => e = .returned (.agg #[.int .i64 0, .int .i64 0, .int .i64 0, .int .i64 1, .int .i64 z.pen.fg, .int .i64 z.pen.bg, .int .i64 z.pen.fl]) ∧ Below V.heap.size V w') := fun V => hbk z.pen V hzok.2.2.2.2
          have HB2 := Lib.hid hb2
          have hcq := fun V => cell_eql y z V
          unfold clV at hcq
          clear hz hy hzok eA eB a0 a1 a2 a3 a4 a5 a6 b0 b1 b2 b3 b4 b5 b6 hb2 hsl ab bb
          by_cases hab : (k : Int) ≤ (i : Int) ∧ (i : Int) < (k : Int) + x.w
          · obtain ⟨z1', z2'⟩ := hab
            clear hd hcq
            go_upto_region 13 with fail
            refine region_plan [([0, 1, 2, 3, 4, 5, 6, 7, 8, 9, 10, 11, 12, 13, 14, 15, 16, 17, 18, 19, 20, 21, 22, 23], [])] (fun w' => ∃ u : Ext wr wr.heap.size, w' = u.val) (by kernel_rfl) (by kernel_rfl) (fun _ _ _ _ _ h => h) ⟨⟨_, (Below.refl _ _).drew⟩, rfl⟩ ?_
            simp only [wpPlan, sel, List.take_succ_cons, List.take_zero, List.drop_succ_cons, List.drop_zero, List.cons_append, List.nil_append]
            repeat (go_big_quiet_step (fail))
            refine wpQuiet_nil ?_
            unfold wpChain
            have HE3 := Lib.hid (HE.out.on (Below.refl wr.heap.size wr).drew)
            clear u0 u1 u2 u3 u4 u5 u6 v0 v1 v2 v3 v4 v5 v6 s0 r0 q3 HE
            go_wp2_with fail
            exact ⟨⟨i + 1, by omega, by simp, HE3⟩, by simp [intOf]; omega⟩
          · by_cases hyz : y = z
            · have heq : ∀ V, (binOp .eql 29 (.agg #[.int .i64 y.r, .int .i64 y.m0, .int .i64 y.m1, .int .i64 y.w, .int .i64 y.pen.fg, .int .i64 y.pen.bg, .int .i64 y.pen.fl]) (.agg #[.int .i64 z.r, .int .i64 z.m0, .int .i64 z.m1, .int .i64 z.w, .int .i64 z.pen.fg, .int .i64 z.pen.bg, .int .i64 z.pen.fl])).run Try.prog V = .ok (.bool true) V := fun V => by
                have h := hcq V
                rw [decide_eq_true hyz] at h
                exact h
              clear hd hcq hyz
              by_cases hki : (k : Int) ≤ (i : Int)
              · have z2' : ¬ (i : Int) < (k : Int) + x.w := fun h => hab ⟨hki, h⟩
                clear hab
                go_upto_region 13 with fail
                refine region_plan [([0, 1, 2, 3, 4, 5, 6, 7, 8, 9, 10, 11, 12, 13, 14, 15, 16, 17, 18, 19, 20, 21, 22, 23], [])] (fun w' => ∃ u : Ext wr wr.heap.size, w' = u.val) (by kernel_rfl) (by kernel_rfl) (fun _ _ _ _ _ h => h) ⟨⟨_, (Below.refl _ _).drew⟩, rfl⟩ ?_
                simp only [wpPlan, sel, List.take_succ_cons, List.take_zero, List.drop_succ_cons, List.drop_zero, List.cons_append, List.nil_append]
                repeat (go_big_quiet_step (fail))
                refine wpQuiet_nil ?_
                unfold wpChain
                have HE3 := Lib.hid (HE.out.on (Below.refl wr.heap.size wr).drew)
                clear u0 u1 u2 u3 u4 u5 u6 v0 v1 v2 v3 v4 v5 v6 s0 r0 q3 HE
                go_wp2_with fail
                exact ⟨⟨i + 1, by omega, by simp, HE3⟩, by simp [intOf]; omega⟩
              · have z3' : decide (k ≤ i) = false := decide_eq_false (by omega)
                clear hab
                go_upto_region 13 with fail
                refine region_plan [([0, 1, 2, 3, 4, 5, 6, 7, 8, 9, 10, 11, 12, 13, 14, 15, 16, 17, 18, 19, 20, 21, 22, 23], [])] (fun w' => ∃ u : Ext wr wr.heap.size, w' = u.val) (by kernel_rfl) (by kernel_rfl) (fun _ _ _ _ _ h => h) ⟨⟨_, (Below.refl _ _).drew⟩, rfl⟩ ?_
                simp only [wpPlan, sel, List.take_succ_cons, List.take_zero, List.drop_succ_cons, List.drop_zero, List.cons_append, List.nil_append]
                repeat (go_big_quiet_step (fail))
                refine wpQuiet_nil ?_
                unfold wpChain
                have HE3 := Lib.hid (HE.out.on (Below.refl wr.heap.size wr).drew)
                clear u0 u1 u2 u3 u4 u5 u6 v0 v1 v2 v3 v4 v5 v6 s0 r0 q3 HE
                go_wp2_with fail
                exact ⟨⟨i + 1, by omega, by simp, HE3⟩, by simp [intOf]; omega⟩
            · have heq : ∀ V, (binOp .eql 29 (.agg #[.int .i64 y.r, .int .i64 y.m0, .int .i64 y.m1, .int .i64 y.w, .int .i64 y.pen.fg, .int .i64 y.pen.bg, .int .i64 y.pen.fl]) (.agg #[.int .i64 z.r, .int .i64 z.m0, .int .i64 z.m1, .int .i64 z.w, .int .i64 z.pen.fg, .int .i64 z.pen.bg, .int .i64 z.pen.fl])).run Try.prog V = .ok (.bool false) V := fun V => by
                have h := hcq V
                rw [decide_eq_false hyz] at h
                exact h
              have hd2 : (i + 1 = k ∨ (i : Int) = (k : Int) + x.w) ∧ y = blankC z.pen := by
                rcases hd with h | h | h
                · exact absurd ⟨by omega, h.2⟩ hab
                · exact absurd h hyz
                · exact h
              have hnb : ∀ V, (binOp .neq 29 (.agg #[.int .i64 y.r, .int .i64 y.m0, .int .i64 y.m1, .int .i64 y.w, .int .i64 y.pen.fg, .int .i64 y.pen.bg, .int .i64 y.pen.fl]) (.agg #[.int .i64 0, .int .i64 0, .int .i64 0, .int .i64 1, .int .i64 z.pen.fg, .int .i64 z.pen.bg, .int .i64 z.pen.fl])).run Try.prog V = .ok (.bool false) V := fun V => by
                have h := cell_neq y (blankC z.pen) V
                rw [decide_eq_true hd2.2] at h
                exact h
              have hd3 := hd2.1
              clear hd hcq hyz hd2
              rcases hd3 with hd3 | hd3
              · have z3' : decide (k ≤ i) = false := decide_eq_false (by omega)
                have z4' : ¬ (k : Int) ≤ (i : Int) := by omega
                have e1 : ((i : Int) != (k : Int) - 1) = false := by have h : (i : Int) = (k : Int) - 1 := by omega
                                                                     rw [h]; simp
                clear hab hd3
                go_upto_region 13 with fail
                refine region_plan [([0, 1, 2, 3, 4, 5, 6, 7, 8, 9, 10, 11, 12, 13, 14, 15, 16, 17, 18, 19, 20, 21, 22, 23], [])] (fun w' => ∃ u : Ext wr wr.heap.size, w' = u.val) (by kernel_rfl) (by kernel_rfl) (fun _ _ _ _ _ h => h) ⟨⟨_, (Below.refl _ _).drew⟩, rfl⟩ ?_
                simp only [wpPlan, sel, List.take_succ_cons, List.take_zero, List.drop_succ_cons, List.drop_zero, List.cons_append, List.nil_append]
                repeat (go_big_quiet_step (fail))
                refine wpQuiet_nil ?_
                unfold wpChain
                go_upto_region 14 with fail
                have hdr : Below wr.heap.size wr wr.drew := (Below.refl wr.heap.size wr).drew
                refine region_plan [([0, 1, 2, 3, 4, 5, 6, 7, 8, 9, 10, 11, 12, 13, 14, 15, 16, 17, 18, 19, 20, 21, 22, 23], [24]), ([25, 26], [])] (fun w' => ∃ u : Ext wr wr.heap.size, w' = u.val) (by kernel_rfl) (by kernel_rfl) (fun _ _ _ _ _ h => h) ⟨⟨_, hdr.drew⟩, rfl⟩ ?_
                simp only [wpPlan, sel, List.take_succ_cons, List.take_zero, List.drop_succ_cons, List.drop_zero, List.cons_append, List.nil_append]
                repeat (go_big_quiet_step (fail))
                refine wpQuiet_nil ?_
                unfold wpChain
                go_wp2_with fail
                refine (HB2.out _).mono ?_
                rintro e x7 ⟨rfl, hv⟩
                have hv7 : Below wr.heap.size wr x7 := hdr.drew.trans hv
                clear hv
                go_wp2_with fail
                refine ⟨⟨⟨_, hv7⟩, rfl⟩, ?_⟩
                unfold wpChain
                try simp only [Act.put, List.setIfInBounds_toArray, List.set_cons_succ, List.set_cons_zero]
                repeat (go_big_quiet_step (fail))
                refine wpQuiet_nil ?_
                unfold wpChain
                have HE3 := Lib.hid (HE.out.on hv7)
                clear u0 u1 u2 u3 u4 u5 u6 v0 v1 v2 v3 v4 v5 v6 s0 r0 q3 HE HB2 hv7 hdr
                go_wp2_with fail
                exact ⟨⟨i + 1, by omega, by simp, HE3⟩, by simp [intOf]; omega⟩
              · have hki : (k : Int) ≤ (i : Int) := by omega
                have z2' : ¬ (i : Int) < (k : Int) + x.w := by omega
                have e1 : ((i : Int) != (k : Int) - 1) = true := bne_iff_ne.2 (by omega)
                have e2 : ((i : Int) != (k : Int) + x.w) = false := by rw [hd3]; simp
                clear hab hd3
                go_upto_region 13 with fail
                refine region_plan [([0, 1, 2, 3, 4, 5, 6, 7, 8, 9, 10, 11, 12, 13, 14, 15, 16, 17, 18, 19, 20, 21, 22, 23], [])] (fun w' => ∃ u : Ext wr wr.heap.size, w' = u.val) (by kernel_rfl) (by kernel_rfl) (fun _ _ _ _ _ h => h) ⟨⟨_, (Below.refl _ _).drew⟩, rfl⟩ ?_
                simp only [wpPlan, sel, List.take_succ_cons, List.take_zero, List.drop_succ_cons, List.drop_zero, List.cons_append, List.nil_append]
                repeat (go_big_quiet_step (fail))
                refine wpQuiet_nil ?_
                unfold wpChain
                go_upto_region 14 with fail
                have hdr : Below wr.heap.size wr wr.drew := (Below.refl wr.heap.size wr).drew
                refine region_plan [([0, 1, 2, 3, 4, 5, 6, 7, 8, 9, 10, 11, 12, 13, 14, 15, 16, 17, 18, 19, 20, 21, 22, 23], [24]), ([25, 26], [])] (fun w' => ∃ u : Ext wr wr.heap.size, w' = u.val) (by kernel_rfl) (by kernel_rfl) (fun _ _ _ _ _ h => h) ⟨⟨_, hdr.drew⟩, rfl⟩ ?_
                simp only [wpPlan, sel, List.take_succ_cons, List.take_zero, List.drop_succ_cons, List.drop_zero, List.cons_append, List.nil_append]
                repeat (go_big_quiet_step (fail))
                refine wpQuiet_nil ?_
                unfold wpChain
                go_wp2_with fail
                refine (HB2.out _).mono ?_
                rintro e x7 ⟨rfl, hv⟩
                have hv7 : Below wr.heap.size wr x7 := hdr.drew.trans hv
                clear hv
                go_wp2_with fail
                refine ⟨⟨⟨_, hv7⟩, rfl⟩, ?_⟩
                unfold wpChain
                try simp only [Act.put, List.setIfInBounds_toArray, List.set_cons_succ, List.set_cons_zero]
                repeat (go_big_quiet_step (fail))
                refine wpQuiet_nil ?_
                unfold wpChain
                have HE3 := Lib.hid (HE.out.on hv7)
                clear u0 u1 u2 u3 u4 u5 u6 v0 v1 v2 v3 v4 v5 v6 s0 r0 q3 HE HB2 hv7 hdr
                go_wp2_with fail
                exact ⟨⟨i + 1, by omega, by simp, HE3⟩, by simp [intOf]; omega⟩
        · have zl : ¬ (i : Int) < (r.cs.length : Int) := by omega
          by_cases h2 : x.w = 2
          · have hcE := fun V (hV : Below wr.heap.size wr V) => hp s A3 c3 (k : Int) x V (HE.out.ins.on hV) HM.out.2.1 (by unfold I64; omega) HR.out.2
            rw [HHALF.out.2] at hcE
            simp only [rwV_eq, clV] at hcE
            unfold GivesRow at hcE
            simp only [rwV_eq] at hcE
            have hkl2 : k + 1 < s.cs.length := (List.getElem?_eq_some_iff.1 (HHALF.out.1 h2)).1
            obtain ⟨g3, o3, eB, bb, b0, b1, b2, b3, b4, b5, b6⟩ := HE.out.ins.at_ (HHALF.out.1 h2)
            subst eB
            simp only [halfC] at b3 b4 b5 b6
            have zs : (k : Int) + 1 < (s.cs.length : Int) := by omega
            have hcs := HE.out.ins.cap
            have hpe := fun V => pen_eql x.pen x.pen V
            rw [decide_eq_true rfl] at hpe
            have e3 : (x.w != 2) = false := by rw [h2]; rfl
            have v3 := Ext.cell (w := wr) (B := wr.heap.size) (p := ⟨g3, o3 + (k + 1) * 7 + 3, none⟩) bb b3
            have v4 := Ext.cell (w := wr) (B := wr.heap.size) (p := ⟨g3, o3 + (k + 1) * 7 + 4, none⟩) bb b4
            have v5 := Ext.cell (w := wr) (B := wr.heap.size) (p := ⟨g3, o3 + (k + 1) * 7 + 5, none⟩) bb b5
            have v6 := Ext.cell (w := wr) (B := wr.heap.size) (p := ⟨g3, o3 + (k + 1) * 7 + 6, none⟩) bb b6
            obtain ⟨m0, m1, m2, m3⟩ := HE.out.b3.four
            obtain ⟨p0, p1, p2, p3, p4, p5, p6⟩ := HE.out.rp.b2.sevenC
            have pb := HE.out.rp.b2.lt
            have mb := HE.out.b3.lt
            have s0 := Ext.cell (w := wr) (B := wr.heap.size) (p := ⟨gs, 0, none⟩) mb m0
            have s1 := Ext.cell (w := wr) (B := wr.heap.size) (p := ⟨gs, 1, none⟩) mb m1
            have s2 := Ext.cell (w := wr) (B := wr.heap.size) (p := ⟨gs, 2, none⟩) mb m2
            have s3 := Ext.cell (w := wr) (B := wr.heap.size) (p := ⟨gs, 3, none⟩) mb m3
            have q0 := Ext.cell (w := wr) (B := wr.heap.size) (p := ⟨w.heap.size + 1, 0, none⟩) pb p0
            have q1 := Ext.cell (w := wr) (B := wr.heap.size) (p := ⟨w.heap.size + 1, 1, none⟩) pb p1
            have q2 := Ext.cell (w := wr) (B := wr.heap.size) (p := ⟨w.heap.size + 1, 2, none⟩) pb p2
            have q3 := Ext.cell (w := wr) (B := wr.heap.size) (p := ⟨w.heap.size + 1, 3, none⟩) pb p3
            have q4 := Ext.cell (w := wr) (B := wr.heap.size) (p := ⟨w.heap.size + 1, 4, none⟩) pb p4
            have q5 := Ext.cell (w := wr) (B := wr.heap.size) (p := ⟨w.heap.size + 1, 5, none⟩) pb p5
            have q6 := Ext.cell (w := wr) (B := wr.heap.size) (p := ⟨w.heap.size + 1, 6, none⟩) pb p6
            have HC := Lib.hid hcE
            clear m0 m1 m2 m3 p0 p1 p2 p3 p4 p5 p6 pb mb hcE h2 b0 b1 b2 b3 b4 b5 b6 bb hkl2
            go_upto_region 16 with fail
            refine region_plan [([0, 1, 2, 3, 4, 5, 6, 7, 8, 9, 10, 11, 12, 13, 14, 15, 16, 17, 18, 19, 20, 21, 22, 23, 24, 25, 26, 27, 28, 29, 30, 31, 33], [32, 34]), ([35, 36], [])] (fun w' => ∃ u : Ext wr wr.heap.size, w' = u.val) (by kernel_rfl) (by kernel_rfl) (fun _ _ _ _ _ h => h) ⟨⟨_, (Below.refl _ _).drew⟩, rfl⟩ ?_
            simp only [wpPlan, sel, List.take_succ_cons, List.take_zero, List.drop_succ_cons, List.drop_zero, List.cons_append, List.nil_append]
            repeat (go_big_quiet_step (fail))
            refine wpQuiet_nil ?_
            unfold wpChain
            clear s0 s1 s2 s3 q0 q1 q2 q3 q4 q5 q6 v3 v4 v5 v6 hpe e3
            go_wp2_with fail
            refine (HC.out _ (Below.refl _ _).drew).mono ?_
            rintro e w7 ⟨A5, c5, rfl, hin5, hb5⟩
            have hb7 : Below wr.heap.size wr w7 := ((Below.refl _ _).drew).trans hb5
            have hE7 := HE.out.on hb7
            have hc2 := same_c s s A5 (some ⟨g3, o3, none⟩) c5 c3 w7 hin5 hE7.ins
            rw [decide_eq_true rfl] at hc2
            simp only [rwV_eq] at hc2
            have HB7 := Lib.hid (And.intro hb7 hE7.rp.bel)
            clear hin5 hb5 hb7 hE7 HE HC
            go_wp2_with fail
            refine ⟨⟨⟨_, HB7.out.1⟩, rfl⟩, ?_⟩
            unfold wpChain
            go_wp2_with fail
            refine hc2.mono ?_
            rintro e w8 ⟨rfl, hb8⟩
            have hb9 := HB7.out.1.trans (hb8.mono HB7.out.1.size)
            have hb10 := HB7.out.2.trans (hb8.mono HB7.out.2.size)
            clear hc2 hb8 HB7
            go_wp2_with fail
            refine ⟨⟨⟨_, hb9⟩, rfl⟩, ?_⟩
            unfold wpChain
            repeat (go_big_quiet_step (fail))
            refine wpQuiet_nil ?_
            unfold wpChain
            go_wp2_with fail
            go_ret
            exact ⟨rfl, hb10⟩
          · have hcE := fun V (hV : Below wr.heap.size wr V) => hp s A3 c3 (k : Int) x V (HE.out.ins.on hV) HM.out.2.1 (by unfold I64; omega) HR.out.2
            rw [HHALF.out.2] at hcE
            simp only [rwV_eq, clV] at hcE
            unfold GivesRow at hcE
            simp only [rwV_eq] at hcE
            have e3 : (x.w != 2) = true := bne_iff_ne.2 h2
            obtain ⟨m0, m1, m2, m3⟩ := HE.out.b3.four
            obtain ⟨p0, p1, p2, p3, p4, p5, p6⟩ := HE.out.rp.b2.sevenC
            have pb := HE.out.rp.b2.lt
            have mb := HE.out.b3.lt
            have s0 := Ext.cell (w := wr) (B := wr.heap.size) (p := ⟨gs, 0, none⟩) mb m0
            have s1 := Ext.cell (w := wr) (B := wr.heap.size) (p := ⟨gs, 1, none⟩) mb m1
            have s2 := Ext.cell (w := wr) (B := wr.heap.size) (p := ⟨gs, 2, none⟩) mb m2
            have s3 := Ext.cell (w := wr) (B := wr.heap.size) (p := ⟨gs, 3, none⟩) mb m3
            have q0 := Ext.cell (w := wr) (B := wr.heap.size) (p := ⟨w.heap.size + 1, 0, none⟩) pb p0
            have q1 := Ext.cell (w := wr) (B := wr.heap.size) (p := ⟨w.heap.size + 1, 1, none⟩) pb p1
            have q2 := Ext.cell (w := wr) (B := wr.heap.size) (p := ⟨w.heap.size + 1, 2, none⟩) pb p2
            have q3 := Ext.cell (w := wr) (B := wr.heap.size) (p := ⟨w.heap.size + 1, 3, none⟩) pb p3
            have q4 := Ext.cell (w := wr) (B := wr.heap.size) (p := ⟨w.heap.size + 1, 4, none⟩) pb p4
            have q5 := Ext.cell (w := wr) (B := wr.heap.size) (p := ⟨w.heap.size + 1, 5, none⟩) pb p5
            have q6 := Ext.cell (w := wr) (B := wr.heap.size) (p := ⟨w.heap.size + 1, 6, none⟩) pb p6
            have HC := Lib.hid hcE
            clear m0 m1 m2 m3 p0 p1 p2 p3 p4 p5 p6 pb mb hcE h2
            go_upto_region 16 with fail
            refine region_plan [([0, 1, 2, 3, 4, 5, 6, 7, 8, 9, 10, 11, 12, 13, 14, 15, 16, 17, 18, 19, 20, 21, 22, 23, 24, 25, 26, 27, 28, 29, 30, 31, 33], [32, 34]), ([35, 36], [])] (fun w' => ∃ u : Ext wr wr.heap.size, w' = u.val) (by kernel_rfl) (by kernel_rfl) (fun _ _ _ _ _ h => h) ⟨⟨_, (Below.refl _ _).drew⟩, rfl⟩ ?_
            simp only [wpPlan, sel, List.take_succ_cons, List.take_zero, List.drop_succ_cons, List.drop_zero, List.cons_append, List.nil_append]
            repeat (go_big_quiet_step (fail))
            refine wpQuiet_nil ?_
            unfold wpChain
            clear s0 s1 s2 s3 q0 q1 q2 q3 q4 q5 q6 e3
            go_wp2_with fail
            refine (HC.out _ (Below.refl _ _).drew).mono ?_
            rintro e w7 ⟨A5, c5, rfl, hin5, hb5⟩
            have hb7 : Below wr.heap.size wr w7 := ((Below.refl _ _).drew).trans hb5
            have hE7 := HE.out.on hb7
            have hc2 := same_c s s A5 A3 c5 c3 w7 hin5 hE7.ins
            rw [decide_eq_true rfl] at hc2
            simp only [rwV_eq] at hc2
            have HB7 := Lib.hid (And.intro hb7 hE7.rp.bel)
            clear hin5 hb5 hb7 hE7 HE HC
            go_wp2_with fail
            refine ⟨⟨⟨_, HB7.out.1⟩, rfl⟩, ?_⟩
            unfold wpChain
            go_wp2_with fail
            refine hc2.mono ?_
            rintro e w8 ⟨rfl, hb8⟩
            have hb9 := HB7.out.1.trans (hb8.mono HB7.out.1.size)
            have hb10 := HB7.out.2.trans (hb8.mono HB7.out.2.size)
            clear hc2 hb8 HB7
            go_wp2_with fail
            refine ⟨⟨⟨_, hb9⟩, rfl⟩, ?_⟩
            unfold wpChain
            repeat (go_big_quiet_step (fail))
            refine wpQuiet_nil ?_
            unfold wpChain
            go_wp2_with fail
            go_ret
            exact ⟨rfl, hb10⟩
    · have hne : ∀ V, (binOp .neq 29 (.agg #[.int .i64 y.r, .int .i64 y.m0, .int .i64 y.m1, .int .i64 y.w, .int .i64 y.pen.fg, .int .i64 y.pen.bg, .int .i64 y.pen.fl]) (.agg #[.int .i64 x.r, .int .i64 x.m0, .int .i64 x.m1, .int .i64 x.w, .int .i64 x.pen.fg, .int .i64 x.pen.bg, .int .i64 x.pen.fl])).run Try.prog V = .ok (.bool true) V := fun V => by
        have h := hcy V
        rw [decide_eq_false hyx] at h
        exact h
      have hsr : s = r := HM.out.1.1 (fun h => hyx (by have := HY.out.symm.trans h; injection this))
      have h1 := same_c s r A3 A c3 c W.drew (HE.out.ins.on (Below.refl _ _).drew) (HE.out.rp.inr.on (Below.refl _ _).drew)
      rw [decide_eq_true hsr] at h1
      simp only [rwV_eq] at h1
      have HH := Lib.hid h1
      clear hcy hyx hsr h1
      refine region_plan [([0, 1, 2, 3, 4, 5, 6], [])] (fun w' => ∃ u : Ext W W.heap.size, w' = u.val) (by kernel_rfl) (by kernel_rfl) (fun _ _ _ _ _ h => h) ⟨⟨_, (Below.refl _ _).drew⟩, rfl⟩ ?_
      simp only [wpPlan, sel, List.take_succ_cons, List.take_zero, List.drop_succ_cons, List.drop_zero, List.cons_append, List.nil_append]
      repeat (go_big_quiet_step (fail))
      refine wpQuiet_nil ?_
      unfold wpChain
      clear v0 v1 v2 v3 v4 v5 v6 q0 q1 q2 q3 q4 q5 q6 s0 hne
      obtain ⟨k0, k1, k2, k3⟩ := HE.out.rp.b1.four
      obtain ⟨m0, m1, m2, m3⟩ := HE.out.b3.four
      go_wp2_with fail
      refine HH.out.mono ?_
      rintro e w4 ⟨rfl, hb4⟩
      have hb := HE.out.rp.bel.drew
      have hb5 := hb.trans (hb4.mono hb.size)
      clear HH hb4 hb HE k0 k1 k2 k3 m0 m1 m2 m3
      go_wp2_with fail
      go_ret
      exact ⟨rfl, hb5⟩
  · rw [decide_eq_false hsane] at h1
    clear hsane
    go_wp2_with fail
    refine h1.mono ?_
    rintro e w2 ⟨rfl, hb2⟩
    have hb := (HE.out.on hb2).bel
    clear h1 hb2 HE k0 k1 k2 k3 a1
    go_wp2_with fail
    go_ret
    exact ⟨rfl, hb⟩
end Go.Proofs.Ytflpelpgnjdnkaa
