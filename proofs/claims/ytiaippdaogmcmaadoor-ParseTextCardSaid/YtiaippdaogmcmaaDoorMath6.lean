/- Letters as actions, plainly (chapter 6): when a state may be, what a letter makes of it and tells, what letters do; what the statements say of that. No program here. What the statements say of letters as actions, plainly. No program here. -/
import Derived.Test.YtiaippdaogmcmaaDoorMath05
import Derived.Test.YtiaippdaogmcmaaDoorMath03b
namespace Go.Proofs.YtiaippdaogmcmaaDoor
set_option linter.unusedVariables false
set_option linter.unusedSimpArgs false

structure S6 where
  at_ : Int
  inter : List Nat
  over : Bool
  par : Par
  text : List Nat
  kind : Nat
structure A6 where
  what : Int
  r : Int
  fin : Nat
  inter : List Nat
  par : List (List Int)
  text : List Nat
def midB (c : Nat) : Bool := decide (32 ≤ c ∧ c ≤ 47)
def signB (c : Nat) : Bool := decide (60 ≤ c ∧ c ≤ 63)
def interB : List Nat → Bool
  | [] => true
  | c :: l => (midB c || signB c) && l.all midB
def groundB (s : S6) : Bool := s.inter.isEmpty && (!s.over && (s.par.l.isEmpty && (s.text.isEmpty && decide (s.kind = 0))))
structure SaneS (s : S6) : Prop where
  lo : 0 ≤ s.at_
  hi : s.at_ ≤ 9
  entry : s.at_ = 3 → s.inter = []
  short : s.inter.length ≤ 2
  fits : s.text.length ≤ 1024
  par : SaneP s.par
  mid : interB s.inter = true
  ground : s.at_ = 0 → groundB s = true
instance (s : S6) : Decidable (SaneS s) :=
  if h : 0 ≤ s.at_ ∧ s.at_ ≤ 9 ∧ (s.at_ = 3 → s.inter = []) ∧ s.inter.length ≤ 2 ∧ s.text.length ≤ 1024 ∧ SaneP s.par ∧ interB s.inter = true ∧ (s.at_ = 0 → groundB s = true)
  then isTrue ⟨h.1, h.2.1, h.2.2.1, h.2.2.2.1, h.2.2.2.2.1, h.2.2.2.2.2.1, h.2.2.2.2.2.2.1, h.2.2.2.2.2.2.2⟩
  else isFalse fun k => h ⟨k.lo, k.hi, k.entry, k.short, k.fits, k.par, k.mid, k.ground⟩
def begunS (a : Int) : S6 := ⟨a, [], false, zeroP, [], 0⟩
def zeroS : S6 := begunS 0
theorem begun_sane {a : Int} (h1 : 0 ≤ a) (h2 : a ≤ 9) : SaneS (begunS a) :=
  ⟨h1, h2, fun _ => rfl, Nat.zero_le _, Nat.zero_le _, zero_sane, rfl, fun _ => rfl⟩
theorem zeroS_sane : SaneS zeroS := begun_sane (by decide) (by decide)
theorem ground_zero {s : S6} (h : SaneS s) (h0 : s.at_ = 0) : s = zeroS := by
  have hg := h.ground h0
  have hp := h.par.shut
  obtain ⟨a, i, o, ⟨pl, po⟩, t, k⟩ := s
  simp only [groundB, Bool.and_eq_true, List.isEmpty_iff, Bool.not_eq_true', decide_eq_true_eq] at hg
  obtain ⟨rfl, rfl, rfl, rfl, rfl⟩ := hg
  simp only at h0 hp
  subst h0
  rw [hp trivial]
  rfl

def actE (w : Int) (t : List Nat) (k : Nat) : A6 := ⟨w, 0, k, [], [], t⟩
def endedS (s : S6) : List A6 := if s.at_ = 7 then [actE 5 s.text 0] else if s.at_ = 8 then [actE 6 s.text 0] else if s.at_ = 9 then [actE 7 s.text s.kind] else []
def execS (r : Int) : List A6 := [⟨2, 0, r.toNat, [], [], []⟩]
def collectS (s : S6) (r a : Int) : S6 := if 2 ≤ s.inter.length then { s with at_ := a, over := true } else { s with at_ := a, inter := s.inter ++ [r.toNat] }
def kindS (k : Nat) : S6 := ⟨9, [], false, zeroP, [], k⟩
def highS (s : S6) (r : Int) : S6 × List A6 :=
  if r = 156 then (zeroS, endedS s) else if r = 144 then (begunS 8, endedS s) else if r = 155 then (begunS 3, endedS s) else if r = 157 then (begunS 7, endedS s)
  else if r = 152 then (kindS 88, endedS s) else if r = 158 then (kindS 94, endedS s) else if r = 159 then (kindS 95, endedS s) else (zeroS, endedS s ++ execS r)
def addS (s : S6) (r : Int) : S6 := if s.text.length + (putF r).length ≤ 1024 then { s with text := s.text ++ putF r } else s
def textS (s : S6) (r : Int) : S6 × List A6 :=
  if r = 7 ∧ s.at_ = 7 then (zeroS, endedS s) else if (0 ≤ r ∧ r < 32) ∨ r = 127 then (s, []) else (addS s r, [])
def escS (s : S6) (r : Int) : S6 × List A6 :=
  if r ≤ 47 then (collectS s r 2, [])
  else if s.at_ = 1 ∧ r = 91 then (begunS 3, [])
  else if s.at_ = 1 ∧ r = 93 then (begunS 7, [])
  else if s.at_ = 1 ∧ r = 80 then (begunS 8, [])
  else if s.at_ = 1 ∧ (r = 88 ∨ r = 94 ∨ r = 95) then (kindS r.toNat, [])
  else (zeroS, if s.over then [] else [⟨3, 0, r.toNat, s.inter, [], []⟩])
def finalS (s : S6) (r : Int) : S6 × List A6 := (zeroS, if s.over then [] else [⟨4, 0, r.toNat, s.inter, s.par.l, []⟩])
def ctlS (s : S6) (r : Int) : S6 × List A6 :=
  if 64 ≤ r then (if s.at_ = 6 then (zeroS, []) else finalS s r)
  else if s.at_ = 6 then (s, [])
  else if r ≤ 47 then (collectS s r 5, [])
  else if s.at_ = 5 then ({ s with at_ := 6 }, [])
  else if 60 ≤ r then (if s.at_ = 3 then (collectS s r 4, []) else ({ s with at_ := 6 }, []))
  else ({ s with at_ := 4, par := stepP s.par r.toNat }, [])
def rStepS (s : S6) (r : Int) : S6 × List A6 :=
  if r = 24 ∨ r = 26 then (zeroS, execS r)
  else if r = 27 then (begunS 1, endedS s)
  else if 128 ≤ r ∧ r ≤ 159 then highS s r
  else if 7 ≤ s.at_ then textS s r
  else if 0 ≤ r ∧ r < 32 then (s, execS r)
  else if r = 127 then (s, [])
  else if r < 0 ∨ 159 < r ∨ s.at_ = 0 then (zeroS, [⟨1, r, 0, [], [], []⟩])
  else if s.at_ ≤ 2 then escS s r
  else ctlS s r
def stepS (s : S6) (r : Int) : S6 × List A6 := if SaneS s then rStepS s r else (zeroS, [])
def oneS (x : S6 × List A6) (r : Int) : S6 × List A6 := ((stepS x.1 r).1, x.2 ++ (stepS x.1 r).2)
def feedS (s : S6) (l : List Int) : S6 × List A6 := if SaneS s then l.foldl oneS (s, []) else (zeroS, [])

/- A state may be whatever comes. -/
theorem interB_snoc {l : List Nat} {c : Nat} (h : interB l = true) (hc : midB c = true) : interB (l ++ [c]) = true := by
  cases l with
  | nil => simp [interB, hc]
  | cons x l =>
    simp only [interB, List.cons_append, Bool.and_eq_true, List.all_append] at h ⊢
    exact ⟨h.1, h.2, by simp [hc]⟩
theorem collect_sane {s : S6} {r a : Int} (h : SaneS s) (ha : 1 ≤ a ∧ a ≤ 9 ∧ a ≠ 3) (hr : (midB r.toNat = true) ∨ (s.inter = [] ∧ signB r.toNat = true)) : SaneS (collectS s r a) := by
  unfold collectS
  split
  · exact ⟨by simp only; omega, by simp only; omega, fun k => absurd k ha.2.2, h.short, h.fits, h.par, h.mid, fun k => by simp only at k; omega⟩
  · rename_i hl
    refine ⟨by simp only; omega, by simp only; omega, fun k => absurd k ha.2.2, by simp only [List.length_append, List.length_singleton]; omega, h.fits, h.par, ?_, fun k => by simp only at k; omega⟩
    rcases hr with hr | ⟨hi, hr⟩
    · exact interB_snoc h.mid hr
    · simp only [hi, List.nil_append, interB, hr, Bool.or_true, List.all_nil, Bool.and_true]
theorem kind_sane (k : Nat) : SaneS (kindS k) :=
  ⟨by simp [kindS], by simp [kindS], fun _ => rfl, Nat.zero_le _, Nat.zero_le _, zero_sane, rfl, fun h => by simp [kindS] at h⟩
theorem put_len (r : Int) : 1 ≤ (putF r).length ∧ (putF r).length ≤ 4 := by
  unfold putF bytesF
  repeat' split
  all_goals simp
theorem add_sane {s : S6} {r : Int} (h : SaneS s) (h7 : 7 ≤ s.at_) : SaneS (addS s r) := by
  unfold addS
  split
  · rename_i hl
    exact ⟨h.lo, h.hi, h.entry, h.short, by simp only [List.length_append]; exact hl, h.par, h.mid, fun k => by simp only at k; omega⟩
  · exact h
theorem rstep_sane {s : S6} {r : Int} (h : SaneS s) : SaneS (rStepS s r).1 := by
  have hz := zeroS_sane
  have h3 : SaneS (begunS 3) := begun_sane (by decide) (by decide)
  have h7 : SaneS (begunS 7) := begun_sane (by decide) (by decide)
  have h8 : SaneS (begunS 8) := begun_sane (by decide) (by decide)
  have h1 : SaneS (begunS 1) := begun_sane (by decide) (by decide)
  have hlo := h.lo
  have hhi := h.hi
  unfold rStepS
  split
  · exact hz
  split
  · exact h1
  split
  · unfold highS
    repeat' split
    all_goals first | exact hz | exact h8 | exact h3 | exact h7 | exact kind_sane _
  split
  · rename_i h7'
    unfold textS
    repeat' split
    all_goals first | exact hz | exact h | exact add_sane h h7'
  split
  · exact h
  split
  · exact h
  split
  · exact hz
  split
  · rename_i hr1 _ _ _ hr2 _
    unfold escS
    split
    · exact collect_sane h (by omega) (.inl (by simp [midB]; omega))
    · repeat' split
      all_goals first | exact hz | exact h8 | exact h3 | exact h7 | exact kind_sane _
  · rename_i hr3 _ _ hr0 hr1 hr2 ha
    have hne : s.at_ ≠ 0 := by omega
    unfold ctlS finalS
    split
    · split
      all_goals exact hz
    split
    · exact h
    split
    · exact collect_sane h (by omega) (.inl (by simp [midB]; omega))
    split
    · exact ⟨by simp, by simp, fun k => by simp at k, h.short, h.fits, h.par, h.mid, fun k => by simp at k⟩
    split
    · split
      · rename_i h3'
        exact collect_sane h (by omega) (.inr ⟨h.entry h3', by simp [signB]; omega⟩)
      · exact ⟨by simp, by simp, fun k => by simp at k, h.short, h.fits, h.par, h.mid, fun k => by simp at k⟩
    · exact ⟨by simp, by simp, fun k => by simp at k, h.short, h.fits, step_sane, h.mid, fun k => by simp at k⟩
theorem step6_sane (s : S6) (r : Int) : SaneS (stepS s r).1 := by
  unfold stepS
  split
  · rename_i h; exact rstep_sane h
  · exact zeroS_sane
end Go.Proofs.YtiaippdaogmcmaaDoor

namespace Go.Proofs.YtiaippdaogmcmaaDoor
set_option linter.unusedVariables false
set_option linter.unusedSimpArgs false

theorem fold_acc (l : List Int) (s : S6) (out : List A6) : l.foldl oneS (s, out) = ((l.foldl oneS (s, [])).1, out ++ (l.foldl oneS (s, [])).2) := by
  induction l generalizing s out with
  | nil => simp
  | cons r l ih =>
    simp only [List.foldl_cons]
    have e1 : oneS (s, out) r = ((stepS s r).1, out ++ (stepS s r).2) := rfl
    have e2 : oneS (s, []) r = ((stepS s r).1, (stepS s r).2) := by simp [oneS]
    rw [e1, e2, ih, ih (stepS s r).1 (stepS s r).2]
    simp
theorem fold_sane (l : List Int) (s : S6) (out : List A6) (h : SaneS s) : SaneS (l.foldl oneS (s, out)).1 := by
  induction l generalizing s out with
  | nil => exact h
  | cons r l ih => exact ih _ _ (step6_sane s r)
theorem feed6_fold {s : S6} (h : SaneS s) (l : List Int) : feedS s l = l.foldl oneS (s, []) := by unfold feedS; rw [if_pos h]
theorem feed6_sane (s : S6) (l : List Int) : SaneS (feedS s l).1 := by
  unfold feedS
  split
  · rename_i h; exact fold_sane l s [] h
  · exact zeroS_sane
theorem feed6_nil {s : S6} (h : SaneS s) : feedS s [] = (s, []) := by rw [feed6_fold h]; rfl
theorem feed6_cons {s : S6} (h : SaneS s) (r : Int) (l : List Int) : feedS s (r :: l) = ((feedS (stepS s r).1 l).1, (stepS s r).2 ++ (feedS (stepS s r).1 l).2) := by
  rw [feed6_fold h, feed6_fold (step6_sane s r), List.foldl_cons]
  have e1 : oneS (s, []) r = ((stepS s r).1, (stepS s r).2) := by simp [oneS]
  rw [e1, fold_acc]
theorem feed6_app {s : S6} (h : SaneS s) (a b : List Int) : feedS s (a ++ b) = ((feedS (feedS s a).1 b).1, (feedS s a).2 ++ (feedS (feedS s a).1 b).2) := by
  rw [feed6_fold h, List.foldl_append]
  rw [← feed6_fold h]
  have hs := feed6_sane s a
  rw [feed6_fold hs]
  have : feedS s a = ((feedS s a).1, (feedS s a).2) := rfl
  rw [this, fold_acc]
theorem step_raw6 {s : S6} (h : SaneS s) (r : Int) : stepS s r = rStepS s r := by unfold stepS; rw [if_pos h]
theorem step_cancel {s : S6} (h : SaneS s) : stepS s 24 = (zeroS, [⟨2, 0, 24, [], [], []⟩]) := by
  rw [step_raw6 h]; unfold rStepS; rw [if_pos (.inl rfl)]; rfl

/- A sequence is told as it stands. -/
def csiS (a : Int) (mid : List Nat) (p : Par) : S6 := ⟨a, mid, false, p, [], 0⟩
theorem csi_sane {a : Int} {mid : List Nat} {p : Par} (ha : a = 3 ∨ a = 4 ∨ a = 5) (hm : mid.length ≤ 2) (hi : interB mid = true) (h3 : a = 3 → mid = []) (hp : SaneP p) : SaneS (csiS a mid p) :=
  ⟨by simp [csiS]; omega, by simp [csiS]; omega, h3, hm, Nat.zero_le _, hp, hi, fun k => by simp [csiS] at k; omega⟩
theorem csi_byte {a : Int} {mid : List Nat} {p : Par} (ha : a = 3 ∨ a = 4) {c : Nat} (hc : isByte c) (h : SaneS (csiS a mid p)) : stepS (csiS a mid p) (c : Int) = (csiS 4 mid (stepP p c), []) := by
  rw [step_raw6 h]
  have hc' : 48 ≤ c ∧ c ≤ 59 := by unfold isByte isDig at hc; omega
  unfold rStepS
  rw [if_neg (by omega), if_neg (by omega), if_neg (by omega), if_neg (by simp [csiS]; omega), if_neg (by omega), if_neg (by omega), if_neg (by simp [csiS]; omega), if_neg (by simp [csiS]; omega)]
  unfold ctlS
  rw [if_neg (by omega), if_neg (by simp [csiS]; omega), if_neg (by omega), if_neg (by simp [csiS]; omega), if_neg (by omega)]
  simp [csiS]
theorem csi_bytes (bs : List Nat) (hb : ∀ c ∈ bs, isByte c) {a : Int} {mid : List Nat} {p : Par} (ha : a = 3 ∨ a = 4) (h : SaneS (csiS a mid p)) (h1 : mid.length ≤ 2) (h2 : interB mid = true) :
    ∃ a', (a' = 3 ∨ a' = 4) ∧ (a' = 3 → mid = []) ∧ feedS (csiS a mid p) (bs.map fun c : Nat => (c : Int)) = (csiS a' mid (runP p bs), []) := by
  induction bs generalizing a p with
  | nil => exact ⟨a, ha, h.entry, by rw [List.map_nil, feed6_nil h]; rfl⟩
  | cons c bs ih =>
    have hc := hb c (by simp)
    have h4 : SaneS (csiS 4 mid (stepP p c)) := csi_sane (.inr (.inl rfl)) h1 h2 (fun k => absurd k (by decide)) step_sane
    obtain ⟨a', h3, h5, h6⟩ := ih (fun x hx => hb x (by simp [hx])) (.inr rfl) h4
    refine ⟨a', h3, h5, ?_⟩
    rw [List.map_cons, feed6_cons h, csi_byte ha hc h, h6]
    rfl
theorem csi_mid {a : Int} {mid : List Nat} {p : Par} (ha : a = 3 ∨ a = 4) {c : Nat} (hc : midB c = true) (hm : mid.length ≤ 1) (h : SaneS (csiS a mid p)) : stepS (csiS a mid p) (c : Int) = (csiS 5 (mid ++ [c]) p, []) := by
  rw [step_raw6 h]
  have hc' : 32 ≤ c ∧ c ≤ 47 := by simpa [midB] using hc
  unfold rStepS
  rw [if_neg (by omega), if_neg (by omega), if_neg (by omega), if_neg (by simp [csiS]; omega), if_neg (by omega), if_neg (by omega), if_neg (by simp [csiS]; omega), if_neg (by simp [csiS]; omega)]
  unfold ctlS
  rw [if_neg (by omega), if_neg (by simp [csiS]; omega), if_pos (by omega)]
  unfold collectS
  rw [if_neg (by simp [csiS]; omega)]
  simp [csiS]
theorem csi_sign {c : Nat} (hc : signB c = true) : stepS (begunS 3) (c : Int) = (csiS 4 [c] zeroP, []) := by
  rw [step_raw6 (begun_sane (by decide) (by decide))]
  have hc' : 60 ≤ c ∧ c ≤ 63 := by simpa [signB] using hc
  unfold rStepS
  rw [if_neg (by omega), if_neg (by omega), if_neg (by omega), if_neg (by simp [begunS]), if_neg (by omega), if_neg (by omega), if_neg (by simp [begunS]; omega), if_neg (by simp [begunS])]
  unfold ctlS
  rw [if_neg (by omega), if_neg (by simp [begunS]), if_neg (by omega), if_neg (by simp [begunS]), if_pos (by omega), if_pos (by simp [begunS])]
  unfold collectS
  rw [if_neg (by simp [begunS])]
  simp [csiS, begunS]
theorem csi_final {a : Int} {mid : List Nat} {p : Par} (ha : a = 3 ∨ a = 4 ∨ a = 5) {f : Nat} (hf : 64 ≤ f ∧ f ≤ 126) (h : SaneS (csiS a mid p)) : stepS (csiS a mid p) (f : Int) = (zeroS, [⟨4, 0, f, mid, p.l, []⟩]) := by
  rw [step_raw6 h]
  unfold rStepS
  rw [if_neg (by omega), if_neg (by omega), if_neg (by omega), if_neg (by simp [csiS]; omega), if_neg (by omega), if_neg (by omega), if_neg (by simp [csiS]; omega), if_neg (by simp [csiS]; omega)]
  unfold ctlS
  rw [if_pos (by omega), if_neg (by simp [csiS]; omega)]
  unfold finalS
  simp [csiS]
theorem esc_csi : feedS zeroS [27, 91] = (begunS 3, []) := by kernel_rfl
theorem csi_feed (mid more bs : List Nat) (f : Nat) (hmid : mid = [] ∨ ∃ c, signB c = true ∧ mid = [c]) (hmore : more = [] ∨ ∃ c, midB c = true ∧ more = [c]) (hb : ∀ c ∈ bs, isByte c) (hf : 64 ≤ f ∧ f ≤ 126) :
    feedS zeroS (([27, 91] ++ mid ++ bs ++ more ++ [f]).map fun c : Nat => (c : Int)) = (zeroS, [⟨4, 0, f, mid ++ more, (runP zeroP bs).l, []⟩]) := by
  have e0 : ([27, 91] : List Nat).map (fun c : Nat => (c : Int)) = [27, 91] := rfl
  have hm1 : mid.length ≤ 1 ∧ interB mid = true := by
    rcases hmid with rfl | ⟨c, hc, rfl⟩
    · exact ⟨by simp, rfl⟩
    · exact ⟨by simp, by simp [interB, hc]⟩
  have h1 : ∃ a, (a = 3 ∨ a = 4) ∧ (a = 3 → mid = []) ∧ feedS zeroS (([27, 91] ++ mid).map fun c : Nat => (c : Int)) = (csiS a mid zeroP, []) := by
    rcases hmid with rfl | ⟨c, hc, rfl⟩
    · refine ⟨3, .inl rfl, fun _ => rfl, ?_⟩
      rw [List.append_nil, e0, esc_csi]; rfl
    · refine ⟨4, .inr rfl, fun h => by omega, ?_⟩
      rw [List.map_append, e0, feed6_app zeroS_sane, esc_csi]
      simp only [List.map_cons, List.map_nil]
      rw [feed6_cons (begun_sane (by decide) (by decide)), csi_sign hc, feed6_nil (csi_sane (.inr (.inl rfl)) (by simp) (by simp [interB, hc]) (fun k => absurd k (by decide)) zero_sane)]
      rfl
  obtain ⟨a, ha, ha3, h1⟩ := h1
  have hs1 : SaneS (csiS a mid zeroP) := csi_sane (by omega) (by omega) hm1.2 ha3 zero_sane
  obtain ⟨a', ha', ha3', h2⟩ := csi_bytes bs hb ha hs1 (by omega) hm1.2
  have hrun := run_sane zero_sane bs
  have hs2 : SaneS (csiS a' mid (runP zeroP bs)) := csi_sane (by omega) (by omega) hm1.2 ha3' hrun
  have h3 : ∃ a, (a = 3 ∨ a = 4 ∨ a = 5) ∧ SaneS (csiS a (mid ++ more) (runP zeroP bs)) ∧ feedS (csiS a' mid (runP zeroP bs)) (more.map fun c : Nat => (c : Int)) = (csiS a (mid ++ more) (runP zeroP bs), []) := by
    rcases hmore with rfl | ⟨c, hc, rfl⟩
    · refine ⟨a', by omega, by rw [List.append_nil]; exact hs2, ?_⟩
      rw [List.map_nil, feed6_nil hs2, List.append_nil]
    · have hs5 : SaneS (csiS 5 (mid ++ [c]) (runP zeroP bs)) := csi_sane (.inr (.inr rfl)) (by simp; omega) (interB_snoc hm1.2 hc) (fun k => absurd k (by decide)) hrun
      refine ⟨5, by omega, hs5, ?_⟩
      simp only [List.map_cons, List.map_nil]
      rw [feed6_cons hs2, csi_mid ha' hc hm1.1 hs2, feed6_nil hs5]
      rfl
  obtain ⟨a5, ha5, hs5, h3⟩ := h3
  rw [List.map_append, feed6_app zeroS_sane, List.map_append, feed6_app zeroS_sane, List.map_append, feed6_app zeroS_sane, h1]
  simp only
  rw [h2]
  simp only
  rw [h3]
  simp only [List.map_cons, List.map_nil]
  rw [feed6_cons hs5, csi_final ha5 hf hs5, feed6_nil zeroS_sane]
  rfl

/- A string is told whole. -/
def oscS (t : List Nat) : S6 := ⟨7, [], false, zeroP, t, 0⟩
theorem osc_sane {t : List Nat} (h : t.length ≤ 1024) : SaneS (oscS t) := ⟨by simp [oscS], by simp [oscS], fun _ => rfl, Nat.zero_le _, h, zero_sane, rfl, fun k => by simp [oscS] at k⟩
theorem put_plain {c : Nat} (hc : 32 ≤ c ∧ c ≤ 126) : putF (c : Int) = [c] := by
  unfold putF
  have : normF (c : Int) = c := norm_id (by unfold LetB; omega)
  rw [this]
  unfold bytesF
  rw [if_pos (by omega)]
theorem osc_byte {t : List Nat} (h : t.length ≤ 1024) {c : Nat} (hc : 32 ≤ c ∧ c ≤ 126) : stepS (oscS t) (c : Int) = (oscS (if t.length < 1024 then t ++ [c] else t), []) := by
  rw [step_raw6 (osc_sane h)]
  unfold rStepS
  rw [if_neg (by omega), if_neg (by omega), if_neg (by omega), if_pos (by simp [oscS])]
  unfold textS
  rw [if_neg (by omega), if_neg (by omega)]
  unfold addS
  rw [put_plain hc]
  split <;> rename_i h1 <;> split <;> rename_i h2 <;> simp [oscS] at h1 h2 ⊢ <;> omega
theorem osc_bytes (bs : List Nat) (hb : ∀ c ∈ bs, 32 ≤ c ∧ c ≤ 126) (t : List Nat) (h : t.length ≤ 1024) : feedS (oscS t) (bs.map fun c : Nat => (c : Int)) = (oscS ((t ++ bs).take 1024), []) := by
  induction bs generalizing t with
  | nil => rw [List.map_nil, feed6_nil (osc_sane h), List.append_nil, List.take_of_length_le h]
  | cons c bs ih =>
    have hc := hb c (by simp)
    rw [List.map_cons, feed6_cons (osc_sane h), osc_byte h hc]
    simp only
    split
    · rename_i hl
      rw [ih (fun x hx => hb x (by simp [hx])) _ (by simp; omega)]
      simp
    · rename_i hl
      rw [ih (fun x hx => hb x (by simp [hx])) _ h]
      have h1024 : t.length = 1024 := by omega
      rw [List.take_append_of_le_length (by omega), List.take_append_of_le_length (by omega)]
      rfl
theorem osc_bell {t : List Nat} (h : t.length ≤ 1024) : feedS (oscS t) [7] = (zeroS, [actE 5 t 0]) := by
  rw [feed6_cons (osc_sane h), step_raw6 (osc_sane h)]
  have : rStepS (oscS t) 7 = (zeroS, [actE 5 t 0]) := by
    unfold rStepS
    rw [if_neg (by omega), if_neg (by omega), if_neg (by omega), if_pos (by simp [oscS])]
    unfold textS
    rw [if_pos ⟨rfl, rfl⟩]
    rfl
  rw [this, feed6_nil zeroS_sane]
  rfl
theorem osc_st {t : List Nat} (h : t.length ≤ 1024) : feedS (oscS t) [27, 92] = (zeroS, [actE 5 t 0, ⟨3, 0, 92, [], [], []⟩]) := by
  rw [feed6_cons (osc_sane h), step_raw6 (osc_sane h)]
  have : rStepS (oscS t) 27 = (begunS 1, [actE 5 t 0]) := by
    unfold rStepS
    rw [if_neg (by omega), if_pos rfl]
    rfl
  rw [this]
  have e : feedS (begunS 1) [92] = (zeroS, [⟨3, 0, 92, [], [], []⟩]) := by kernel_rfl
  rw [e]
  rfl
theorem esc_osc : feedS zeroS [27, 93] = (oscS [], []) := by kernel_rfl
theorem osc_feed (bs e : List Nat) (hb : ∀ c ∈ bs, 32 ≤ c ∧ c ≤ 126) (x : S6 × List A6) (he : ∀ t : List Nat, t.length ≤ 1024 → t = bs.take 1024 → feedS (oscS t) (e.map fun c : Nat => (c : Int)) = x) :
    feedS zeroS (([27, 93] ++ bs ++ e).map fun c : Nat => (c : Int)) = x := by
  have e0 : ([27, 93] : List Nat).map (fun c : Nat => (c : Int)) = [27, 93] := rfl
  rw [List.map_append, feed6_app zeroS_sane, List.map_append, feed6_app zeroS_sane, e0, esc_osc]
  simp only
  rw [osc_bytes bs hb [] (by simp)]
  simp only [List.nil_append]
  rw [he _ (by rw [List.length_take]; omega) rfl]

/- No more actions than letters. -/
theorem few_step {s : S6} (h : SaneS s) (r : Int) : (stepS s r).2.length ≤ 2 ∧ ((stepS s r).2.length = 2 → 7 ≤ s.at_) ∧ ∀ a ∈ (stepS s r).2, (1 ≤ a.what ∧ a.what ≤ 7) ∧ a.text.length ≤ 1024 ∧ a.inter.length ≤ 2 ∧ a.par.length ≤ 16 := by
  rw [step_raw6 h]
  have hf := h.fits
  have hs := h.short
  have hp := h.par.few
  have hend : (endedS s).length ≤ 1 ∧ ((endedS s).length = 1 → 7 ≤ s.at_) ∧ ∀ a ∈ endedS s, (1 ≤ a.what ∧ a.what ≤ 7) ∧ a.text.length ≤ 1024 ∧ a.inter.length ≤ 2 ∧ a.par.length ≤ 16 := by
    unfold endedS
    repeat' split
    all_goals (refine ⟨by simp, by simp; try omega, ?_⟩; simp [actE]; try exact hf)
  have hex : ∀ r : Int, ∀ a ∈ execS r, (1 ≤ a.what ∧ a.what ≤ 7) ∧ a.text.length ≤ 1024 ∧ a.inter.length ≤ 2 ∧ a.par.length ≤ 16 := by
    intro r a ha; simp [execS] at ha; subst ha; simp
  have e1 : ∀ l : List A6, l = endedS s → l.length ≤ 2 ∧ (l.length = 2 → 7 ≤ s.at_) ∧ ∀ a ∈ l, (1 ≤ a.what ∧ a.what ≤ 7) ∧ a.text.length ≤ 1024 ∧ a.inter.length ≤ 2 ∧ a.par.length ≤ 16 := by
    rintro l rfl
    exact ⟨by omega, by omega, hend.2.2⟩
  have e2 : ∀ r : Int, (execS r).length ≤ 2 ∧ ((execS r).length = 2 → 7 ≤ s.at_) ∧ ∀ a ∈ execS r, (1 ≤ a.what ∧ a.what ≤ 7) ∧ a.text.length ≤ 1024 ∧ a.inter.length ≤ 2 ∧ a.par.length ≤ 16 := fun r =>
    ⟨by simp [execS], by simp [execS], hex r⟩
  have e3 : ([] : List A6).length ≤ 2 ∧ (([] : List A6).length = 2 → 7 ≤ s.at_) ∧ ∀ a ∈ ([] : List A6), (1 ≤ a.what ∧ a.what ≤ 7) ∧ a.text.length ≤ 1024 ∧ a.inter.length ≤ 2 ∧ a.par.length ≤ 16 := ⟨by simp, by simp, by simp⟩
  have e4 : ∀ x : A6, (1 ≤ x.what ∧ x.what ≤ 7) ∧ x.text.length ≤ 1024 ∧ x.inter.length ≤ 2 ∧ x.par.length ≤ 16 → ([x] : List A6).length ≤ 2 ∧ (([x] : List A6).length = 2 → 7 ≤ s.at_) ∧ ∀ a ∈ [x], (1 ≤ a.what ∧ a.what ≤ 7) ∧ a.text.length ≤ 1024 ∧ a.inter.length ≤ 2 ∧ a.par.length ≤ 16 := by
    intro x hx
    exact ⟨by simp, by simp, by intro a ha; simp at ha; subst ha; exact hx⟩
  unfold rStepS
  split
  · exact e2 r
  split
  · exact e1 _ rfl
  split
  · unfold highS
    repeat' split
    all_goals first | exact e1 _ rfl | skip
    refine ⟨by simp [execS]; omega, by simp [execS]; intro h; exact hend.2.1 h, ?_⟩
    intro a ha
    rcases List.mem_append.1 ha with ha | ha
    · exact hend.2.2 a ha
    · exact hex r a ha
  split
  · unfold textS
    repeat' split
    all_goals first | exact e1 _ rfl | exact e3
  split
  · exact e2 r
  split
  · exact e3
  split
  · exact e4 _ (by simp)
  split
  · unfold escS
    repeat' split
    all_goals first | exact e3 | exact e4 _ (by simp; exact hs)
  · unfold ctlS finalS
    repeat' split
    all_goals first | exact e3 | exact e4 _ (by simp; exact ⟨hs, hp⟩)
theorem feed_few (l : List Int) {s : S6} (h : SaneS s) : (feedS s l).2.length ≤ 2 * l.length := by
  induction l generalizing s with
  | nil => rw [feed6_nil h]; simp
  | cons r l ih =>
    rw [feed6_cons h]
    have h1 := (few_step h r).1
    have h2 := ih (step6_sane s r)
    simp only [List.length_append, List.length_cons]
    omega
end Go.Proofs.YtiaippdaogmcmaaDoor
