/- A law's own variables: a row, a pen, and a row that it is told. -/
import Derived.Test.YtflpelpgnjdnkaaMem08
import Derived.Test.YtflpelpgnjdnkaaMath08b
namespace Go.Proofs.Ytflpelpgnjdnkaa
open Go Go.RowKit
set_option linter.unusedVariables false
set_option linter.unusedSimpArgs false

theorem mend_ok {l : List Cl} (h : ∀ c ∈ l, ClOk c) : ∀ c ∈ mendL l, ClOk c := by
  intro c hc
  obtain ⟨i, hi⟩ := List.mem_iff_getElem?.1 hc
  rw [mend_at] at hi
  obtain ⟨d, hd, rfl⟩ := Option.map_eq_some_iff.1 hi
  have := h d (List.mem_of_getElem? hd)
  split
  · exact blank_ok this.2.2.2.2
  · exact this
/-- A row and a pen in the law's own variables. -/
structure RowP (w W : World) (r : Rw) (A : Option Addr) (c : Nat) (p : Pn) : Prop where
  b1 : Box W w.heap.size 24 #[.slice A r.cs.length c, .bool r.wrap, .int .i64 r.dir, .bool r.ex]
  b2 : Box W (w.heap.size + 1) 27 #[.int .i64 p.fg, .int .i64 p.bg, .int .i64 p.fl]
  inr : InC W A c r.cs
  bel : Below w.heap.size w W
theorem RowP.on {w W W' : World} {r : Rw} {A : Option Addr} {c : Nat} {p : Pn} (h : RowP w W r A c p) (hb : Below W.heap.size W W') : RowP w W' r A c p :=
  ⟨h.b1.below hb h.b1.lt, h.b2.below hb h.b2.lt, h.inr.on hb, h.bel.trans (hb.mono h.bel.size)⟩
theorem RowP.new {w : World} {r : Rw} {A : Option Addr} {c : Nat} (p : Pn) (h : InC w A c r.cs) : RowP w ((w.alloc (.cells #[.slice A r.cs.length c, .bool r.wrap, .int .i64 r.dir, .bool r.ex] 24)).alloc (.cells #[.int .i64 p.fg, .int .i64 p.bg, .int .i64 p.fl] 27)) r A c p := by
  have hb : Below w.heap.size w ((w.alloc (.cells #[.slice A r.cs.length c, .bool r.wrap, .int .i64 r.dir, .bool r.ex] 24)).alloc (.cells #[.int .i64 p.fg, .int .i64 p.bg, .int .i64 p.fl] 27)) := ((Below.refl _ _).alloc (Nat.le_refl _) _).alloc (by simp) _
  refine ⟨(Box.new w _ _).alloc _, ?_, h.on hb, hb⟩
  have h := Box.new (w.alloc (.cells #[.slice A r.cs.length c, .bool r.wrap, .int .i64 r.dir, .bool r.ex] 24)) 27 #[.int .i64 p.fg, .int .i64 p.bg, .int .i64 p.fl]
  simpa using h
/-- And what is told of it, in a variable of its own. -/
structure RowS (w W : World) (r : Rw) (A : Option Addr) (c : Nat) (p : Pn) (g : Nat) (s : Rw) (B : Option Addr) (d : Nat) : Prop where
  rp : RowP w W r A c p
  b3 : Box W g 24 #[.slice B s.cs.length d, .bool s.wrap, .int .i64 s.dir, .bool s.ex]
  ins : InC W B d s.cs
theorem RowS.on {w W W' : World} {r : Rw} {A : Option Addr} {c : Nat} {p : Pn} {g : Nat} {s : Rw} {B : Option Addr} {d : Nat} (h : RowS w W r A c p g s B d) (hb : Below W.heap.size W W') : RowS w W' r A c p g s B d :=
  ⟨h.rp.on hb, h.b3.below hb h.b3.lt, h.ins.on hb⟩
theorem RowS.new {w W : World} {r : Rw} {A : Option Addr} {c : Nat} {p : Pn} {s : Rw} {B : Option Addr} {d : Nat} (h : RowP w W r A c p) (hs : InC W B d s.cs) : RowS w (W.alloc (.cells #[.slice B s.cs.length d, .bool s.wrap, .int .i64 s.dir, .bool s.ex] 24)) r A c p W.heap.size s B d := by
  have hb := (Below.refl W.heap.size W).alloc (Nat.le_refl _) (.cells #[.slice B s.cs.length d, .bool s.wrap, .int .i64 s.dir, .bool s.ex] 24)
  exact ⟨h.on hb, Box.new W _ _, hs.on hb⟩
end Go.Proofs.Ytflpelpgnjdnkaa
