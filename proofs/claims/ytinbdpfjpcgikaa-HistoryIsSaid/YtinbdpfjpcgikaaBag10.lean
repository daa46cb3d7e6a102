/- A law's own variables, as lists: boxes, rows, cells. -/
import Derived.Test.YtinbdpfjpcgikaaBase6
namespace Go.Proofs.Ytinbdpfjpcgikaa
open Go Go.RowKit
set_option linter.unusedVariables false
set_option linter.unusedSimpArgs false

structure Bag (w V : World) (bs : List (Nat × TypeId × Array Value)) (rs : List (Option Addr × Nat × List Rl)) (cs : List (Option Addr × Nat × List Cl)) : Prop where
  bx : ∀ b ∈ bs, Box V b.1 b.2.1 b.2.2
  rx : ∀ r ∈ rs, InG V r.1 r.2.1 r.2.2
  cx : ∀ q ∈ cs, InC V q.1 q.2.1 q.2.2
  bl : Below w.heap.size w V
theorem Bag.on {w V V' : World} {bs : List (Nat × TypeId × Array Value)} {rs : List (Option Addr × Nat × List Rl)} {cs : List (Option Addr × Nat × List Cl)} (h : Bag w V bs rs cs) (hb : Below V.heap.size V V') : Bag w V' bs rs cs :=
  ⟨fun b k => (h.bx b k).below hb (h.bx b k).lt, fun r k => (h.rx r k).on hb, fun q k => (h.cx q k).on hb, h.bl.trans (hb.mono h.bl.size)⟩
theorem Bag.addB {w V : World} {bs : List (Nat × TypeId × Array Value)} {rs : List (Option Addr × Nat × List Rl)} {cs : List (Option Addr × Nat × List Cl)} (h : Bag w V bs rs cs) (t : TypeId) (vs : Array Value) : Bag w (V.alloc (.cells vs t)) ((V.heap.size, t, vs) :: bs) rs cs := by
  have h2 := h.on ((Below.refl _ _).alloc (Nat.le_refl _) (.cells vs t))
  refine ⟨fun b k => ?_, h2.rx, h2.cx, h2.bl⟩
  rcases List.mem_cons.1 k with rfl | k
  · exact Box.new V t vs
  · exact h2.bx b k
theorem Bag.addR {w V : World} {bs : List (Nat × TypeId × Array Value)} {rs : List (Option Addr × Nat × List Rl)} {cs : List (Option Addr × Nat × List Cl)} (h : Bag w V bs rs cs) {A : Option Addr} {c : Nat} {l : List Rl} (hr : InG V A c l) : Bag w V bs ((A, c, l) :: rs) cs :=
  ⟨h.bx, fun r k => (List.mem_cons.1 k).elim (fun e => e ▸ hr) (h.rx r), h.cx, h.bl⟩
theorem Bag.addC {w V : World} {bs : List (Nat × TypeId × Array Value)} {rs : List (Option Addr × Nat × List Rl)} {cs : List (Option Addr × Nat × List Cl)} (h : Bag w V bs rs cs) {A : Option Addr} {c : Nat} {l : List Cl} (hr : InC V A c l) : Bag w V bs rs ((A, c, l) :: cs) :=
  ⟨h.bx, h.rx, fun r k => (List.mem_cons.1 k).elim (fun e => e ▸ hr) (h.cx r), h.bl⟩
end Go.Proofs.Ytinbdpfjpcgikaa
