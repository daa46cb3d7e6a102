/- Forms are told once: all ways together. -/
import Derived.Test.YthlkpcfpapiigaaDoorFormsL0
import Derived.Test.YthlkpcfpapiigaaDoorFormsL1
import Derived.Test.YthlkpcfpapiigaaDoorFormsL2
namespace Go.Proofs.YthlkpcfpapiigaaDoor
open Go Go.RowKit
set_option linter.unusedVariables false

theorem formsLaw_c (a b i j : Int) (w : World) (hs : Spc w) : Calls Tryd.prog 4 #[.int .i64 a, .int .i64 b, .int .i64 i, .int .i64 j] w fun e w' => e = .returned (.bool true) ∧ Below w.heap.size w w' := by
  obtain ⟨ki, h3i, hi⟩ := and_3 i
  obtain ⟨kj, h3j, hk⟩ := and_3 j
  obtain ⟨x, y, s0, s1, s2, s3, jn, hF, tj, hc, hd⟩ := forms_facts a b ki kj h3i h3j
  have ne : ∀ p q : Int, p = q → (p != q) = false := fun p q h => by simpa using h
  have nt : ∀ p q : Int, p ≠ q → (p != q) = true := fun p q h => by simpa using h
  have et : ∀ p q : Int, p = q → (p == q) = true := fun p q h => beq_iff_eq.2 h
  have ef : ∀ p q : Int, p ≠ q → (p == q) = false := fun p q h => beq_eq_false_iff_ne.2 h
  rcases hd with ⟨rfl, h0⟩ | ⟨rfl, h02, h13⟩ | ⟨h0, h1⟩
  · rcases hc with h | ⟨h, hx⟩ | ⟨h, hx, hxa⟩ | ⟨h, hx, hxa, hyb⟩
    · exact formsLaw_00 a b i j x y s0 s1 s2 s3 ki kj w hs h3i h3j hi hk hF tj (ne _ _ h) (et _ _ h0)
    · exact formsLaw_01 a b i j x y s0 s1 s2 s3 ki kj w hs h3i h3j hi hk hF tj (nt _ _ h) (ef _ _ hx) (et _ _ h0)
    · exact formsLaw_02 a b i j x y s0 s1 s2 s3 ki kj w hs h3i h3j hi hk hF tj (nt _ _ h) (et _ _ hx) (ne _ _ hxa) (et _ _ h0)
    · exact formsLaw_03 a b i j x y s0 s1 s2 s3 ki kj w hs h3i h3j hi hk hF tj (nt _ _ h) (et _ _ hx) (nt _ _ hxa) (ne _ _ hyb) (et _ _ h0)
  · rcases hc with h | ⟨h, hx⟩ | ⟨h, hx, hxa⟩ | ⟨h, hx, hxa, hyb⟩
    · exact formsLaw_10 a b i j x y s0 s1 s2 s3 ki kj w hs h3i h3j hi hk hF tj (ne _ _ h) (et _ _ h02) (et _ _ h13)
    · exact formsLaw_11 a b i j x y s0 s1 s2 s3 ki kj w hs h3i h3j hi hk hF tj (nt _ _ h) (ef _ _ hx) (et _ _ h02) (et _ _ h13)
    · exact formsLaw_12 a b i j x y s0 s1 s2 s3 ki kj w hs h3i h3j hi hk hF tj (nt _ _ h) (et _ _ hx) (ne _ _ hxa) (et _ _ h02) (et _ _ h13)
    · exact formsLaw_13 a b i j x y s0 s1 s2 s3 ki kj w hs h3i h3j hi hk hF tj (nt _ _ h) (et _ _ hx) (nt _ _ hxa) (ne _ _ hyb) (et _ _ h02) (et _ _ h13)
  · rcases hc with h | ⟨h, hx⟩ | ⟨h, hx, hxa⟩ | ⟨h, hx, hxa, hyb⟩
    · exact formsLaw_20 a b i j x y s0 s1 s2 s3 jn ki kj w hs h3i h3j hi hk hF tj (ne _ _ h) (ef _ _ h0) (ef _ _ h1) (nt _ _ h0) (nt _ _ h1)
    · exact formsLaw_21 a b i j x y s0 s1 s2 s3 jn ki kj w hs h3i h3j hi hk hF tj (nt _ _ h) (ef _ _ hx) (ef _ _ h0) (ef _ _ h1) (nt _ _ h0) (nt _ _ h1)
    · exact formsLaw_22 a b i j x y s0 s1 s2 s3 jn ki kj w hs h3i h3j hi hk hF tj (nt _ _ h) (et _ _ hx) (ne _ _ hxa) (ef _ _ h0) (ef _ _ h1) (nt _ _ h0) (nt _ _ h1)
    · exact formsLaw_23 a b i j x y s0 s1 s2 s3 jn ki kj w hs h3i h3j hi hk hF tj (nt _ _ h) (et _ _ hx) (nt _ _ hxa) (ne _ _ hyb) (ef _ _ h0) (ef _ _ h1) (nt _ _ h0) (nt _ _ h1)
end Go.Proofs.YthlkpcfpapiigaaDoor
