/- What the texts of Load are, reckoned. -/
import Derived.Test.YthlkpcfpapiigaaDoorCuts
import Derived.Test.YthlkpcfpapiigaaDoorFormsLaw
import Derived.Test.YthlkpcfpapiigaaDoorTabData
namespace Go.Proofs.YthlkpcfpapiigaaDoor
open Go Go.RowKit
set_option linter.unusedVariables false
set_option linter.unusedSimpArgs false

/-- The texts that Load hands on: argument j of its operation i. -/
def argTxt : Operand → ByteArray
  | .const (.string b) => b
  | _ => ByteArray.empty
def opTxt (j : Nat) (o : Oper) : ByteArray :=
  match o.op with
  | .call c => (c.args[j]?.map argTxt).getD ByteArray.empty
  | _ => ByteArray.empty
def codeOps : Code → Array Oper
  | .seq _ (.seq (.region _ ops _) _) => ops
  | _ => #[]
def txt (f : Func) (i j : Nat) : ByteArray := ((((f.body.map codeOps).getD #[])[i]?).map (opTxt j)).getD ByteArray.empty

def asciiB (l : List UInt8) : Bool := l.all fun b => decide (b.toNat < 128)
theorem ascii_all {l : List UInt8} (h : asciiB l = true) : ∀ b ∈ l, b.toNat < 128 := by simpa [asciiB] using h
theorem t0_ascii : asciiB (txt Tryd.f9 0 0).data.toList = true := by kernel_rfl
theorem t0_names : asciiB (txt Tryd.f9 0 1).data.toList = true := by kernel_rfl
theorem t0_size : decide ((txt Tryd.f9 0 0).data.toList.length < 100000 ∧ (txt Tryd.f9 0 1).data.toList.length < 100000 ∧ (fieldsF (txt Tryd.f9 0 1)).length ≤ 1000) = true := by kernel_rfl
theorem t0_cut : decide ((cutL (txt Tryd.f9 0 0).data.toList).length ≤ 1000) = true := by kernel_rfl
theorem t0_ok : (entL (txt Tryd.f9 0 0).data.toList).all (fun ws => rowOkB (fieldsF (txt Tryd.f9 0 1)) (ws.map toBA)) = true := by kernel_rfl
theorem t0_rows : (entL (txt Tryd.f9 0 0).data.toList).map (fun ws => rowF (fieldsF (txt Tryd.f9 0 1)) (ws.map toBA)) = classRows := by kernel_rfl
theorem class_rise : riseF (-1) classRows = true := by kernel_rfl
theorem class_join : joinF classRows = classRows := by kernel_rfl
theorem class_len : classRows.length = 120 := by kernel_rfl
theorem t1_ascii : asciiB (txt Tryd.f9 1 0).data.toList = true := by kernel_rfl
theorem t1_names : asciiB (txt Tryd.f9 1 1).data.toList = true := by kernel_rfl
theorem t1_size : decide ((txt Tryd.f9 1 0).data.toList.length < 100000 ∧ (txt Tryd.f9 1 1).data.toList.length < 100000 ∧ (fieldsF (txt Tryd.f9 1 1)).length ≤ 1000) = true := by kernel_rfl
theorem t1_cut : decide ((cutL (txt Tryd.f9 1 0).data.toList).length ≤ 1000) = true := by kernel_rfl
theorem t1_ok : (entL (txt Tryd.f9 1 0).data.toList).all (fun ws => rowOkB (fieldsF (txt Tryd.f9 1 1)) (ws.map toBA)) = true := by kernel_rfl
theorem t1_rows : (entL (txt Tryd.f9 1 0).data.toList).map (fun ws => rowF (fieldsF (txt Tryd.f9 1 1)) (ws.map toBA)) = wideRows := by kernel_rfl
theorem wide_rise : riseF (-1) wideRows = true := by kernel_rfl
theorem wide_join : joinF wideRows = wideRows := by kernel_rfl
theorem wide_len : wideRows.length = 29 := by kernel_rfl
theorem t2_ascii : asciiB (txt Tryd.f9 2 0).data.toList = true := by kernel_rfl
theorem t2_names : asciiB (txt Tryd.f9 2 1).data.toList = true := by kernel_rfl
theorem t2_size : decide ((txt Tryd.f9 2 0).data.toList.length < 100000 ∧ (txt Tryd.f9 2 1).data.toList.length < 100000 ∧ (fieldsF (txt Tryd.f9 2 1)).length ≤ 1000) = true := by kernel_rfl
theorem t2_cut : decide ((cutL (txt Tryd.f9 2 0).data.toList).length ≤ 1000) = true := by kernel_rfl
theorem t2_ok : (entL (txt Tryd.f9 2 0).data.toList).all (fun ws => rowOkB (fieldsF (txt Tryd.f9 2 1)) (ws.map toBA)) = true := by kernel_rfl
theorem t2_rows : (entL (txt Tryd.f9 2 0).data.toList).map (fun ws => rowF (fieldsF (txt Tryd.f9 2 1)) (ws.map toBA)) = joinRows := by kernel_rfl
theorem join_rise : riseF (-1) joinRows = true := by kernel_rfl
theorem join_join : joinF joinRows = joinRows := by kernel_rfl
theorem join_len : joinRows.length = 48 := by kernel_rfl
theorem t3_ascii : asciiB (txt Tryd.f9 3 0).data.toList = true := by kernel_rfl
theorem t3_size : decide ((txt Tryd.f9 3 0).data.toList.length < 100000) = true := by kernel_rfl
theorem t3_cut : decide ((cutL (txt Tryd.f9 3 0).data.toList).length ≤ 1000) = true := by kernel_rfl
theorem t3_ok : (entL (txt Tryd.f9 3 0).data.toList).all (fun ws => pairOkB (ws.map toBA)) = true := by kernel_rfl
theorem t3_rows : (entL (txt Tryd.f9 3 0).data.toList).map (fun ws => pairF (ws.map toBA)) = mirrorRows := by kernel_rfl
theorem mirror_len : mirrorRows.length = 27 := by kernel_rfl
theorem t4_ascii : asciiB (txt Tryd.f9 4 0).data.toList = true := by kernel_rfl
theorem t4_size : decide ((txt Tryd.f9 4 0).data.toList.length < 100000) = true := by kernel_rfl
theorem t4_cut : decide ((cutL (txt Tryd.f9 4 0).data.toList).length ≤ 1000) = true := by kernel_rfl
theorem t4_ok : (entL (txt Tryd.f9 4 0).data.toList).all (fun ws => pairOkB (ws.map toBA)) = true := by kernel_rfl
theorem t4_rows : (entL (txt Tryd.f9 4 0).data.toList).map (fun ws => pairF (ws.map toBA)) = bracketRows := by kernel_rfl
theorem bracket_len : bracketRows.length = 8 := by kernel_rfl
theorem t5_ascii : asciiB (txt Tryd.f9 5 0).data.toList = true := by kernel_rfl
theorem t5_size : decide ((txt Tryd.f9 5 0).data.toList.length < 100000) = true := by kernel_rfl
theorem t5_cut : decide ((cutL (txt Tryd.f9 5 0).data.toList).length ≤ 1000) = true := by kernel_rfl
theorem t5_ok : (entL (txt Tryd.f9 5 0).data.toList).all (fun ws => formOkB (ws.map toBA)) = true := by kernel_rfl
theorem t5_rows : (entL (txt Tryd.f9 5 0).data.toList).map (fun ws => formF (ws.map toBA)) = formRows := by kernel_rfl
theorem form_len : formRows.length = 36 := by kernel_rfl
end Go.Proofs.YthlkpcfpapiigaaDoor
