/- Plain arithmetic: the operators of layer 2. -/
import Derived.Test.YtphicgdllhmgdaaMathD
namespace Go.Proofs.Ytphicgdllhmgdaa
open Go.RowKit
def exB (op : Int) : Bool := op == 10 || op == 11 || op == 7
def exV (op a b : Int) : Int := if op = 10 then a + b else if op = 11 then a - b else if op = 7 then a * b else 0
def b2i (x : Bool) : Int := if x then 1 else 0
theorem add_I128 {a b : Int} (ha : I64 a) (hb : I64 b) : I128 (a + b) := by unfold I64 at ha hb; unfold I128; omega
theorem sub_I128 {a b : Int} (ha : I64 a) (hb : I64 b) : I128 (a - b) := by unfold I64 at ha hb; unfold I128; omega
theorem exV_I128 {op a b : Int} (ha : I64 a) (hb : I64 b) : I128 (exV op a b) := by
  unfold exV
  split
  · exact add_I128 ha hb
  split
  · exact sub_I128 ha hb
  split
  · exact prod_I128 ha hb
  · unfold I128; omega
theorem exB_10 : exB 10 = true := rfl
theorem exB_11 : exB 11 = true := rfl
theorem exB_7 : exB 7 = true := rfl
theorem exV_10 (a b : Int) : exV 10 a b = a + b := rfl
theorem exV_11 (a b : Int) : exV 11 a b = a - b := rfl
theorem exV_7 (a b : Int) : exV 7 a b = a * b := rfl
theorem exB_no {op : Int} (h : ¬ op = 10) (h' : ¬ op = 11) (h'' : ¬ op = 7) : exB op = false := by simp [exB, h, h', h'']
theorem exV_no {op : Int} (a b : Int) (h : ¬ op = 10) (h' : ¬ op = 11) (h'' : ¬ op = 7) : exV op a b = 0 := by simp [exV, h, h', h'']
end Go.Proofs.Ytphicgdllhmgdaa
