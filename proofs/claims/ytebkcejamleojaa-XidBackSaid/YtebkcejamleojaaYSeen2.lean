/-
  'a, b := x[i], y[j]' of what is told of two transactions: two new blocks (stage 9).
-/
import Derived.Test.YtebkcejamleojaaYNew2
import Derived.Test.YtebkcejamleojaaYCopies
namespace Go.Proofs.Ytebkcejamleojaa
open Go.RowKit
set_option linter.unusedVariables false

def seenZ : List Value := [.int .u8 0, .int .i64 0, .int .i64 0, .bool false]
def seenC (x t n : Int) (c : Bool) : List Value := [.int .u8 x, .int .i64 t, .int .i64 n, .bool c]
def seenV (x t n : Int) (c : Bool) : Value := .agg #[.int .u8 x, .int .i64 t, .int .i64 n, .bool c]

theorem alloc_seen {o : Oper} (hop : o.op = .alloc 47) (a : Act) (w : World) : (execOp a.eval o).run Try.prog w = .ok (.value (RX.pt w.heap.size)) (w.alloc (.cells seenZ.toArray 47)) := by
  unfold execOp RX.pt seenZ
  simp only [hop]
  go_simp

def put4s (W : World) (g : Nat) (v0 v1 v2 v3 : Value) : World := (((W.setCell ⟨g, 0, none⟩ v0).setCell ⟨g, 1, none⟩ v1).setCell ⟨g, 2, none⟩ v2).setCell ⟨g, 3, none⟩ v3

theorem fills_seen {o : Oper} {p x : Operand} (hop : o.op = .store 47 p x) (a : Act) (g : Nat) (s t n : Int) (c : Bool) (hp : a.eval p = RX.pt g) (hx : a.eval x = seenV s t n c) : RX.Fills Try.prog o 47 seenZ (seenC s t n c) a g := by
  intro w hl
  have z0 := hl.cell (o := 0) rfl
  have z1 := hl.cell (o := 1) rfl
  have z2 := hl.cell (o := 2) rfl
  have z3 := hl.cell (o := 3) rfl
  have f0 := hl.fz 0
  have f1 := hl.fz 1
  have f2 := hl.fz 2
  have f3 := hl.fz 3
  have hlt := hl.lt
  refine ⟨put4s w g (.int .u8 s) (.int .i64 t) (.int .i64 n) (.bool c), ?_, (((hl.set 0 _).set 1 _).set 2 _).set 3 _, ?_⟩
  · unfold execOp put4s
    unfold RX.pt at hp
    unfold seenV at hx
    simp only [hop, hp, hx]
    clear hl
    go_simp
  · exact ((((Touch.setCell w (F := fun k => k = g) rfl 0 _).trans (Touch.setCell _ (F := fun k => k = g) rfl 1 _) (fun _ _ h => h)).trans (Touch.setCell _ (F := fun k => k = g) rfl 2 _) (fun _ _ h => h)).trans (Touch.setCell _ (F := fun k => k = g) rfl 3 _) (fun _ _ h => h))

end Go.Proofs.Ytebkcejamleojaa
