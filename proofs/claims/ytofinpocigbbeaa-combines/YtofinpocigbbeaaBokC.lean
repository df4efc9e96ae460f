import Derived.Test.YtofinpocigbbeaaBokB
import Derived.Test.YtofinpocigbbeaaRetR
namespace Go.Proofs.Ytofinpocigbbeaa
open Go.RowKit

def zC : Array Value := #[.int .i64 (-7070), .int .i64 0, .int .i64 0, .int .i64 0]

def secondOps : Code → Array Oper
  | .seq _ (.seq (.region _ ops _) _) => ops
  | _ => #[]

/-- A function's second region. -/
def rgnOf (f : Func) : Array Oper := (f.body.map secondOps).getD #[]

def fr (pb zb : Nat) (v : Value) (f : Nat → Value) : Act :=
  { tmps := #[.pointer (some ⟨pb, 1, none⟩), v, undef, undef, .pointer (some ⟨zb, 0, none⟩), f 5, undef, undef, .pointer (some ⟨pb, 1, none⟩), .pointer (some ⟨pb, 1, none⟩), .pointer (some ⟨pb, 1, none⟩), .slice none 0 0, .int .i64 0, .agg zC,
      f 14, f 15, f 16, f 17, f 18, f 19, f 20, f 21, f 22, f 23, f 24, f 25, f 26, f 27, f 28, f 29, f 30, undef, undef, undef, undef, undef, undef, undef, undef, undef, undef, undef, undef, undef, undef, undef, undef, undef, undef, undef, undef, undef, undef, undef, undef, undef, undef, undef, undef, undef, undef, undef, undef], defers := [] }

set_option maxRecDepth 100000 in
theorem rgn1_size : (rgnOf Try.f20).size = 18 := rfl

set_option maxRecDepth 100000 in
theorem rgn1_back : ∀ (i : Nat) (o : Oper), (rgnOf Try.f20)[i]? = some o → ∀ e ∈ o.after, e.on < i := by
  have h : (List.range (rgnOf Try.f20).size).all (fun i => ((rgnOf Try.f20)[i]?.map fun o => o.after.toList.all fun e => decide (e.on < i)).getD false) = true := by kernel_rfl
  intro i o ho e he
  have hi : i < (rgnOf Try.f20).size := (Array.getElem?_eq_some_iff.1 ho).1
  have h1 := List.all_eq_true.1 h i (List.mem_range.2 hi)
  rw [ho] at h1
  have h2 : o.after.toList.all (fun e => decide (e.on < i)) = true := h1
  exact of_decide_eq_true (List.all_eq_true.1 h2 e (Array.mem_toList_iff.2 he))

set_option maxRecDepth 100000 in
theorem runLoad (pb zb : Nat) (v : Value) (f : Nat → Value) (o : Oper) (ho : o.op = .load 52 (.tmp 4)) (w : World) (hz : w.heap[zb]? = some (.cells zC 52 (0, 0))) : (execOp (fr pb zb v f).eval o).run Try.prog w = .ok (.value (.agg zC)) w := by
  have c0 : w.cell? ⟨zb, 0, none⟩ = some (.int .i64 (-7070)) := by rw [cell_of_row w zb 0 zC _ _ hz]; rfl
  have c1 : w.cell? ⟨zb, 1, none⟩ = some (.int .i64 0) := by rw [cell_of_row w zb 1 zC _ _ hz]; rfl
  have c2 : w.cell? ⟨zb, 2, none⟩ = some (.int .i64 0) := by rw [cell_of_row w zb 2 zC _ _ hz]; rfl
  have c3 : w.cell? ⟨zb, 3, none⟩ = some (.int .i64 0) := by rw [cell_of_row w zb 3 zC _ _ hz]; rfl
  have e4 : (fr pb zb v f).eval (.tmp 4) = .pointer (some ⟨zb, 0, none⟩) := rfl
  unfold execOp
  simp only [ho, e4]
  go_simp
  rfl

set_option maxRecDepth 100000 in
theorem runB1 (pb zb : Nat) (v : Value) (f : Nat → Value) (o : Oper) (ho : o.op = .buildSlice 22 1 #[(0, .tmp 16)]) (w : World) (h16 : f 16 = .agg zC) : (execOp (fr pb zb v f).eval o).run Try.prog w = .ok (.value (.slice (some ⟨w.heap.size, 0, none⟩) 1 1)) (w.alloc (.cells zC 52)) := by
  have e4 : (fr pb zb v f).eval (.tmp 16) = .agg zC := h16
  unfold execOp
  simp only [ho, List.map_toArray, List.map_cons, List.map_nil, e4]
  unfold zC
  go_simp

set_option maxRecDepth 100000 in
theorem runB2 (pb zb : Nat) (v : Value) (f : Nat → Value) (o : Oper) (ho : o.op = .buildSlice 22 2 #[(0, .tmp 20), (1, .tmp 21)]) (w : World) (h1 : f 20 = .agg zC) (h2 : f 21 = .agg zC) : (execOp (fr pb zb v f).eval o).run Try.prog w = .ok (.value (.slice (some ⟨w.heap.size, 0, none⟩) 2 2)) (w.alloc (.cells (zC ++ zC) 52)) := by
  have e1 : (fr pb zb v f).eval (.tmp 20) = .agg zC := h1
  have e2 : (fr pb zb v f).eval (.tmp 21) = .agg zC := h2
  unfold execOp
  simp only [ho, List.map_toArray, List.map_cons, List.map_nil, e1, e2]
  unfold zC
  go_simp

set_option maxRecDepth 100000 in
theorem runB3 (pb zb : Nat) (v : Value) (f : Nat → Value) (o : Oper) (ho : o.op = .buildSlice 22 3 #[(0, .tmp 25), (1, .tmp 26), (2, .tmp 27)]) (w : World) (h1 : f 25 = .agg zC) (h2 : f 26 = .agg zC) (h3 : f 27 = .agg zC) : (execOp (fr pb zb v f).eval o).run Try.prog w = .ok (.value (.slice (some ⟨w.heap.size, 0, none⟩) 3 3)) (w.alloc (.cells (zC ++ zC ++ zC) 52)) := by
  have e1 : (fr pb zb v f).eval (.tmp 25) = .agg zC := h1
  have e2 : (fr pb zb v f).eval (.tmp 26) = .agg zC := h2
  have e3 : (fr pb zb v f).eval (.tmp 27) = .agg zC := h3
  unfold execOp
  simp only [ho, List.map_toArray, List.map_cons, List.map_nil, e1, e2, e3]
  unfold zC
  go_simp

set_option maxRecDepth 100000 in
theorem runB4 (pb zb : Nat) (v : Value) (f : Nat → Value) (o : Oper) (ho : o.op = .buildSlice 69 4 #[(0, .tmp 14), (1, .tmp 18), (2, .tmp 23), (3, .tmp 29)]) (w : World) (x0 x1 x2 x3 : Option Addr) (n0 n1 n2 n3 c0 c1 c2 c3 : Nat) (h0 : f 14 = .slice x0 n0 c0) (h1 : f 18 = .slice x1 n1 c1) (h2 : f 23 = .slice x2 n2 c2) (h3 : f 29 = .slice x3 n3 c3) : (execOp (fr pb zb v f).eval o).run Try.prog w = .ok (.value (.slice (some ⟨w.heap.size, 0, none⟩) 4 4)) (w.alloc (.cells #[.slice x0 n0 c0, .slice x1 n1 c1, .slice x2 n2 c2, .slice x3 n3 c3] 22)) := by
  have e0 : (fr pb zb v f).eval (.tmp 14) = .slice x0 n0 c0 := h0
  have e1 : (fr pb zb v f).eval (.tmp 18) = .slice x1 n1 c1 := h1
  have e2 : (fr pb zb v f).eval (.tmp 23) = .slice x2 n2 c2 := h2
  have e3 : (fr pb zb v f).eval (.tmp 29) = .slice x3 n3 c3 := h3
  unfold execOp
  simp only [ho, List.map_toArray, List.map_cons, List.map_nil, e0, e1, e2, e3]
  go_simp

theorem runApp (a : Act) (o : Oper) (s x : Operand) (ho : o.op = .call { callee := .builtin .append, args := #[s, x], argTypes := #[22, 22] }) (w w' : World) (y z r : Value) (h1 : a.eval s = y) (h2 : a.eval x = z) (hr : (Builtin.append_ #[22, 22] o.type #[y, z]).run Try.prog w = .ok r w') : (execOp a.eval o).run Try.prog w = .ok (.value r) w' := by
  unfold execOp
  simp only [ho, resolve, invoke, builtin, Sem.run_bind, Sem.run_pure, Result.andThen_ok, List.map_toArray, List.map_cons, List.map_nil, h1, h2, hr]

end Go.Proofs.Ytofinpocigbbeaa
