/-
  bitsFromTop's value tells all bits, or the first of them.
-/
import Derived.Test.YtaggfbffdbompaaDoorPwB
namespace Go.Proofs.YtaggfbffdbompaaDoor
set_option maxRecDepth 100000
set_option linter.unusedVariables false
set_option linter.unusedSimpArgs false
open Go.RowKit Go.Shelf

attribute [local go_sem] Oper.semAt_some

theorem bits_stops (n : Nat) (hn : 1 ≤ n) (Bs n₀ t L : Nat) (ht : t ≤ 1000) (hL : Lib.bitLen t = L) (hL64 : L ≤ 64) (w : World) (hBs : Bs < w.heap.size) (hc : w.cell? ⟨Bs, 0, none⟩ = some (.int .u64 t)) :
    SeqStopsK Fence.wide n Tryd.prog 89 #[.pointer (some ⟨Bs, 0, none⟩)] (encB t L) (KpB n₀ Bs) (fun ys => ys = dnk L L)
      (fun pre => ∃ k, k ≤ L ∧ pre = dnk L k) L w := fun l J Jx W hW _ _ hY h0 =>
  bits1_in n hn l Bs n₀ t L ht hL hL64 J Jx hY W ((hW.cell (p := ⟨Bs, 0, none⟩) hBs).trans hc) h0

set_option maxHeartbeats 1000000 in
theorem bits_in (n : Nat) (t : Nat) (w : World) :
    CallsIn Fence.wide n Tryd.prog 64 #[.int .u64 t] w fun e w' => e = .returned (.func (.func 89) #[] #[.pointer (some ⟨w.heap.size, 0, none⟩)]) ∧ w' = w.alloc (.cells #[.int .u64 t] 61) := by
  refine callsIn_of_wp Tryd.func64 rfl trivial ?_ rfl
  simp only [Tryd.ntmps64, List.size_toArray, List.length_cons, List.length_nil, Nat.reduceAdd, Nat.reduceSub, Array.replicate_succ, Array.replicate_zero, List.push_toArray, List.append_toArray, List.nil_append, List.cons_append]
  gi_wp2
  go_ret
  exact ⟨rfl, rfl⟩

end Go.Proofs.YtaggfbffdbompaaDoor
