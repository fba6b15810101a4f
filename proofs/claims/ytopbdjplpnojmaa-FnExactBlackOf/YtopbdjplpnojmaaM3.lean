/-
  What the copying functions of the laws return of lists of values, frames and records.
  What toVm returns: a copy in new memory.
-/
import Derived.Test.YtopbdjplpnojmaaM0
import Derived.Test.YtopbdjplpnojmaaX1
import Derived.Test.YtopbdjplpnojmaaW2
namespace Go.Proofs.Ytopbdjplpnojmaa
open Go.RowKit

/-- A block of so many values. -/
def ValsBlk (w : World) (g n : Nat) : Prop := ∃ cur : Array Value, w.heap[g]? = some (Obj.cells cur 39 (0, 0)) ∧ cur.size = n * 3
theorem ValsBlk.mono {w w' : World} {g n : Nat} (h : ValsBlk w g n) (hb : Below w.heap.size w w') : ValsBlk w' g n := by
  obtain ⟨c, h1, h2⟩ := h
  exact ⟨c, block_kept h1 hb, h2⟩

theorem info39 : (Try.prog.info? 39).map (fun i => (i.zero, i.size, i.bytes)) = some (some (.agg #[.int .i64 0, .int .i64 0, .string ByteArray.empty]), 3, 32) := by kernel_rfl

theorem info125 : (Try.prog.info? 125).map (fun i => (i.zero, i.size, i.bytes)) = some (some (.agg #[.slice none 0 0]), 1, 24) := by kernel_rfl
theorem info122 : (Try.prog.info? 122).map (fun i => (i.zero, i.size, i.bytes)) = some (some (.agg #[.int .i64 0, .int .i64 0, .slice none 0 0, .slice none 0 0]), 4, 64) := by kernel_rfl

end Go.Proofs.Ytopbdjplpnojmaa
namespace Go.Proofs.Ytopbdjplpnojmaa
open Go.RowKit

/-- The cells of a state. -/
def vmCells (fa ha oa : Option Addr) (fc hcp oc : Nat) (d : VmD) : Array Value := #[.slice fa d.frames.length fc, .slice ha d.heap.length hcp, .int .i64 d.made, .slice oa d.out.length oc, .int .i64 d.status, .int .i64 d.trap, .int .i64 d.value.k, .int .i64 d.value.n, .string d.value.s, .int .i64 d.steps]

structure VmAt (w : World) (lo : Nat) (fa ha oa : Option Addr) (d : VmD) : Prop where
  frs : FrsAt w lo fa d.frames
  recs : RecsAt w lo ha d.heap
  out : StrsAt w lo oa d.out
theorem VmAt.mono {w w' : World} {lo : Nat} {fa ha oa : Option Addr} {d : VmD} (h : VmAt w lo fa ha oa d) (hb : Below w.heap.size w w') : VmAt w' lo fa ha oa d := ⟨h.frs.mono hb, h.recs.mono hb, h.out.mono hb⟩
theorem VmAt.low {w : World} {lo lo' : Nat} {fa ha oa : Option Addr} {d : VmD} (h : VmAt w lo fa ha oa d) (hl : lo' ≤ lo) : VmAt w lo' fa ha oa d := ⟨h.frs.low hl, h.recs.low hl, h.out.low hl⟩
theorem VmAt.above {w w' : World} {lo : Nat} {fa ha oa : Option Addr} {d : VmD} (h : VmAt w lo fa ha oa d) (hb : Above lo w w') : VmAt w' lo fa ha oa d := ⟨h.frs.above hb, h.recs.above hb, h.out.above hb⟩

end Go.Proofs.Ytopbdjplpnojmaa
