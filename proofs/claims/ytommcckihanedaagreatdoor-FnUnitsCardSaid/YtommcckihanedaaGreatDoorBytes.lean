import Derived.Test.YtommcckihanedaaGreatDoorNum
import Derived.Laws.AppendOwn
import Derived.Laws.OwnMore
import Derived.OwnWalk
import Derived.Lib.SmallJoins
import Derived.Laws.BytesArg
namespace Go.Proofs.YtommcckihanedaaGreatDoor
open Go.RowKit

/-- bytes as cells -/
def bv (l : List UInt8) : List Value := l.map fun c => Value.int .u8 (c.toNat : Int)
theorem bv_length (l : List UInt8) : (bv l).length = l.length := by unfold bv; simp
theorem bv_snoc (l : List UInt8) (c : UInt8) : bv (l ++ [c]) = bv l ++ [Value.int .u8 (c.toNat : Int)] := by unfold bv; simp
/-- slice value v is a buffer of the call's own (from block B on) that holds the bytes l; below B the world is as w0 was -/
def Buf (B : Nat) (w0 wr : World) (v : Value) (l : List UInt8) : Prop := wr.ownsRow B 5 1 v l.length (bv l) ∧ Below B w0 wr
theorem info_u8 : (Tryz.prog.info? 5).map (fun i => (i.zero, i.size, i.bytes)) = some (some (.int .u8 0), 1, 1) := by kernel_rfl
theorem one_new (w : World) (x : Value) (t : TypeId) : ∀ j u, [x][j]? = some u → (w.alloc (.cells #[x] t)).cell? ((⟨w.heap.size, 0, none⟩ : Addr).add j) = some u := by
  intro j u hj
  match j, hj with
  | 0, hj => simp at hj; subst hj; simp [Addr.add]
  | j + 1, hj => simp at hj
theorem one_cell (k : IntKind) (n : Int) : ∀ u ∈ [Value.int k n], u.oneCell' = true := by intro u hu; simp at hu; subst hu; rfl
theorem Buf.app {B : Nat} {w0 wr w1 : World} {v v' : Value} {l : List UInt8} {c : UInt8} {o : Obj} (h : Buf B w0 wr v l) (hB : B ≤ wr.heap.size)
    (ho : w1.ownsRow B 5 1 v' (l.length + 1) (bv l ++ [Value.int .u8 (c.toNat : Int)])) (hg : (wr.alloc o).grownBy w1 v.ownBlock) : Buf B w0 w1 v' (l ++ [c]) :=
  ⟨by rw [bv_snoc]; simpa using ho, (h.2.alloc hB o).grown hg (by simp; omega) (fun j hj => (h.1.lt j hj).1)⟩
theorem buf_cell {B : Nat} {wr : World} {g n cap : Nat} {l : List UInt8} (h : wr.ownsRow B 5 1 (.slice (some ⟨g, 0, none⟩) n cap) n (bv l)) (j : Nat) (c : UInt8) (hj : l[j]? = some c) : wr.cell? ⟨g, j, none⟩ = some (.int .u8 (c.toNat : Int)) := by
  have hl : j < l.length := (List.getElem?_eq_some_iff.1 hj).1
  have hn : l.length = n := by have := h.1; rw [bv_length] at this; omega
  rw [h.cellAt j (by omega)]
  unfold bv; rw [List.getElem?_map, hj]; rfl
theorem strOf_bytes (l : List UInt8) : strOfNums (l.map fun c => (c.toNat : Int)) = ⟨l.toArray⟩ := by
  unfold strOfNums
  rw [List.map_map]
  congr 2
  have : ((fun n : Int => UInt8.ofNat n.toNat) ∘ fun c : UInt8 => (c.toNat : Int)) = id := by funext c; simp
  rw [this, List.map_id]

theorem buf_string {B : Nat} {wr : World} {g cap : Nat} {l : List UInt8} (h : wr.ownsRow B 5 1 (.slice (some ⟨g, 0, none⟩) l.length cap) l.length (bv l)) :
    (convert 22 9 (.slice (some ⟨g, 0, none⟩) l.length cap)).run Tryz.prog wr = .ok (.string ⟨l.toArray⟩) wr := by
  have := run_convert_bytes_arg (P := Tryz.prog) wr 22 5 Tryz.underlying22 Tryz.underlying5 g 0 l.length cap (l.map fun c => (c.toNat : Int)) (by simp) (fun i hi => by
    rw [Nat.zero_add, buf_cell h i l[i] (List.getElem?_eq_getElem hi), List.getD_eq_getElem?_getD, List.getElem?_map, List.getElem?_eq_getElem hi]
    rfl) 9 Tryz.underlying9
  rw [this, strOf_bytes]
end Go.Proofs.YtommcckihanedaaGreatDoor
