/- Contracts of the reference implementation: its arithmetic of fractions. -/
import Derived.Test.YtgcmogldiahdpaaGreatDoorQGO
namespace Go.Proofs.YtgcmogldiahdpaaGreatDoor
open Go.RowKit Fm

/-- The two boxes of Make, and its result. -/
def MkRel (w : World) (a b : Int) (wx : World) : Prop := ∃ (s s2 : Int) (g g2 : Bool) (A A2 : Option Addr) (n c n2 c2 : Nat),
  CellI wx w.heap.size s g (.slice A n c) ∧ RI wx (.agg #[.int .i64 s, .bool g, .slice A n c]) a ∧
  CellI wx (w.heap.size + 1) s2 g2 (.slice A2 n2 c2) ∧ RI wx (.agg #[.int .i64 s2, .bool g2, .slice A2 n2 c2]) b ∧
  CellR wx (w.heap.size + 1 + 1) 0 false (.slice none 0 0) 0 false (.slice none 0 0) ∧ Up w wx

theorem MkRel.up {w wx wy : World} {a b : Int} (h : MkRel w a b wx) (hu : Up wx wy) : MkRel w a b wy := by
  obtain ⟨s, s2, g, g2, A, A2, n, c, n2, c2, h1, h2, h3, h4, h5, h6⟩ := h
  exact ⟨s, s2, g, g2, A, A2, n, c, n2, c2, h1.up hu, h2.up hu, h3.up hu, h4.up hu, h5.up hu, h6.trans hu⟩

end Go.Proofs.YtgcmogldiahdpaaGreatDoor
namespace Go.Proofs.YtgcmogldiahdpaaGreatDoor
open Go.RowKit Fm

end Go.Proofs.YtgcmogldiahdpaaGreatDoor
namespace Go.Proofs.YtgcmogldiahdpaaGreatDoor
open Go.RowKit Fm

end Go.Proofs.YtgcmogldiahdpaaGreatDoor
namespace Go.Proofs.YtgcmogldiahdpaaGreatDoor
open Go.RowKit Fm

end Go.Proofs.YtgcmogldiahdpaaGreatDoor
