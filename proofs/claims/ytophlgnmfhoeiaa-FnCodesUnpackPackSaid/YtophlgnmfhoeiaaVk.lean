/- A Known that lies in a box, with its pairs, for the laws' walks. -/
import Derived.Test.YtophlgnmfhoeiaaSo
import Derived.Test.YtophlgnmfhoeiaaBc
import Derived.Test.YtophlgnmfhoeiaaBe
import Derived.Test.YtophlgnmfhoeiaaFm
import Derived.Test.YtophlgnmfhoeiaaUs
namespace Go.Proofs.Ytophlgnmfhoeiaa
open Go.ChangeShapes Go.WideShapes Go.ChangeAt Go.RowKit Go.Joins
set_option linter.unusedVariables false

/-- k lies in box b, its pairs below L -/
structure KB (L b : Nat) (k : Kn) (A : Option Addr) (cap : Nat) (wr : World) : Prop where
  bx : Blk wr b 32 #[.int .i64 k.o, .int .i64 k.l, .int .i64 k.m, .slice A k.ps.length cap, .int .i64 k.base, .int .i64 k.last]
  ps : PsAt wr L A cap k.ps
  le : L ≤ wr.heap.size
theorem KB.on {L b : Nat} {k : Kn} {A : Option Addr} {cap : Nat} {wr w' : World} (h : KB L b k A cap wr) (hb : Below wr.heap.size wr w') : KB L b k A cap w' := ⟨h.bx.on hb, h.ps.on hb h.le, Nat.le_trans h.le hb.size⟩
theorem KB.new {B : Nat} {k : Kn} {A : Option Addr} {cap : Nat} {wr : World} (h : wr.ownsRow B 139 2 (.slice A k.ps.length cap) k.ps.length (prs k.ps)) : KB wr.heap.size wr.heap.size k A cap (wr.alloc (.cells #[.int .i64 k.o, .int .i64 k.l, .int .i64 k.m, .slice A k.ps.length cap, .int .i64 k.base, .int .i64 k.last] 32)) :=
  ⟨Blk.new wr _ _, (own_ps_at h).alloc (Nat.le_refl _) _, by simp⟩
end Go.Proofs.Ytophlgnmfhoeiaa
