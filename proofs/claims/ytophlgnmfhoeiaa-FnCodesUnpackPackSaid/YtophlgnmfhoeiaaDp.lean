/- Contracts of the model's own drawing of arguments: what is known, and a code. -/
import Derived.Test.YtophlgnmfhoeiaaDn
namespace Go.Proofs.Ytophlgnmfhoeiaa
open Go.ChangeShapes Go.WideShapes Go.ChangeAt Go.RowKit Go.Joins
set_option linter.unusedVariables false

/-- the drawing of arguments under way: the source in block R, k in box b -/
structure OpAt (w : World) (q b : Nat) (k : Kn) (A : Option Addr) (cap : Nat) (wr : World) : Prop where
  rx : Blk wr w.heap.size 32 #[.int .i64 0, .int .i64 0, .int .i64 0, .slice none 0 0, .int .i64 0, .int .i64 0]
  bx : Blk wr b 32 #[.int .i64 k.o, .int .i64 k.l, .int .i64 k.m, .slice A k.ps.length cap, .int .i64 k.base, .int .i64 k.last]
  row : wr.ownsRow (w.heap.size + 2) 139 2 (.slice A k.ps.length cap) k.ps.length (prs k.ps)
  rd : Rd 131 wr w.heap.size (w.heap.size + 1) q
  bel : Below w.heap.size w wr
  lt : w.heap.size + 1 < b
theorem OpAt.on {w : World} {q b : Nat} {k : Kn} {A : Option Addr} {cap : Nat} {wr w' : World} (h : OpAt w q b k A cap wr) (hb : Below wr.heap.size wr w') : OpAt w q b k A cap w' :=
  ⟨h.rx.on hb, h.bx.on hb, own_on h.row hb, h.rd.near hb, bel_trans h.bel hb, h.lt⟩
theorem OpAt.pick {w : World} {q q' b : Nat} {k : Kn} {A : Option Addr} {cap : Nat} {wr w' : World} (h : OpAt w q b k A cap wr) (hr : Rd 131 w' w.heap.size (w.heap.size + 1) q') (hg : wr.grownBy w' (some (w.heap.size + 1))) : OpAt w q' b k A cap w' :=
  ⟨h.rx.grown hg (by simp), h.bx.grown hg (by have := h.lt; simp; omega), own_grown1 h.row hg (by omega), hr, bel_grown h.bel hg (by omega), h.lt⟩
theorem OpAt.more {w : World} {q q' b : Nat} {k : Kn} {A : Option Addr} {cap : Nat} {wr : World} (h : OpAt w q b k A cap wr) (hq : q ≤ q') : OpAt w q' b k A cap wr := ⟨h.rx, h.bx, h.row, h.rd.more hq, h.bel, h.lt⟩
theorem OpAt.new {w w2 : World} {k : Kn} {A : Option Addr} {cap q : Nat} (hx : Blk w2 w.heap.size 32 #[.int .i64 0, .int .i64 0, .int .i64 0, .slice none 0 0, .int .i64 0, .int .i64 0]) (ho : w2.ownsRow (w.heap.size + 2) 139 2 (.slice A k.ps.length cap) k.ps.length (prs k.ps)) (hr : Rd 131 w2 w.heap.size (w.heap.size + 1) q) (hb : Below w.heap.size w w2) (hz : w.heap.size + 1 < w2.heap.size) :
    OpAt w q w2.heap.size k A cap (w2.alloc (.cells #[.int .i64 k.o, .int .i64 k.l, .int .i64 k.m, .slice A k.ps.length cap, .int .i64 k.base, .int .i64 k.last] 32)) :=
  ⟨hx.alloc _, Blk.new w2 _ _, ho.alloc _, hr.alloc _, bel_alloc hb _, hz⟩
end Go.Proofs.Ytophlgnmfhoeiaa
