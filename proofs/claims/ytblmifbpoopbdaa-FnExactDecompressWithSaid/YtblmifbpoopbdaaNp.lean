/- The contract of keep. No condition but that the node is there. -/
import Derived.Test.YtblmifbpoopbdaaNm
namespace Go.Proofs.Ytblmifbpoopbdaa
open Go.ChangeShapes Go.WideShapes Go.ChangeAt Go.RowKit Go.Joins
set_option linter.unusedVariables false

/-- all but some blocks stay as they are -/
structure Only (w w' : World) (S : Nat → Prop) : Prop where
  os : w'.os = w.os
  tape : w'.tape = w.tape
  output : w'.output = w.output
  size : w.heap.size ≤ w'.heap.size
  block : ∀ k, k < w.heap.size → ¬ S k → w'.heap[k]? = w.heap[k]?
theorem Only.refl (w : World) (S : Nat → Prop) : Only w w S := ⟨rfl, rfl, rfl, Nat.le_refl _, fun _ _ _ => rfl⟩
theorem Only.trans {a b c : World} {S : Nat → Prop} (h : Only a b S) (h2 : Only b c S) : Only a c S :=
  ⟨h2.os.trans h.os, h2.tape.trans h.tape, h2.output.trans h.output, Nat.le_trans h.size h2.size, fun k hk hs => (h2.block k (Nat.lt_of_lt_of_le hk h.size) hs).trans (h.block k hk hs)⟩
theorem Only.more {a b : World} {S T : Nat → Prop} (h : Only a b S) (hs : ∀ k, S k → T k) : Only a b T := ⟨h.os, h.tape, h.output, h.size, fun k hk ht => h.block k hk (fun e => ht (hs k e))⟩
theorem Only.bel {a b : World} {S : Nat → Prop} (h : Below a.heap.size a b) : Only a b S := ⟨h.os, h.tape, h.output, h.size, fun k hk _ => h.block k hk⟩
theorem Only.grown {a b : World} {row : Option Nat} {S : Nat → Prop} (h : a.grownBy b row) (hs : ∀ g, row = some g → S g) : Only a b S := ⟨h.os, h.tape, h.output, h.size, fun k hk ht => h.block k hk (fun e => ht (hs k e.symm))⟩
theorem Only.set_ (w : World) (g i : Nat) (u : Value) {S : Nat → Prop} (hs : S g) : Only w (w.setCell ⟨g, i, none⟩ u) S := Only.grown (grown_set (grown_refl w (some g)) i u) (fun x e => by simp at e; subst e; exact hs)
theorem Only.drew (w : World) (S : Nat → Prop) : Only w w.drew S := ⟨rfl, rfl, rfl, Nat.le_refl _, fun _ _ _ => rfl⟩
theorem Only.alloc (w : World) (o : Obj) (S : Nat → Prop) : Only w (w.alloc o) S := Only.bel (bel_alloc (Below.refl _ w) o)
theorem Only.below {a b : World} {S : Nat → Prop} {B : Nat} (h : Only a b S) (hB : B ≤ a.heap.size) (hs : ∀ k, S k → B ≤ k) : Below B a b := ⟨h.os, h.tape, h.output, h.size, fun k hk => h.block k (by omega) (fun e => by have := hs k e; omega)⟩
theorem Blk.only {w w' : World} {g : Nat} {t : TypeId} {cs : Array Value} {S : Nat → Prop} (h : Blk w g t cs) (ho : Only w w' S) (hs : ¬ S g) : Blk w' g t cs := (ho.block g h.lt hs).trans h
theorem own_only {w w' : World} {B : Nat} {e : TypeId} {size n : Nat} {v : Value} {xs : List Value} {S : Nat → Prop} (h : w.ownsRow B e size v n xs) (ho : Only w w' S) (hs : ∀ g, v.ownBlock = some g → ¬ S g) : w'.ownsRow B e size v n xs := by
  obtain ⟨hl, ⟨h1, h2⟩ | ⟨g, cap', cur, e1, hB, hh, hr⟩⟩ := h
  · exact ⟨hl, .inl ⟨h1, h2⟩⟩
  · refine ⟨hl, .inr ⟨g, cap', cur, e1, hB, ?_, hr⟩⟩
    have hlt : g < w.heap.size := (Array.getElem?_eq_some_iff.1 hh).1
    rw [ho.block g hlt (hs g (by rw [e1]; rfl))]
    exact hh
theorem MapIs.only {w w' : World} {bm n : Nat} {M : Nat → Int → Option Nat} {S : Nat → Prop} (h : MapIs w bm n M) (ho : Only w w' S) (hs : ¬ S bm) : MapIs w' bm n M := by
  have hlt := h.lt
  obtain ⟨D, ⟨es, clock, hb, F, h1, h2⟩, h3⟩ := h
  exact ⟨D, ⟨es, clock, (ho.block bm hlt hs).trans hb, F, h1, h2⟩, h3⟩

/-- a table without entries -/
theorem bare_at {x : Nat} (hx : x ≤ 255) : Try.zeroCells228[x]? = some (Value.pointer none) := by
  have e : Try.zeroCells228 = (List.replicate 256 (Value.pointer none)).toArray := by kernel_rfl
  rw [e, List.getElem?_toArray, List.getElem?_replicate, if_pos (by omega)]
theorem bare_size : Try.zeroCells228.size = 256 := by kernel_rfl
theorem c_keep_some (b g r x m : Nat) (cs : Array Value) (w : World) (hb : Blk w b 189 #[.int .i64 r, .pointer (some ⟨g, 0, none⟩)]) (hg : Blk w g 228 cs) (hcs : cs.size = 256) (hx : x ≤ 255) :
    Calls Try.prog 220 #[.pointer (some ⟨b, 0, none⟩), .int .i64 (x : Int), .pointer (some ⟨m, 0, none⟩)] w fun e w' => e = .returned (.tuple #[]) ∧ w' = w.setCell ⟨g, x, none⟩ (.pointer (some ⟨m, 0, none⟩)) := by
  obtain ⟨p0, p1⟩ := hb.cells2
  have hf := hg.frozen x
  obtain ⟨v, hv⟩ : ∃ v, w.cell? ⟨g, x, none⟩ = some v := ⟨cs[x]'(by omega), by rw [hg.cell x]; exact Array.getElem?_eq_getElem (by omega)⟩
  clear hb hg
  go_enter Try.func220, Try.ntmps220
  go_wp2
  go_end0
  exact ⟨rfl, rfl⟩
set_option maxRecDepth 100000 in
theorem c_keep_none (b r x m : Nat) (w : World) (hb : Blk w b 189 #[.int .i64 r, .pointer none]) (hx : x ≤ 255) :
    Calls Try.prog 220 #[.pointer (some ⟨b, 0, none⟩), .int .i64 (x : Int), .pointer (some ⟨m, 0, none⟩)] w fun e w' => e = .returned (.tuple #[]) ∧ w' = (w.setCell ⟨b, 1, none⟩ (.pointer (some ⟨w.heap.size, 0, none⟩))).alloc (.cells (Try.zeroCells228.setIfInBounds x (.pointer (some ⟨m, 0, none⟩))) 228) := by
  obtain ⟨p0, p1⟩ := hb.cells2
  have hf := hb.frozen 1
  have hlt := hb.lt
  have hg := Blk.new w 228 Try.zeroCells228
  have hz := bare_at hx
  go_enter Try.func220, Try.ntmps220
  go_wp2_with fail
  go_end0
  exact ⟨rfl, rfl⟩
end Go.Proofs.Ytblmifbpoopbdaa
