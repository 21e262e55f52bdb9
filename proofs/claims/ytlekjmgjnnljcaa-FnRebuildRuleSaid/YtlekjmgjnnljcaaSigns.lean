/- The words of the translation's head, reckoned once. No condition. -/
import Derived.Test.YtlekjmgjnnljcaaChecked
import Derived.KernelRfl
import Derived.JoinedOf
import Derived.WalkKit
import Derived.ChangeOld
import Derived.Carry
namespace Go.Proofs.Ytlekjmgjnnljcaa
open Go

theorem ws_word : ∀ (w r : List Char), (w.all fun x => x != Char.ofNat 32) = true → wordsSigns (w ++ Char.ofNat 32 :: r) = w :: wordsSigns r
  | [], r, _ => rfl
  | x :: w, r, h => by
    simp only [List.all_cons, Bool.and_eq_true, bne_iff_ne, ne_eq] at h
    have ih := ws_word w r (by simpa using h.2)
    rw [List.cons_append, wordsSigns, ih]
    intro e; exact h.1 e

theorem ws_last : ∀ (w : List Char), (w.all fun x => x != Char.ofNat 32) = true → wordsSigns w = [w]
  | [], _ => rfl
  | x :: w, h => by
    simp only [List.all_cons, Bool.and_eq_true, bne_iff_ne, ne_eq] at h
    have ih := ws_last w (by simpa using h.2)
    rw [wordsSigns, ih]
    intro e; exact h.1 e

def okNums : List Nat := [48, 49, 50, 51, 52, 53, 54, 55, 56, 57, 97, 98, 99, 100, 101, 102]
theorem sum_ok (ns : List Nat) (hl : (ns.length == 64) = true) (h : (ns.all fun n => okNums.contains n) = true) : isSumSigns (ns.map Char.ofNat) = true := by
  unfold isSumSigns
  rw [List.length_map, hl, Bool.true_and, List.all_map]
  rw [List.all_eq_true] at h ⊢
  intro n hn
  have h1 := h n hn
  have key : ∀ n ∈ okNums, isSumSigns (List.replicate 64 (Char.ofNat n)) = true → True := fun _ _ _ => trivial
  have : n ∈ okNums := by simpa using h1
  simp only [okNums, List.mem_cons, List.mem_nil_iff, or_false] at this
  rcases this with rfl | rfl | rfl | rfl | rfl | rfl | rfl | rfl | rfl | rfl | rfl | rfl | rfl | rfl | rfl | rfl <;> decide

theorem make_of (P : Program) (c : List Char) (r : List (List Char)) (h : behindMainWord (wordsSigns P.initOrder.toList) = c :: r) (h1 : (c == "gc".toList || c == "spec".toList) = false) (h2 : (c == "cut".toList) = true) : P.make = some .cut := by
  unfold Program.make
  rw [h]
  dsimp only
  rw [if_neg (by rw [h1]; decide), if_pos (by rw [h2, Bool.true_or])]
theorem may_of (P : Program) (c : List Char) (r : List (List Char)) (h : behindMainWord (wordsSigns P.initOrder.toList) = c :: r) (h2 : (stripLifts liftWords (c :: r)).2.head? == some "cut".toList) (h3 : (stripLifts liftWords (c :: r)).1 = []) (ha : P.laysLater = false) (hb : P.bearsReflect = false) (hd : P.doorFits [] = true) : P.mayEnter = true := by
  unfold Program.mayEnter
  rw [h]
  dsimp only
  rw [h2, h3, ha, hb, hd]
  simp
theorem fin_of (P : Program) (c : List Char) (r : List (List Char)) (h : behindMainWord (wordsSigns P.initOrder.toList) = c :: r) (h1 : (c == "carried".toList) = false) (h3 : (stripLifts liftWords (c :: r)).1 = []) : P.liftsFinal = false := by
  unfold Program.liftsFinal Program.headLifts
  rw [h]
  dsimp only
  rw [h3]
  simp only [List.head?_cons, ite_self]
  have : (some c == some "carried".toList) = false := h1
  rw [this]
  simp
theorem behind_of (h s : List Char) (r : List (List Char)) (h1 : (h == "harness".toList || h == "ownmain".toList) = true) (h2 : isSumSigns s = true) : behindMainWord (h :: s :: r) = r := by
  simp only [behindMainWord, h1, h2, Bool.and_self, if_true]

def w0 : List Char := [104, 97, 114, 110, 101, 115, 115].map Char.ofNat
def w1 : List Char := [56, 54, 53, 50, 57, 53, 98, 54, 50, 99, 102, 54, 51, 56, 51, 56, 51, 52, 51, 100, 100, 57, 51, 53, 53, 56, 51, 102, 52, 55, 99, 51, 50, 56, 51, 102, 48, 48, 55, 50, 51, 51, 98, 57, 48, 97, 99, 100, 99, 48, 98, 55, 49, 48, 49, 102, 99, 102, 51, 57, 98, 56, 50, 100].map Char.ofNat
def w2 : List Char := [99, 117, 116].map Char.ofNat
def w3 : List Char := [97, 116].map Char.ofNat
def w4 : List Char := [108, 111, 111, 112, 46, 101, 120, 97, 109, 112, 108, 101, 47, 115, 111, 117, 103, 104, 116, 115, 116, 114, 101, 97, 109, 115, 47, 108, 97, 119, 115, 46, 70, 110, 82, 101, 98, 117, 105, 108, 100, 82, 117, 108, 101].map Char.ofNat
def w5 : List Char := [108, 111, 111, 112, 46, 101, 120, 97, 109, 112, 108, 101, 47, 115, 111, 117, 103, 104, 116, 115, 116, 114, 101, 97, 109, 115, 47, 108, 97, 119, 115, 46, 70, 110, 67, 104, 97, 110, 103, 101, 66, 121, 116, 101].map Char.ofNat
def w6 : List Char := [108, 111, 111, 112, 46, 101, 120, 97, 109, 112, 108, 101, 47, 115, 111, 117, 103, 104, 116, 115, 116, 114, 101, 97, 109, 115, 47, 108, 97, 119, 115, 46, 70, 110, 68, 114, 111, 112, 82, 101, 112, 101, 97, 116].map Char.ofNat

theorem behind : behindMainWord (wordsSigns Try.prog.initOrder.toList) = [w2, w3, w4, w5, w6] := by
  rw [show Try.prog.initOrder.toList = w0 ++ Char.ofNat 32 :: (w1 ++ Char.ofNat 32 :: (w2 ++ Char.ofNat 32 :: (w3 ++ Char.ofNat 32 :: (w4 ++ Char.ofNat 32 :: (w5 ++ Char.ofNat 32 :: (w6)))))) from (congrArg String.toList (show Try.prog.initOrder = String.ofList (w0 ++ Char.ofNat 32 :: (w1 ++ Char.ofNat 32 :: (w2 ++ Char.ofNat 32 :: (w3 ++ Char.ofNat 32 :: (w4 ++ Char.ofNat 32 :: (w5 ++ Char.ofNat 32 :: (w6))))))) by kernel_rfl)).trans String.toList_ofList]
  rw [ws_word w0 _ (by kernel_rfl), ws_word w1 _ (by kernel_rfl), ws_word w2 _ (by kernel_rfl), ws_word w3 _ (by kernel_rfl), ws_word w4 _ (by kernel_rfl), ws_word w5 _ (by kernel_rfl), ws_last _ (by kernel_rfl)]
  exact behind_of _ _ _ (by kernel_rfl) (sum_ok _ (by kernel_rfl) (by kernel_rfl))
theorem make_cut : Try.prog.make = some .cut := make_of _ _ _ behind (by kernel_rfl) (by kernel_rfl)
theorem may_enter : Try.prog.mayEnter = true := may_of _ _ _ behind (by kernel_rfl) (by kernel_rfl) (by kernel_rfl) (by kernel_rfl) (by kernel_rfl)
theorem lifts_fin : Try.prog.liftsFinal = false := fin_of _ _ _ behind (by kernel_rfl) (by kernel_rfl)
theorem laid_out : laidOutB Try.prog = true := by kernel_rfl
theorem own_knob : ownKnob Try.prog.godebug = none := by kernel_rfl
end Go.Proofs.Ytlekjmgjnnljcaa
