/- Contracts of CodesValid, CodesWidths, CodesData in both programs. No condition but that the numbers are int's. Contracts of CodesValid, CodesWidths, CodesData in the specification. No condition but that the numbers are int's. Plain mathematics: the bits of codes, code by code. No condition. -/
import Derived.Test.YtmlaaammfnboiaaGreatDoorBi
import Derived.Test.YtmlaaammfnboiaaGreatDoorBd
import Derived.Test.YtmlaaammfnboiaaGreatDoorBh
import Derived.Test.YtmlaaammfnboiaaGreatDoorBb
import Derived.Test.YtmlaaammfnboiaaGreatDoorBj
namespace Go.Proofs.YtmlaaammfnboiaaGreatDoor
section
open Go.ChangeShapes Go.WideShapes Go.ChangeAt Go.RowKit Go.Joins
set_option linter.unusedVariables false
set_option linter.unusedSectionVars false

/-- codes can follow each other from what is known on -/
def CodesOk (k : Kn) (codes : List Int) : Prop := k.Ok ∧ codes.length ≤ 3100 ∧ k.good 0 codes = true
section
variable (k : Kn) (A : Option Addr) (cap L : Nat) (w : World) (h : PsAt w L A cap k.ps) (hL : L ≤ w.heap.size) (hw : k.Wf) (A2 : Option Addr) (cap2 L2 : Nat) (codes : List Int) (hc : NumsAt w L2 A2 cap2 codes) (hL2 : L2 ≤ w.heap.size) (hn : codes.length ≤ 1048576)

include h hL hw hc hL2 hn

end
end

section
open Go.ChangeShapes Go.WideShapes Go.ChangeAt Go.RowKit Go.Joins
set_option linter.unusedVariables false
set_option linter.unusedSectionVars false

def WYes (k : Kn) (codes : List Int) (w : World) (e : Ending) (w' : World) : Prop :=
 ∃ (k' : Kn) (A : Option Addr) (cap : Nat) (A2 : Option Addr) (cap2 : Nat), e = .returned (.tuple #[.agg #[.int .i64 k'.o, .int .i64 k'.l, .int .i64 k'.m, .slice A k'.ps.length cap, .int .i64 k'.base, .int .i64 k'.last], .slice A2 (k.widths codes).length cap2, .string (str (k.dat codes)), .bool true]) ∧ w'.ownsRow w.heap.size 3 1 (.slice A2 (k.widths codes).length cap2) (k.widths codes).length ((k.widths codes).map iv) ∧ Below w.heap.size w w'
section
variable (k : Kn) (A : Option Addr) (cap L : Nat) (w : World) (h : PsAt w L A cap k.ps) (hL : L ≤ w.heap.size) (A2 : Option Addr) (cap2 L2 : Nat) (codes : List Int) (hc : NumsAt w L2 A2 cap2 codes) (hL2 : L2 ≤ w.heap.size)

include h hL hc hL2

theorem c_l2Walk_yes (hk : CodesOk k codes) : Calls Tryz.prog 122 #[.agg #[.int .i64 k.o, .int .i64 k.l, .int .i64 k.m, .slice A k.ps.length cap, .int .i64 k.base, .int .i64 k.last], .slice A2 codes.length cap2] w (WYes k codes w) := by
 refine (c_l2Walk k A cap L w h hL hk.1 A2 cap2 L2 codes hc hL2 (by have := hk.2.1; omega)).mono ?_
 rintro e w' ⟨k', A', cap', v, s, b, rfl, hgood, _, ⟨A3, c3, n3, rfl⟩, hb2⟩
 obtain ⟨rfl, rfl, ho⟩ := hgood hk.2.2
 have h2 := own_ilen ho
 rw [Kn.widths_length] at h2
 obtain ⟨A4, c4, e4⟩ := own_sl ho
 simp at e4
 obtain ⟨rfl, rfl, rfl⟩ := e4
 exact ⟨k', A', cap', A3, c3, by rw [Kn.widths_length], by rw [Kn.widths_length]; exact ho, hb2⟩

end
end

section
/-- the bits of numbers with their widths -/
def packL (o : Int) : List Int → List Int → List UInt8
 | c :: cs, x :: ws => M.codeBits (o == 1) c.toNat x.toNat ++ packL o cs ws
 | _, _ => []
theorem packL_nil (o : Int) (ws : List Int) : packL o [] ws = [] := by cases ws <;> rfl
theorem bits_packL (k : Kn) (cs : List Int) : k.bits cs = packL k.o cs (k.widths cs) := by
 induction cs generalizing k with
 | nil => rfl
 | cons c t ih =>
  simp only [Kn.bits, Kn.widths, packL]
  rw [ih, Kn.step_o]
theorem packL_snoc (o : Int) (cs ws : List Int) (n : Nat) (c x : Int) (hc : cs[n]? = some c) (hx : ws[n]? = some x) : packL o (cs.take (n + 1)) (ws.take (n + 1)) = packL o (cs.take n) (ws.take n) ++ M.codeBits (o == 1) c.toNat x.toNat := by
 induction n generalizing cs ws with
 | zero =>
  cases cs with
  | nil => simp at hc
  | cons a t =>
   cases ws with
   | nil => simp at hx
   | cons b u =>
    simp at hc hx
    subst hc hx
    simp [packL]
 | succ n ih =>
  cases cs with
  | nil => simp at hc
  | cons a t =>
   cases ws with
   | nil => simp at hx
   | cons b u =>
    rw [List.getElem?_cons_succ] at hc hx
    simp only [List.take_succ_cons, packL]
    rw [ih t u hc hx, List.append_assoc]
theorem packL_len (o : Int) (cs ws : List Int) (h : ∀ x ∈ ws, x ≤ 10) : (packL o cs ws).length ≤ 10 * cs.length := by
 induction cs generalizing ws with
 | nil => rw [packL_nil]; simp
 | cons c t ih =>
  cases ws with
  | nil => simp [packL]
  | cons x u =>
   have := ih u (fun y hy => h y (by simp [hy]))
   have hx := h x (by simp)
   simp only [packL, List.length_append, codeBits_len, List.length_cons]
   omega
theorem chr_bit (b : Bool) : isBit (M.chr b) = true := by cases b <;> rfl
theorem codeBits_bit (h : Bool) (n k : Nat) : (M.codeBits h n k).all isBit = true := by
 rw [List.all_eq_true]
 intro x hx
 simp only [M.codeBits, M.asc, List.mem_map] at hx
 obtain ⟨b, _, rfl⟩ := hx
 exact chr_bit b
theorem packL_bit (o : Int) (cs ws : List Int) : (packL o cs ws).all isBit = true := by
 induction cs generalizing ws with
 | nil => rw [packL_nil]; rfl
 | cons c t ih =>
  cases ws with
  | nil => rfl
  | cons x u => simp only [packL, List.all_append, codeBits_bit, ih, Bool.and_self]
/-- codes that follow each other, and their widths, are small -/
theorem Kn.Ok.good_each {k : Kn} (h : k.Ok) {n : Nat} {cs : List Int} (hg : k.good n cs = true) : (∀ (i : Nat) (c : Int), cs[i]? = some c → 0 ≤ c ∧ c ≤ 1023) ∧ (∀ (i : Nat) (x : Int), (k.widths cs)[i]? = some x → 2 ≤ x ∧ x ≤ 10) := by
 induction cs generalizing k n with
 | nil => simp [Kn.widths]
 | cons c t ih =>
  have hw := h.width_bd
  have hb := h.great_bd
  have hcb := h.cbd
  have h0 := h.good_code0 hg
  by_cases h1 : c = k.c + 1
  ·subst h1
   rw [Kn.good_end] at hg
   have : t = [] := by simpa using hg
   subst this
   refine ⟨fun i x hx => ?_, fun i x hx => ?_⟩
   ·cases i with
    | zero => simp at hx; omega
    | succ i => simp at hx
   ·cases i with
    | zero => simp [Kn.widths] at hx; omega
    | succ i => simp [Kn.widths] at hx
  ·have hs := h.good_step hg h1
   have := ih hs.1 hs.2.2.2
   refine ⟨fun i x hx => ?_, fun i x hx => ?_⟩
   ·cases i with
    | zero => simp at hx; omega
    | succ i => rw [List.getElem?_cons_succ] at hx; exact this.1 i x hx
   ·cases i with
    | zero => simp [Kn.widths] at hx; omega
    | succ i => rw [Kn.widths, List.getElem?_cons_succ] at hx; exact this.2 i x hx
theorem Kn.Ok.bits_ok {k : Kn} (h : k.Ok) {cs : List Int} (hg : k.good 0 cs = true) (hl : cs.length ≤ 3100) : packOk k.o (str (k.bits cs)) = true := by
 have h1 := h.bits_len hg
 have h2 : orderOk k.o = true := by
  have := h.set
  simp only [setOk, Bool.and_eq_true] at this
  exact this.1.1
 simp only [packOk, bitsOk, h2, Bool.true_and, Bool.and_eq_true, decide_eq_true_eq, str_size, str_list]
 exact ⟨by omega, by rw [bits_packL]; exact packL_bit _ _ _⟩
/-- the stream of codes -/
def Kn.packed (k : Kn) (cs : List Int) : ByteArray := packS k.o (str (k.bits cs))
end
end Go.Proofs.YtmlaaammfnboiaaGreatDoor
