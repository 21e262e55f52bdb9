/- XorTexts in both programs, and its walk. No condition but that all is within the law's bulk. -/
import Derived.Test.YtcliagnongbkmaaDoorYn
import Derived.Test.YtcliagnongbkmaaDoorBa
import Derived.Laws.BitsAllLaws
import Derived.Deep.QuietTactic
import Derived.BigQuiet
namespace Go.Proofs.YtcliagnongbkmaaDoor
open Go.ChangeShapes Go.WideShapes Go.ChangeAt Go.RowKit Go.Joins
set_option linter.unusedVariables false
set_option linter.unusedSimpArgs false

def byteAt (T : ByteArray) (i : Nat) : UInt8 := T.data.toList.getD i 0
/-- the first k bytes of P are changed by T's -/
def xk (P : List UInt8) (T : ByteArray) (k : Nat) : List UInt8 := (List.range P.length).map fun i => if i < k then P.getD i 0 ^^^ byteAt T i else P.getD i 0
def pad (R : List UInt8) (n : Nat) : List UInt8 := R ++ List.replicate (n - R.length) 0
def xs1 (R : List UInt8) (T : ByteArray) : List UInt8 := xk (pad R T.size) T T.size
def xall (l : List ByteArray) : List UInt8 := l.foldl xs1 []
theorem xk_len (P : List UInt8) (T : ByteArray) (k : Nat) : (xk P T k).length = P.length := by simp [xk]
theorem pad_len (R : List UInt8) (n : Nat) : (pad R n).length = max R.length n := by simp [pad]; omega
theorem xs1_len (R : List UInt8) (T : ByteArray) : (xs1 R T).length = max R.length T.size := by rw [xs1, xk_len, pad_len]
theorem xk_zero (P : List UInt8) (T : ByteArray) : xk P T 0 = P := by
  apply List.ext_getElem?
  intro i
  by_cases h : i < P.length
  · simp [xk, h]
  · simp [xk, h]
theorem xk_get (P : List UInt8) (T : ByteArray) (k : Nat) (h : k < P.length) : (xk P T k)[k]? = some (P.getD k 0) := by simp [xk, h]
theorem xk_set (P : List UInt8) (T : ByteArray) (k : Nat) (h : k < P.length) : (xk P T k).set k (P.getD k 0 ^^^ byteAt T k) = xk P T (k + 1) := by
  apply List.ext_getElem?
  intro i
  rw [List.getElem?_set]
  by_cases hi : i < P.length
  · by_cases hk : k = i
    · subst hk; simp [xk, h]
    · have e1 : (i < k + 1) ↔ (i < k) := by omega
      simp [xk, hi, hk, e1]
  · by_cases hk : k = i
    · omega
    · simp [xk, hi, hk]
theorem xall_take (l : List ByteArray) (k : Nat) (h : k < l.length) : xall (l.take (k + 1)) = xs1 (xall (l.take k)) l[k] := by
  unfold xall; rw [List.take_succ_eq_append_getElem h, List.foldl_append]; rfl
theorem byteAt_of (T : ByteArray) (i : Nat) (h : i < T.size) : byteAt T i = T[i] := by
  unfold byteAt
  rw [List.getD_eq_getElem?_getD, List.getElem?_eq_getElem (by simpa using h)]
  rfl
theorem u8_xor_bytes (a b : UInt8) : bits .xor .u8 (a.toNat : Int) (b.toNat : Int) = ((a ^^^ b).toNat : Int) := by
  rw [u8_xor_nat _ _ (UInt8.toNat_lt a) (UInt8.toNat_lt b), UInt8.toNat_xor]

theorem own_put {w : World} {B : Nat} {e : TypeId} {G n cap : Nat} {l : List UInt8} (h : w.ownsRow B e 1 (.slice (some ⟨G, 0, none⟩) n cap) n (l.map vb)) (k : Nat) (c : UInt8) :
    (w.setCell ⟨G, k, none⟩ (.int .u8 (c.toNat : Int))).ownsRow B e 1 (.slice (some ⟨G, 0, none⟩) n cap) n ((l.set k c).map vb) := by
  have h1 := (h.stored k (vb c)).1
  rw [List.map_set]; exact h1

theorem idx_text {P : Program} {t : TypeId} (ht : P.underlying t = some .string) (s : ByteArray) (n : Nat) (h : n < s.size) (w : World) :
    (Instr.index t (.string s) (.int .i64 (n : Int))).run P w = .ok (.int .u8 ((s[n]).toNat : Int)) w := by
  have e := run_index_string (P := P) (w := w) t s .i64 (n : Int) ht
  rw [dif_pos (by omega)] at e
  exact e
/-- an owned value is a slice -/
theorem own_sl {w : World} {B : Nat} {e : TypeId} {v : Value} {n : Nat} {xs : List Value} (h : w.ownsRow B e 1 v n xs) : ∃ A cap, v = .slice A n cap ∧ n ≤ cap ∧ cap ≤ maxLen ∧ (0 < n → ∃ g, A = some ⟨g, 0, none⟩) := by
  rcases h.2 with ⟨rfl, rfl⟩ | ⟨g, cap, cur, rfl, hb, hh, hnc, hcm, hsz, htk⟩
  · exact ⟨none, 0, rfl, Nat.le_refl _, by simp [maxLen], fun h => absurd h (by omega)⟩
  · exact ⟨_, cap, rfl, hnc, hcm, fun _ => ⟨g, rfl⟩⟩

theorem Tryd.info_u8x : (Tryd.prog.info? 5).map (fun i => (i.zero, i.size, i.bytes)) = some (some (.int .u8 0), 1, 1) := by kernel_rfl

theorem own_e8 (W : World) : (W.alloc (.cells #[] 5)).ownsRow W.heap.size 5 1 (.slice (some ⟨W.heap.size, 0, none⟩) 0 0) 0 (([] : List UInt8).map vb) := World.ownsRow_made (e := 5) (size := 1) (base := W.heap.size) W #[] 0 (Nat.le_refl _) (by simp [maxLen]) rfl
def szOf : Value → Nat | .slice _ n _ => n | _ => 0
end Go.Proofs.YtcliagnongbkmaaDoor
