/- XorTexts in both programs, and its walk. No condition but that all is within the law's bulk. -/
import Derived.Test.YtlekjmgjnnljcaaYn
import Derived.Test.YtlekjmgjnnljcaaBa
import Derived.Laws.BitsAllLaws
import Derived.Deep.QuietTactic
import Derived.BigQuiet
namespace Go.Proofs.Ytlekjmgjnnljcaa
open Go.ChangeShapes Go.WideShapes Go.ChangeAt Go.RowKit Go.Joins
set_option linter.unusedVariables false
set_option linter.unusedSimpArgs false

def byteAt (T : ByteArray) (i : Nat) : UInt8 := T.data.toList.getD i 0
/-- the first k bytes of P are changed by T's -/
def xk (P : List UInt8) (T : ByteArray) (k : Nat) : List UInt8 := (List.range P.length).map fun i => if i < k then P.getD i 0 ^^^ byteAt T i else P.getD i 0
def pad (R : List UInt8) (n : Nat) : List UInt8 := R ++ List.replicate (n - R.length) 0
def xs1 (R : List UInt8) (T : ByteArray) : List UInt8 := xk (pad R T.size) T T.size
def xall (l : List ByteArray) : List UInt8 := l.foldl xs1 []
theorem xk_len (P : List UInt8) (T : ByteArray) (k : Nat) : (xk P T k).length = P.length := by simp [xk]
theorem pad_len (R : List UInt8) (n : Nat) : (pad R n).length = max R.length n := by simp [pad]; omega
theorem xs1_len (R : List UInt8) (T : ByteArray) : (xs1 R T).length = max R.length T.size := by rw [xs1, xk_len, pad_len]
theorem xk_zero (P : List UInt8) (T : ByteArray) : xk P T 0 = P := by
  apply List.ext_getElem?
  intro i
  by_cases h : i < P.length
  · simp [xk, h]
  · simp [xk, h]
theorem xk_get (P : List UInt8) (T : ByteArray) (k : Nat) (h : k < P.length) : (xk P T k)[k]? = some (P.getD k 0) := by simp [xk, h]
theorem xk_set (P : List UInt8) (T : ByteArray) (k : Nat) (h : k < P.length) : (xk P T k).set k (P.getD k 0 ^^^ byteAt T k) = xk P T (k + 1) := by
  apply List.ext_getElem?
  intro i
  rw [List.getElem?_set]
  by_cases hi : i < P.length
  · by_cases hk : k = i
    · subst hk; simp [xk, h]
    · have e1 : (i < k + 1) ↔ (i < k) := by omega
      simp [xk, hi, hk, e1]
  · by_cases hk : k = i
    · omega
    · simp [xk, hi, hk]
theorem xall_take (l : List ByteArray) (k : Nat) (h : k < l.length) : xall (l.take (k + 1)) = xs1 (xall (l.take k)) l[k] := by
  unfold xall; rw [List.take_succ_eq_append_getElem h, List.foldl_append]; rfl
theorem byteAt_of (T : ByteArray) (i : Nat) (h : i < T.size) : byteAt T i = T[i] := by
  unfold byteAt
  rw [List.getD_eq_getElem?_getD, List.getElem?_eq_getElem (by simpa using h)]
  rfl
theorem u8_xor_bytes (a b : UInt8) : bits .xor .u8 (a.toNat : Int) (b.toNat : Int) = ((a ^^^ b).toNat : Int) := by
  rw [u8_xor_nat _ _ (UInt8.toNat_lt a) (UInt8.toNat_lt b), UInt8.toNat_xor]

theorem own_put {w : World} {B : Nat} {e : TypeId} {G n cap : Nat} {l : List UInt8} (h : w.ownsRow B e 1 (.slice (some ⟨G, 0, none⟩) n cap) n (l.map vb)) (k : Nat) (c : UInt8) :
    (w.setCell ⟨G, k, none⟩ (.int .u8 (c.toNat : Int))).ownsRow B e 1 (.slice (some ⟨G, 0, none⟩) n cap) n ((l.set k c).map vb) := by
  have h1 := (h.stored k (vb c)).1
  rw [List.map_set]; exact h1

theorem idx_text {P : Program} {t : TypeId} (ht : P.underlying t = some .string) (s : ByteArray) (n : Nat) (h : n < s.size) (w : World) :
    (Instr.index t (.string s) (.int .i64 (n : Int))).run P w = .ok (.int .u8 ((s[n]).toNat : Int)) w := by
  have e := run_index_string (P := P) (w := w) t s .i64 (n : Int) ht
  rw [dif_pos (by omega)] at e
  exact e
/-- an owned value is a slice -/
theorem own_sl {w : World} {B : Nat} {e : TypeId} {v : Value} {n : Nat} {xs : List Value} (h : w.ownsRow B e 1 v n xs) : ∃ A cap, v = .slice A n cap ∧ n ≤ cap ∧ cap ≤ maxLen ∧ (0 < n → ∃ g, A = some ⟨g, 0, none⟩) := by
  rcases h.2 with ⟨rfl, rfl⟩ | ⟨g, cap, cur, rfl, hb, hh, hnc, hcm, hsz, htk⟩
  · exact ⟨none, 0, rfl, Nat.le_refl _, by simp [maxLen], fun h => absurd h (by omega)⟩
  · exact ⟨_, cap, rfl, hnc, hcm, fun _ => ⟨g, rfl⟩⟩

theorem Try.info_u8x : (Try.prog.info? 5).map (fun i => (i.zero, i.size, i.bytes)) = some (some (.int .u8 0), 1, 1) := by kernel_rfl

theorem own_e8 (W : World) : (W.alloc (.cells #[] 5)).ownsRow W.heap.size 5 1 (.slice (some ⟨W.heap.size, 0, none⟩) 0 0) 0 (([] : List UInt8).map vb) := World.ownsRow_made (e := 5) (size := 1) (base := W.heap.size) W #[] 0 (Nat.le_refl _) (by simp [maxLen]) rfl
def szOf : Value → Nat | .slice _ n _ => n | _ => 0

theorem c_XorTexts (A : Option Addr) (cap : Nat) (l : List ByteArray) (L : Nat) (w : World) (h : StrsAt w L A cap l) (hL : L ≤ w.heap.size) (hS : ∀ s ∈ l, s.size ≤ 1048576) : Calls Try.prog 9 #[.slice A l.length cap] w fun e w' => e = .returned (.string (str (xall l))) ∧ Below w.heap.size w w' := by
  have hml := h.2.1
  have hml1 := h.1
  unfold maxLen at hml
  obtain ⟨N, hN⟩ : ∃ N, N = l.length := ⟨_, rfl⟩
  have HN := hid hN
  rw [← hN] at hml1 ⊢
  clear hN
  go_enter Try.func9, Try.ntmps9
  go_wp2_with fail
  go_loopw [3, 10] (fun v i wr => ∃ (k : Nat) (R : List UInt8), k ≤ N ∧ i = .int .i64 k ∧ Hid (R = xall (l.take k)) ∧ R.length ≤ 1048576 ∧ wr.ownsRow w.heap.size 5 1 v R.length (R.map vb) ∧ Below w.heap.size w wr) (fun _ i _ => N - (intOf i).toNat)
  case atStart => exact ⟨0, [], Nat.zero_le _, rfl, hid rfl, by simp, own_nil _ _ _, by (repeat (first | with_reducible (first | assumption | exact Below.refl _ _ | refine bel_alloc ?_ _ | refine bel_drew ?_ | refine bel_drewN ?_ _ | refine bel_set ?_ (by first | omega | (simp; done) | (simp; omega)) _ | refine bel_trans ?_ (by assumption)) | assumption | refine bel_trans ?_ (by assumption)))⟩
  case round =>
    obtain ⟨k, R, hk, rfl, HR, hRl, hown, hbl⟩ := hrel
    by_cases hlt : k < N
    · have hlt2 : k < l.length := by have := HN.out; omega
      obtain ⟨b, off, rfl, hb, hc0⟩ := txt_at (h.below hbl hL) k hlt2
      have hTs := hS _ (List.getElem_mem hlt2)
      obtain ⟨T, hT⟩ : ∃ T, T = l[k] := ⟨_, rfl⟩
      rw [← hT] at hc0 hTs
      have HR2 := hid (show xs1 R T = xall (l.take (k + 1)) by rw [xall_take l k hlt2, ← HR.out, hT])
      clear hT
      obtain ⟨A2, c2, rfl, hc21, hc22, hA2⟩ := own_sl hown
      unfold maxLen at hc22
      obtain ⟨n, hn⟩ : ∃ n, n = R.length := ⟨_, rfl⟩
      have Hn := hid hn
      rw [← hn] at hown hc21 hRl hA2 ⊢
      clear hn
      have hbs : wr.heap.size ≥ w.heap.size := hbl.size
      go_wp2_with (at_builtin; refine app_zeros rfl _ _ 22 3 rfl w.heap.size 5 .i64 .i64 Try.underlying22 Try.underlying3 Try.info_u8x _ n R rfl hown _ (T.size - n) rfl (by omega) (by omega) (by omega) ?_; intro v1 w1 hown1 hb1 hg1)
      obtain ⟨P, hP⟩ : ∃ P, P = pad R T.size := ⟨_, rfl⟩
      obtain ⟨p, hp⟩ : ∃ p, p = n + (T.size - n) := ⟨_, rfl⟩
      have hown2 : w1.ownsRow w.heap.size 5 1 v1 p (P.map vb) := by
        rw [hp, hP, pad, ← Hn.out]
        simpa using hown1
      have HP := hid (And.intro hP (own_len hown2))
      clear hown1 hP
      obtain ⟨A3, c3, rfl, hc31, hc32, hA3⟩ := own_sl hown2
      unfold maxLen at hc32
      have hTp : T.size ≤ p := by omega
      have hp2 : p ≤ 1048576 := by omega
      have hb2 : Below w.heap.size w w1 := hbl.trans hb1
      clear hp hown hg1 hb1
      have hown3 : w1.ownsRow w.heap.size 5 1 (.slice A3 p c3) p ((xk P T 0).map vb) := by rw [xk_zero]; exact hown2
      clear hown2
      go_wp2_with fail
      go_loopw [25] (fun j wr => ∃ q : Nat, q ≤ T.size ∧ j = .int .i64 q ∧ wr.ownsRow w.heap.size 5 1 (.slice A3 p c3) p ((xk P T q).map vb) ∧ Below w.heap.size w wr) (fun j _ => T.size - (intOf j).toNat)
      case atStart => exact ⟨0, Nat.zero_le _, rfl, hown3, by (repeat (first | with_reducible (first | assumption | exact Below.refl _ _ | refine bel_alloc ?_ _ | refine bel_drew ?_ | refine bel_drewN ?_ _ | refine bel_set ?_ (by first | omega | (simp; done) | (simp; omega)) _ | refine bel_trans ?_ (by assumption)) | assumption | refine bel_trans ?_ (by assumption)))⟩
      case round =>
        obtain ⟨q, hq, rfl, hown4, hbq⟩ := hrel
        by_cases hqt : q < T.size
        · obtain ⟨g, rfl⟩ := hA3 (by omega)
          have hqp : q < P.length := by have := HP.out.2; omega
          obtain ⟨c, hc⟩ : ∃ c, c = P.getD q 0 := ⟨_, rfl⟩
          have HE := hid (show (xk P T q)[q]? = some c by rw [hc]; exact xk_get P T q hqp)
          have q0 : wr.cell? ⟨g, q, none⟩ = some (.int .u8 (c.toNat : Int)) := by
            have := own_cell hown4 q (by omega)
            rw [HE.out] at this
            exact this
          have f0 := hown4.frozenAt q
          have hge := hown4.lt g rfl
          have hx := u8_xor_bytes c T[q]
          have HS := hid (show (xk P T q).set q (c ^^^ T[q]) = xk P T (q + 1) by rw [hc, ← byteAt_of T q hqt]; exact xk_set P T q hqp)
          have HQ := hid (show (wr.setCell ⟨g, q, none⟩ (.int .u8 ((c.toNat ^^^ T[q].toNat : Nat) : Int))).ownsRow w.heap.size 5 1 (.slice (some ⟨g, 0, none⟩) p c3) p ((xk P T (q + 1)).map vb) by
            rw [← HS.out, ← UInt8.toNat_xor]; exact own_put hown4 q _)
          have HB := hid (show Below w.heap.size w (wr.setCell ⟨g, q, none⟩ (.int .u8 ((c.toNat ^^^ T[q].toNat : Nat) : Int))) by (repeat (first | with_reducible (first | assumption | exact Below.refl _ _ | refine bel_alloc ?_ _ | refine bel_drew ?_ | refine bel_drewN ?_ _ | refine bel_set ?_ (by first | omega | (simp; done) | (simp; omega)) _ | refine bel_trans ?_ (by assumption)) | assumption | refine bel_trans ?_ (by assumption))))
          clear hc hown4
          have hi := fun W => idx_text (P := Try.prog) Try.underlying9 T q hqt W
          go_wp2
          go_region
          all_goals
            go_wp2
            go_roundw
            case rel => exact ⟨q + 1, by omega, by go_num, HQ.out, by first | exact HB.out | exact HB.out.drew⟩
            case measure => simp [intOf]; omega
        · have hqe : q = T.size := by omega
          rw [hqe] at hown4
          have HL := hid (xs1_len R T)
          have HQ := hid (show wr.ownsRow w.heap.size 5 1 (.slice A3 p c3) (xs1 R T).length ((xs1 R T).map vb) by
            have e1 : xk P T T.size = xs1 R T := by rw [xs1, ← HP.out.1]
            rw [e1] at hown4
            rw [own_len hown4]
            exact hown4)
          clear hown4
          go_wp2
          go_roundw
          case rel => exact ⟨k + 1, xs1 R T, by omega, by go_num, hid HR2.out, by rw [HL.out]; have := Hn.out; omega, HQ.out, by (repeat (first | with_reducible (first | assumption | exact Below.refl _ _ | refine bel_alloc ?_ _ | refine bel_drew ?_ | refine bel_drewN ?_ _ | refine bel_set ?_ (by first | omega | (simp; done) | (simp; omega)) _ | refine bel_trans ?_ (by assumption)) | assumption | refine bel_trans ?_ (by assumption)))⟩
          case measure => simp [intOf]; omega
    · have HD := hid (show R = xall l by rw [HR.out, show k = N from by omega, HN.out, List.take_length])
      have hown9 := hown
      rw [HD.out] at hown9
      have hc := run_str (P := Try.prog) (src := 22) (dst := 9) Try.underlying22 Try.underlying5 Try.underlying9 hown9
      clear hown hown9
      go_wp2
      go_ret
      exact ⟨rfl, by (repeat (first | with_reducible (first | assumption | exact Below.refl _ _ | refine bel_alloc ?_ _ | refine bel_drew ?_ | refine bel_drewN ?_ _ | refine bel_set ?_ (by first | omega | (simp; done) | (simp; omega)) _ | refine bel_trans ?_ (by assumption)) | assumption | refine bel_trans ?_ (by assumption)))⟩

theorem c_sXorTexts (A : Option Addr) (cap : Nat) (l : List ByteArray) (L : Nat) (w : World) (h : StrsAt w L A cap l) (hL : L ≤ w.heap.size) (hS : ∀ s ∈ l, s.size ≤ 1048576) : Calls Try.prog 27 #[.slice A l.length cap] w fun e w' => e = .returned (.string (str (xall l))) ∧ Below w.heap.size w w' := by
  have hml := h.2.1
  have hml1 := h.1
  unfold maxLen at hml
  obtain ⟨N, hN⟩ : ∃ N, N = l.length := ⟨_, rfl⟩
  have HN := hid hN
  rw [← hN] at hml1 ⊢
  clear hN
  have he := own_e8 w
  go_enter Try.func27, Try.ntmps27
  go_wp2_with fail
  go_loopw [3, 4] (fun v i wr => ∃ (k : Nat) (R : List UInt8), k ≤ N ∧ i = .int .i64 k ∧ Hid (R = xall (l.take k)) ∧ R.length ≤ 1048576 ∧ wr.ownsRow w.heap.size 5 1 v R.length (R.map vb) ∧ Below w.heap.size w wr) (fun _ i _ => N - (intOf i).toNat)
  case atStart => exact ⟨0, [], Nat.zero_le _, rfl, hid rfl, by simp, he, by (repeat (first | with_reducible (first | assumption | exact Below.refl _ _ | refine bel_alloc ?_ _ | refine bel_drew ?_ | refine bel_drewN ?_ _ | refine bel_set ?_ (by first | omega | (simp; done) | (simp; omega)) _ | refine bel_trans ?_ (by assumption)) | assumption | refine bel_trans ?_ (by assumption)))⟩
  case round =>
    obtain ⟨k, R, hk, rfl, HR, hRl, hown, hbl⟩ := hrel
    by_cases hlt : k < N
    · have hlt2 : k < l.length := by have := HN.out; omega
      have hTs := hS _ (List.getElem_mem hlt2)
      obtain ⟨T, hT⟩ : ∃ T, T = l[k] := ⟨_, rfl⟩
      obtain ⟨b, off, rfl, hb, hcw⟩ := txt_at h k hlt2
      have HC0 := hid (fun (W : World) (hW : Below w.heap.size w W) => show W.cell? ⟨b, off + k, none⟩ = some (.string T) by
        obtain ⟨b', off', e1, _, hc⟩ := txt_at (h.below hW hL) k hlt2
        simp only [Option.some.injEq, Addr.mk.injEq, and_true] at e1
        obtain ⟨rfl, rfl⟩ := e1
        rw [hT]; exact hc)
      clear hcw
      rw [← hT] at hTs
      have HR2 := hid (show xs1 R T = xall (l.take (k + 1)) by rw [xall_take l k hlt2, ← HR.out, hT])
      clear hT
      obtain ⟨n, hn⟩ : ∃ n, n = R.length := ⟨_, rfl⟩
      have Hn := hid hn
      rw [← hn] at hown hRl
      clear hn
      go_wp2_with fail
      go_loopw [3] (fun v wr => ∃ j : Nat, j ≤ T.size - n ∧ wr.ownsRow w.heap.size 5 1 v (n + j) ((R ++ List.replicate j (0 : UInt8)).map vb) ∧ Below w.heap.size w wr) (fun v _ => T.size - szOf v)
      case atStart => exact ⟨0, Nat.zero_le _, by simpa using hown, hbl⟩
      case round =>
        obtain ⟨j, hj, hown2, hb2⟩ := hrel
        obtain ⟨A2, c2, rfl, hc21, hc22, hA2⟩ := own_sl hown2
        unfold maxLen at hc22
        have hc0 := HC0.out _ hb2
        have hbs : wr.heap.size ≥ w.heap.size := hb2.size
        by_cases hlt3 : n + j < T.size
        · have HE := hid (show R ++ List.replicate j (0 : UInt8) ++ [0] = R ++ List.replicate (j + 1) 0 by rw [List.replicate_succ', List.append_assoc])
          have hj2 : (↑n + ↑j : Int) < T.size := by omega
          go_wp2_with (at_builtin; refine app_byte rfl _ _ 22 rfl w.heap.size 5 Try.underlying22 Try.info_u8x _ _ _ rfl hown2 (0 : UInt8) _ rfl 1 rfl (by omega) (by omega) ?_; intro v9 w9 hown9 hb9 hg9)
          obtain ⟨A9, c9, rfl, _, _, _⟩ := own_sl hown9
          exact ⟨⟨j + 1, by omega, by rw [← HE.out]; exact hown9, hb2.trans hb9⟩, by simp only [szOf]; omega⟩
        · have hje : j = T.size - n := by omega
          obtain ⟨P, hP⟩ : ∃ P, P = pad R T.size := ⟨_, rfl⟩
          obtain ⟨p, hp⟩ : ∃ p, p = n + j := ⟨_, rfl⟩
          have hown3 : wr.ownsRow w.heap.size 5 1 (.slice A2 p c2) p ((xk P T 0).map vb) := by
            rw [xk_zero, hp, hP, pad, ← Hn.out, ← hje]
            exact hown2
          have HP := hid (And.intro hP (by have := own_len hown3; rw [xk_len] at this; exact this))
          rw [← hp] at hA2 hc21 ⊢
          have hTp : T.size ≤ p := by omega
          have hTp2 : ¬ (p : Int) < T.size := by omega
          have hp2 : p ≤ 1048576 := by omega
          clear hP hown2 hje hp hlt3 hj
          go_wp2_with fail
          go_loopw [5] (fun j wr => ∃ q : Nat, q ≤ T.size ∧ j = .int .i64 q ∧ wr.ownsRow w.heap.size 5 1 (.slice A2 p c2) p ((xk P T q).map vb) ∧ Below w.heap.size w wr) (fun j _ => T.size - (intOf j).toNat)
          case atStart => exact ⟨0, Nat.zero_le _, rfl, hown3, hb2⟩
          case round =>
            obtain ⟨q, hq, rfl, hown4, hbq⟩ := hrel
            have hc1 := HC0.out _ hbq
            by_cases hqt : q < T.size
            · obtain ⟨g, rfl⟩ := hA2 (by omega)
              have hqp : q < P.length := by have := HP.out.2; omega
              obtain ⟨c, hc⟩ : ∃ c, c = P.getD q 0 := ⟨_, rfl⟩
              have HE := hid (show (xk P T q)[q]? = some c by rw [hc]; exact xk_get P T q hqp)
              have q0 : wr.cell? ⟨g, q, none⟩ = some (.int .u8 (c.toNat : Int)) := by
                have := own_cell hown4 q (by omega)
                rw [HE.out] at this
                exact this
              have f0 := hown4.frozenAt q
              have hge := hown4.lt g rfl
              have hx := u8_xor_bytes c T[q]
              have HS := hid (show (xk P T q).set q (c ^^^ T[q]) = xk P T (q + 1) by rw [hc, ← byteAt_of T q hqt]; exact xk_set P T q hqp)
              have HQ := hid (show (wr.setCell ⟨g, q, none⟩ (.int .u8 ((c.toNat ^^^ T[q].toNat : Nat) : Int))).ownsRow w.heap.size 5 1 (.slice (some ⟨g, 0, none⟩) p c2) p ((xk P T (q + 1)).map vb) by
                rw [← HS.out, ← UInt8.toNat_xor]; exact own_put hown4 q _)
              have HB := hid (show Below w.heap.size w (wr.setCell ⟨g, q, none⟩ (.int .u8 ((c.toNat ^^^ T[q].toNat : Nat) : Int))) by (repeat (first | with_reducible (first | assumption | exact Below.refl _ _ | refine bel_alloc ?_ _ | refine bel_drew ?_ | refine bel_drewN ?_ _ | refine bel_set ?_ (by first | omega | (simp; done) | (simp; omega)) _ | refine bel_trans ?_ (by assumption)) | assumption | refine bel_trans ?_ (by assumption))))
              clear hc hown4
              have hi := fun W => idx_text (P := Try.prog) Try.underlying9 T q hqt W
              go_wp2
              go_region
              all_goals
                go_wp2
                go_roundw
                case rel => exact ⟨q + 1, by omega, by go_num, HQ.out, by first | exact HB.out | exact HB.out.drew⟩
                case measure => simp [intOf]; omega
            · have hqe : q = T.size := by omega
              rw [hqe] at hown4
              have HL := hid (xs1_len R T)
              have HQ := hid (show wr.ownsRow w.heap.size 5 1 (.slice A2 p c2) (xs1 R T).length ((xs1 R T).map vb) by
                have e1 : xk P T T.size = xs1 R T := by rw [xs1, ← HP.out.1]
                rw [e1] at hown4
                rw [own_len hown4]
                exact hown4)
              clear hown4
              go_wp2
              go_roundw
              case rel => exact ⟨k + 1, xs1 R T, by omega, by go_num, hid HR2.out, by rw [HL.out]; have := Hn.out; omega, HQ.out, by (repeat (first | with_reducible (first | assumption | exact Below.refl _ _ | refine bel_alloc ?_ _ | refine bel_drew ?_ | refine bel_drewN ?_ _ | refine bel_set ?_ (by first | omega | (simp; done) | (simp; omega)) _ | refine bel_trans ?_ (by assumption)) | assumption | refine bel_trans ?_ (by assumption)))⟩
              case measure => simp [intOf]; omega
    · have HD := hid (show R = xall l by rw [HR.out, show k = N from by omega, HN.out, List.take_length])
      have hown9 := hown
      rw [HD.out] at hown9
      have hc := run_str (P := Try.prog) (src := 22) (dst := 9) Try.underlying22 Try.underlying5 Try.underlying9 hown9
      clear hown hown9
      go_wp2
      go_ret
      exact ⟨rfl, by (repeat (first | with_reducible (first | assumption | exact Below.refl _ _ | refine bel_alloc ?_ _ | refine bel_drew ?_ | refine bel_drewN ?_ _ | refine bel_set ?_ (by first | omega | (simp; done) | (simp; omega)) _ | refine bel_trans ?_ (by assumption)) | assumption | refine bel_trans ?_ (by assumption)))⟩
end Go.Proofs.Ytlekjmgjnnljcaa
