/- The laws' marks on rows of texts. -/
import Derived.Test.YtgaihfmopenfeaaOa
import Derived.Test.YtgaihfmopenfeaaYn
import Derived.Test.YtgaihfmopenfeaaQz
namespace Go.Proofs.Ytgaihfmopenfeaa
open Go.ChangeShapes Go.WideShapes Go.ChangeAt Go.RowKit Go.Joins
set_option linter.unusedVariables false
set_option linter.unusedSimpArgs false

/-- the mark of a number -/
def mkT (k : Int) : ByteArray := str (109 :: dec k)
def digs (x : Nat) : List UInt8 := if x = 0 then [] else Lib.decDigits x
theorem digs_step (x : Nat) (h : 0 < x) : digs x = digs (x / 10) ++ [UInt8.ofNat (48 + x % 10)] := by
  unfold digs
  rw [if_neg (by omega)]
  by_cases h9 : x < 10
  · rw [decD_small h9, if_pos (by omega), Nat.mod_eq_of_lt h9]; rfl
  · rw [decD_big (by omega), if_neg (by omega)]

set_option maxRecDepth 100000 in
set_option maxHeartbeats 1000000 in
theorem c_markText (n : Int) (w : World) (h0 : 1 ≤ n) (h1 : n ≤ 1000000000) : Calls Try.prog 28 #[.int .i64 n] w fun e w' => e = .returned (.string (mkT n)) ∧ Below w.heap.size w w' := by
  have hlen := decD_len 10 n.toNat (by simp; omega)
  have hst : digs n.toNat = dec n := by unfold digs dec; rw [if_neg (by omega)]
  go_enter Try.func28, Try.ntmps28
  go_wp2_with fail
  go_loopw [0, 3] (fun nv sv wr => ∃ (x : Nat) (r : List UInt8), nv = .int .i64 x ∧ sv = .string (str r) ∧ Hid (digs x ++ r = dec n) ∧ x ≤ 1000000000 ∧ Below w.heap.size w wr) (fun nv _ _ => (intOf nv).toNat)
  case atStart => exact ⟨n.toNat, [], by rw [Int.toNat_of_nonneg (by omega)], rfl, hid (by rw [List.append_nil]; exact hst), by omega, by (repeat (first | with_reducible (first | assumption | exact Below.refl _ _ | refine bel_alloc ?_ _ | refine bel_drew ?_ | refine bel_drewN ?_ _ | refine bel_set ?_ (by first | omega | (simp; done) | (simp; omega)) _ | refine bel_trans ?_ (by assumption)) | assumption | refine bel_trans ?_ (by assumption)))⟩
  case round =>
    clear hst
    obtain ⟨x, r, rfl, rfl, HX, hx, cr⟩ := hrel
    have hr : (str r).size ≤ 20 := by
      have := congrArg List.length HX.out
      rw [List.length_append] at this
      rw [str_size]; unfold dec at this; omega
    obtain ⟨R, hR⟩ : ∃ R, R = str r := ⟨_, rfl⟩
    rw [← hR] at hr ⊢
    have HR := hid hR
    clear hR
    by_cases h9 : 0 < x
    · have hd : (48 + (x : Int) % 10) = ((UInt8.ofNat (48 + x % 10)).toNat : Int) := by rw [UInt8.toNat_ofNat']; omega
      have hm : 0 ≤ (x : Int) % 10 ∧ (x : Int) % 10 ≤ 9 := by omega
      have hcv := run_one (P := Try.prog) (w := wr) Try.underlying40 Try.underlying5 Try.underlying9 hd
      obtain ⟨c, hc⟩ : ∃ c, c = UInt8.ofNat (48 + x % 10) := ⟨_, rfl⟩
      rw [← hc] at hcv
      obtain ⟨D, hD⟩ : ∃ D, D = str [c] := ⟨_, rfl⟩
      have hDs : D.size ≤ 1 := by rw [hD, str_size]; simp
      rw [← hD] at hcv
      have HN := hid (show D ++ R = str (c :: r) by rw [hD, HR.out, str_append]; rfl)
      have HY := hid (show digs (x / 10) ++ (c :: r) = dec n by rw [← HX.out, digs_step x h9, hc, List.append_assoc]; rfl)
      have h9i : (0 : Int) < (x : Int) := by omega
      clear hD hc hd
      go_wp2
      go_roundw
      case rel => exact ⟨x / 10, c :: r, by go_num, by rw [HN.out], HY, by omega, by (repeat (first | with_reducible (first | assumption | exact Below.refl _ _ | refine bel_alloc ?_ _ | refine bel_drew ?_ | refine bel_drewN ?_ _ | refine bel_set ?_ (by first | omega | (simp; done) | (simp; omega)) _ | refine bel_trans ?_ (by assumption)) | assumption | refine bel_trans ?_ (by assumption)))⟩
      case measure => simp [intOf]; omega
    · have hx0 : x = 0 := by omega
      subst hx0
      have HN := hid (show (⟨#[109]⟩ : ByteArray) ++ R = mkT n by
        have e := HX.out
        have e0 : digs 0 = [] := rfl
        rw [e0, List.nil_append] at e
        rw [mkT, HR.out, e]
        show str [109] ++ str (dec n) = _
        rw [str_append]; rfl)
      clear HX
      go_wp2
      go_ret
      exact ⟨by rw [HN.out]; rfl, by (repeat (first | with_reducible (first | assumption | exact Below.refl _ _ | refine bel_alloc ?_ _ | refine bel_drew ?_ | refine bel_drewN ?_ _ | refine bel_set ?_ (by first | omega | (simp; done) | (simp; omega)) _ | refine bel_trans ?_ (by assumption)) | assumption | refine bel_trans ?_ (by assumption)))⟩

/-- the marks from one on -/
def mks (n : Nat) : List ByteArray := (List.range n).map fun (i : Nat) => mkT ((i : Int) + 1)
theorem mks_len (n : Nat) : (mks n).length = n := by simp [mks]
theorem mks_get (n : Nat) (i : Nat) (h : i < n) : (mks n)[i]? = some (mkT ((i : Int) + 1)) := by simp [mks, h]
theorem mks_succ (n : Nat) : mks (n + 1) = mks n ++ [mkT ((n : Int) + 1)] := by simp [mks, List.range_succ]

set_option maxRecDepth 100000 in
set_option maxHeartbeats 4000000 in
theorem c_markStringS (B G cap : Nat) (l : List ByteArray) (w : World) (h : w.ownsRow B 9 1 (.slice (some ⟨G, 0, none⟩) l.length cap) l.length (l.map sv)) (hn : l.length ≤ 1048576) : Calls Try.prog 12 #[.slice (some ⟨G, 0, none⟩) l.length cap, .int .i64 1] w fun e w' => e = .returned (.int .i64 (1 + l.length)) ∧ w'.ownsRow B 9 1 (.slice (some ⟨G, 0, none⟩) l.length cap) l.length ((mks l.length).map sv) ∧ w.grownBy w' (some G) := by
  obtain ⟨N, hN⟩ : ∃ N, N = l.length := ⟨_, rfl⟩
  have HN := hid hN
  rw [← hN] at hn h ⊢
  clear hN
  have HH := hid h
  have hGl := (h.lt G rfl).2
  clear h
  go_enter Try.func12, Try.ntmps12
  go_wp2_with fail
  go_loopw [1, 5] (fun m i wr => ∃ k : Nat, k ≤ N ∧ i = .int .i64 k ∧ m = .int .i64 (1 + k) ∧ wr.ownsRow B 9 1 (.slice (some ⟨G, 0, none⟩) N cap) N ((mks k ++ l.drop k).map sv) ∧ w.grownBy wr (some G)) (fun _ i _ => N - (intOf i).toNat)
  case atStart => exact ⟨0, Nat.zero_le _, rfl, rfl, by simpa [mks] using HH.out, grown_refl _ _⟩
  case round =>
    obtain ⟨k, hk, rfl, rfl, hown, hgr⟩ := hrel
    by_cases hlt : k < N
    · have hlt2 : k < l.length := by have := HN.out; omega
      obtain ⟨p, hp⟩ : ∃ p, p = l[k] := ⟨_, rfl⟩
      have HE := hid (show (mks k ++ l.drop k)[k]? = some p by
        rw [List.getElem?_append_right (by rw [mks_len]; omega), mks_len, Nat.sub_self, List.getElem?_drop, Nat.add_zero, hp]; exact List.getElem?_eq_getElem hlt2)
      have HS := hid (show (mks k ++ l.drop k).set k (mkT (1 + (k : Int))) = mks (k + 1) ++ l.drop (k + 1) by
        rw [List.set_append, if_neg (by rw [mks_len]; omega), mks_len, Nat.sub_self, List.drop_eq_getElem_cons hlt2, List.set_cons_zero, mks_succ, show (1 : Int) + (k : Int) = (k : Int) + 1 from by omega]; simp)
      clear hp
      have hlti : (k : Int) < (N : Int) := by omega
      have HO := hid hown
      clear hown
      obtain ⟨X, hX⟩ : ∃ X, X = mkT (1 + (k : Int)) := ⟨_, rfl⟩
      have HM := hid (fun (v : World) => c_markText (1 + (k : Int)) v (by omega) (by omega))
      rw [← hX] at HM HS
      clear hX
      go_wp2_with fail
      refine (HM.out _).mono ?_
      rintro e W2 ⟨rfl, hb2⟩
      have hown2 := own_on HO.out hb2
      have q0 := own_txt hown2 k _ HE.out
      have f0 := hown2.frozenAt k
      have hst := own_store_txt hown2 k X
      rw [HS.out] at hst
      have hst2 := grown_set (grown_trans hgr (grown_below (some G) hb2)) k (.string X)
      have HT := hid (And.intro hst hst2)
      clear hst hst2 hown2 hgr hb2
      go_wp2
      go_roundw
      case rel => exact ⟨k + 1, by omega, by go_num, vint (by omega), HT.out.1, HT.out.2⟩
      case measure => simp [intOf]; omega
    · have HD := hid (show mks k ++ l.drop k = mks N by rw [show k = N from by omega, List.drop_of_length_le (by have := HN.out; omega)]; simp)
      rw [HD.out] at hown
      go_wp2
      go_ret
      exact ⟨ret_int (by omega), hown, hgr⟩

theorem c_markStringS_nil (w : World) : Calls Try.prog 12 #[.slice none 0 0, .int .i64 1] w (Same (.int .i64 1) w) := by
  go_enter Try.func12, Try.ntmps12
  go_wp2_with fail
  go_loop [1, 5] (fun m i => m = .int .i64 1 ∧ i = .int .i64 0) (fun _ i => 0)
  case atStart => exact ⟨rfl, rfl⟩
  case round =>
    obtain ⟨rfl, rfl⟩ := hrel
    go_wp2
    go_ret
    exact ⟨rfl, rfl⟩

theorem c_heldStringS (L : Nat) (A : Option Addr) (cap n : Nat) (w : World) (h : StrsAt w L A cap (mks n)) (hL : L ≤ w.heap.size) (hn : n ≤ 1048576) : Calls Try.prog 13 #[.slice A n cap, .int .i64 1] w fun e w' => e = .returned (.int .i64 (1 + n)) ∧ Below w.heap.size w w' := by
  have HH := hid h
  clear h
  go_enter Try.func13, Try.ntmps13
  go_wp2_with fail
  go_loopw [1, 5] (fun m i wr => ∃ k : Nat, k ≤ n ∧ i = .int .i64 k ∧ m = .int .i64 (1 + k) ∧ Below w.heap.size w wr) (fun _ i _ => n - (intOf i).toNat)
  case atStart => exact ⟨0, Nat.zero_le _, rfl, rfl, Below.refl _ _⟩
  case round =>
    obtain ⟨k, hk, rfl, rfl, hbl⟩ := hrel
    by_cases hlt : k < n
    · obtain ⟨b, off, rfl, hb, hc⟩ := txt_at (HH.out.below hbl hL) k (by rw [mks_len]; exact hlt)
      have e9 : (mks n)[k]'(by rw [mks_len]; exact hlt) = mkT (1 + (k : Int)) := by
        have := mks_get n k hlt
        rw [List.getElem?_eq_getElem (by rw [mks_len]; exact hlt)] at this
        injection this with this
        rw [this]; congr 1; omega
      rw [e9] at hc
      obtain ⟨X, hX⟩ : ∃ X, X = mkT (1 + (k : Int)) := ⟨_, rfl⟩
      have HM := hid (fun (v : World) => c_markText (1 + (k : Int)) v (by omega) (by omega))
      rw [← hX] at HM hc
      have hXX : (X.toList == X.toList) = true := by simp
      have hlti : (k : Int) < (n : Int) := by omega
      clear hX e9
      rename_i wr _
      have hS : wr.cell? ⟨b, off + k, none⟩ = some (.string X) ∧ Below wr.heap.size wr wr := ⟨hc, Below.refl _ _⟩
      go_wp2_with fail
      refine qB (S := (fun v => v.cell? ⟨b, off + k, none⟩ = some (.string X) ∧ Below wr.heap.size wr v)) (by kernel_rfl) (by kernel_rfl) (s1_drew hS) ?_
      refine qK ?_
      refine qK ?_
      refine qK ?_
      refine qK ?_
      refine qK ?_
      refine qC (fun wq hSq => HM.out wq) (fun wq wr hbr hSq => s1_bel hbr hSq) ?_
      refine qK ?_
      refine qN ?_
      intro wq hSq
      (try dsimp only at hSq)
      have hb3 := hbl.trans (hSq.2.mono hbl.size)
      clear hSq hS
      go_wp2
      go_roundw
      case rel => exact ⟨k + 1, by omega, by go_num, vint (by omega), hb3⟩
      case measure => simp [intOf]; omega
    · go_wp2
      go_ret
      exact ⟨ret_int (by omega), hbl⟩

/-- whatever row is owned: its mark -/
theorem c_markStringS_any (l : List ByteArray) (B cap : Nat) (A : Option Addr) (w : World) (h : w.ownsRow B 9 1 (.slice A l.length cap) l.length (l.map sv)) (hn : l.length ≤ 1048576) : Calls Try.prog 12 #[.slice A l.length cap, .int .i64 1] w fun e w' => e = .returned (.int .i64 (1 + l.length)) ∧ w'.ownsRow B 9 1 (.slice A l.length cap) l.length ((mks l.length).map sv) ∧ w.grownBy w' (Value.slice A l.length cap).ownBlock := by
  obtain ⟨A', cap', e1, h2, h3, h4⟩ := own_strs h
  obtain ⟨rfl, -, rfl⟩ : A = A' ∧ True ∧ cap = cap' := by simpa using e1
  rcases h4 with rfl | ⟨g, rfl, h5, h6⟩
  · have h0 : l.length = 0 := by
      have := h2.2.2.1 rfl
      have := h2.1
      omega
    have hl : l = [] := List.length_eq_zero_iff.1 h0
    subst hl
    have hc0 : cap = 0 := h2.2.2.1 rfl
    subst hc0
    refine (c_markStringS_nil w).mono ?_
    rintro e w' ⟨rfl, rfl⟩
    exact ⟨rfl, h, grown_refl _ _⟩
  · exact c_markStringS B g cap l w h hn
end Go.Proofs.Ytgaihfmopenfeaa
