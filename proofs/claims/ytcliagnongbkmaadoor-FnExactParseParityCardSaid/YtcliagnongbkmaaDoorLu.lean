/- Places of the blocks as texts: what ParseIndex reads; the laws' helpers on rows of places. -/
import Derived.Test.YtcliagnongbkmaaDoorLd
import Derived.Test.YtcliagnongbkmaaDoorIc
import Derived.Test.YtcliagnongbkmaaDoorBb
import Derived.Deep.SlicePairs
namespace Go.Proofs.YtcliagnongbkmaaDoor
open Go.ChangeShapes Go.WideShapes Go.ChangeAt Go.RowKit Go.Joins
set_option linter.unusedVariables false
set_option linter.unusedSimpArgs false

theorem pq_at {w : World} {L cap : Nat} {A : Option Addr} {ps : List Pr} (h : PsAt w L A cap ps) (i : Nat) (hi : i < ps.length) : ∃ b off, A = some ⟨b, off, none⟩ ∧ b < L ∧ w.cell? ⟨b, off + i * 2, none⟩ = some (.int .i64 ps[i].1) ∧ w.cell? ⟨b, off + i * 2 + 1, none⟩ = some (.int .i64 ps[i].2) := by
  obtain ⟨b, off, e, hb, hc⟩ := h.2.2.2 (by omega)
  have := hc i ps[i] (List.getElem?_eq_getElem hi)
  exact ⟨b, off, e, hb, this.1, this.2⟩

theorem own_pq {w : World} {B : Nat} {e : TypeId} {G n cap : Nat} {l : List Pr} (h : w.ownsRow B e 2 (.slice (some ⟨G, 0, none⟩) n cap) n (prs l)) (k : Nat) (p : Pr) (hk : l[k]? = some p) : w.cell? ⟨G, k * 2, none⟩ = some (.int .i64 p.1) ∧ w.cell? ⟨G, k * 2 + 1, none⟩ = some (.int .i64 p.2) := by
  have hl := h.1
  rw [prs_len] at hl
  have hk2 := get_lt hk
  have := prs_get l k p hk
  exact ⟨(h.cellAt _ (by omega)).trans this.1, (h.cellAt _ (by omega)).trans this.2⟩

/-- the pairs that hold the numbers from s on -/
def mkq (n : Nat) (s : Int) : List Pr := (List.range n).map fun (i : Nat) => (s + 2 * (i : Int), s + 2 * (i : Int) + 1)
theorem mkq_len (n : Nat) (s : Int) : (mkq n s).length = n := by simp [mkq]
theorem mkq_get (n : Nat) (s : Int) (i : Nat) (h : i < n) : (mkq n s)[i]? = some (s + 2 * i, s + 2 * i + 1) := by simp [mkq, h]
theorem mkq_succ (n : Nat) (s : Int) : mkq (n + 1) s = mkq n s ++ [(s + 2 * n, s + 2 * n + 1)] := by simp [mkq, List.range_succ]

theorem c_markPlaceS (B G cap : Nat) (ps : List Pr) (w : World) (h : w.ownsRow B 52 2 (.slice (some ⟨G, 0, none⟩) ps.length cap) ps.length (prs ps)) (hn : ps.length ≤ 1048576) : Calls Tryd.prog 12 #[.slice (some ⟨G, 0, none⟩) ps.length cap, .int .i64 1] w fun e w' => e = .returned (.int .i64 (1 + 2 * ps.length)) ∧ w'.ownsRow B 52 2 (.slice (some ⟨G, 0, none⟩) ps.length cap) ps.length (prs (mkq ps.length 1)) ∧ w.grownBy w' (some G) := by
  obtain ⟨N, hN⟩ : ∃ N, N = ps.length := ⟨_, rfl⟩
  have HN := hid hN
  rw [← hN] at hn h ⊢
  clear hN
  have HH := hid h
  clear h
  go_enter Tryd.func12, Tryd.ntmps12
  go_wp2_with fail
  go_loopw [1, 5] (fun m i wr => ∃ k : Nat, k ≤ N ∧ i = .int .i64 k ∧ m = .int .i64 (1 + 2 * k) ∧ wr.ownsRow B 52 2 (.slice (some ⟨G, 0, none⟩) N cap) N (prs (mkq k 1 ++ ps.drop k)) ∧ w.grownBy wr (some G)) (fun _ i _ => N - (intOf i).toNat)
  case atStart => exact ⟨0, Nat.zero_le _, rfl, rfl, by simpa [mkq] using HH.out, grown_refl _ _⟩
  case round =>
    obtain ⟨k, hk, rfl, rfl, hown, hgr⟩ := hrel
    by_cases hlt : k < N
    · have hlt2 : k < ps.length := by have := HN.out; omega
      obtain ⟨p, hp⟩ : ∃ p, p = ps[k] := ⟨_, rfl⟩
      have HE := hid (show (mkq k 1 ++ ps.drop k)[k]? = some p by
        rw [List.getElem?_append_right (by rw [mkq_len]; omega), mkq_len, Nat.sub_self, List.getElem?_drop, Nat.add_zero, hp]; exact List.getElem?_eq_getElem hlt2)
      have HS := hid (show (mkq k 1 ++ ps.drop k).set k ((1 : Int) + 2 * k, (1 : Int) + 2 * k + 1) = mkq (k + 1) 1 ++ ps.drop (k + 1) by
        rw [List.set_append, if_neg (by rw [mkq_len]; omega), mkq_len, Nat.sub_self, List.drop_eq_getElem_cons hlt2, List.set_cons_zero, mkq_succ]; simp)
      clear hp
      obtain ⟨q0, q1⟩ := own_pq hown k _ HE.out
      have f0 := hown.frozenAt (k * 2)
      have f1 := hown.frozenAt (k * 2 + 1)
      have hst := own_store_pair hown k ((1 : Int) + 2 * k, (1 : Int) + 2 * k + 1)
      rw [HS.out] at hst
      have hst2 := grown_set (grown_set hgr (k * 2) (.int .i64 ((1 : Int) + 2 * k))) (k * 2 + 1) (.int .i64 ((1 : Int) + 2 * k + 1))
      have HT := hid (And.intro hst hst2)
      clear hst hst2 hown hgr
      go_wp2
      go_roundw
      case rel => exact ⟨k + 1, by omega, by go_num, vint (by omega), HT.out.1, HT.out.2⟩
      case measure => simp [intOf]; omega
    · have HD := hid (show mkq k 1 ++ ps.drop k = mkq N 1 by rw [show k = N from by omega, List.drop_of_length_le (by have := HN.out; omega)]; simp)
      rw [HD.out] at hown
      go_wp2
      go_ret
      exact ⟨ret_int (by omega), hown, hgr⟩

theorem c_markPlaceS_nil (w : World) : Calls Tryd.prog 12 #[.slice none 0 0, .int .i64 1] w (Same (.int .i64 1) w) := by
  go_enter Tryd.func12, Tryd.ntmps12
  go_wp2_with fail
  go_loop [1, 5] (fun m i => m = .int .i64 1 ∧ i = .int .i64 0) (fun _ i => 0)
  case atStart => exact ⟨rfl, rfl⟩
  case round =>
    obtain ⟨rfl, rfl⟩ := hrel
    go_wp2
    go_ret
    exact ⟨rfl, rfl⟩

theorem c_heldPlaceS (L : Nat) (A : Option Addr) (cap n : Nat) (w : World) (h : PsAt w L A cap (mkq n 1)) (hn : n ≤ 1048576) : Calls Tryd.prog 13 #[.slice A n cap, .int .i64 1] w (Same (.int .i64 (1 + 2 * n)) w) := by
  have HH := hid h
  clear h
  go_enter Tryd.func13, Tryd.ntmps13
  go_wp2_with fail
  go_loop [1, 5] (fun m i => ∃ k : Nat, k ≤ n ∧ i = .int .i64 k ∧ m = .int .i64 (1 + 2 * k)) (fun _ i => n - (intOf i).toNat)
  case atStart => exact ⟨0, Nat.zero_le _, rfl, rfl⟩
  case round =>
    obtain ⟨k, hk, rfl, rfl⟩ := hrel
    by_cases hlt : k < n
    · obtain ⟨b, off, rfl, hb, hc⟩ := HH.out.2.2.2 (by rw [mkq_len]; omega)
      have hcc := hc k _ (mkq_get n 1 k hlt)
      obtain ⟨hc0, hc1⟩ := hcc
      clear hc
      go_wp2
      go_round
      case rel => exact ⟨k + 1, by omega, by go_num, vint (by omega)⟩
      case measure => simp [intOf]; omega
    · go_wp2
      go_ret
      exact ⟨ret_int (by omega), rfl⟩

/-- whatever slice is owned: its mark -/
theorem c_markPlaceS_any (ps : List Pr) (B cap : Nat) (A : Option Addr) (w : World) (h : w.ownsRow B 52 2 (.slice A ps.length cap) ps.length (prs ps)) (hn : ps.length ≤ 1048576) : Calls Tryd.prog 12 #[.slice A ps.length cap, .int .i64 1] w fun e w' => e = .returned (.int .i64 (1 + 2 * ps.length)) ∧ w'.ownsRow B 52 2 (.slice A ps.length cap) ps.length (prs (mkq ps.length 1)) ∧ w.grownBy w' (Value.slice A ps.length cap).ownBlock := by
  obtain ⟨A', cap', e1, _, _, hA⟩ := own_ps h
  obtain ⟨rfl, -, rfl⟩ : A = A' ∧ True ∧ cap = cap' := by simpa using e1
  rcases hA with rfl | ⟨g, rfl, _, _⟩
  · rcases h.2 with ⟨e2, h0⟩ | ⟨g, c, cur, e2, _⟩
    · have h00 : ps = [] := List.length_eq_zero_iff.1 h0
      subst h00
      obtain rfl : cap = 0 := by simpa using e2
      refine (c_markPlaceS_nil _).mono ?_
      rintro e w' ⟨rfl, rfl⟩
      exact ⟨ret_int (by simp), own_ps_nil _ _ _, grown_refl _ _⟩
    · simp at e2
  · exact c_markPlaceS B g cap ps w h hn

theorem map_ne {α β : Type} {f : α → β} {l : List α} (h : 0 < l.length) : l.map f ≠ [] := by
  cases l with
  | nil => simp at h
  | cons a r => simp
theorem joinL_eq (l : List (List UInt8)) : Lib.join l [32] = joinL 32 l := by
  induction l with
  | nil => rfl
  | cons x r ih =>
    cases r with
    | nil => rw [Lib.join_one]; rfl
    | cons y q =>
      rw [joinL, ← ih, Lib.join_cons, Lib.join_cons]
      simp [Lib.joinTail]
theorem fiT_join {ps : List Pr} (h : 0 < ps.length) (hp : plOk ps) : (fiT ps).data.toList = joinL 32 ((ps.map ptT).map (·.data.toList)) := by
  have e1 : jq (ps.map ptT) ps.length = joinL 32 ((ps.map ptT).map (·.data.toList)) := by
    have := jq_join (ps.map ptT) ps.length (by simp)
    rw [this, joinL_eq, List.take_of_length_le (by simp)]
  have hz : ¬ (str (jq (ps.map ptT) ps.length)).size = 0 := by
    rw [str_size, e1]
    intro h0
    have h1 : joinL 32 ((ps.map ptT).map (·.data.toList)) = [] := List.length_eq_zero_iff.1 h0
    cases ps with
    | nil => simp at h
    | cons p r =>
      have h2 : (58 : UInt8) ∈ joinL 32 (((p :: r).map ptT).map (·.data.toList)) := by
        have h3 : (58 : UInt8) ∈ (ptT p).data.toList := by simp [ptT]
        cases r with
        | nil => simpa [joinL] using h3
        | cons q t => simp only [List.map_cons, joinL]; exact List.mem_append_left _ h3
      rw [h1] at h2
      simp at h2
  rw [fiT, dashI, if_neg hz, str_list, e1]
theorem pt_no {p : Pr} : ∀ x ∈ (ptT p).data.toList, x ≠ (32 : UInt8) := by
  intro x hx
  have : (⟨#[58]⟩ : ByteArray).data.toList = [58] := rfl
  simp only [ptT, ByteArray.data_append, Array.toList_append, List.mem_append, str_list, this] at hx
  rcases hx with (hx | hx) | hx
  · exact dec_no32 p.1 x (by rw [str_list]; exact hx)
  · simp at hx; subst hx; decide
  · exact dec_no32 p.2 x (by rw [str_list]; exact hx)
theorem pts_no (ps : List Pr) : ∀ f ∈ ps.map ptT, ∀ x ∈ f.data.toList, x ≠ (32 : UInt8) := by
  intro f hf
  obtain ⟨p, _, rfl⟩ := List.mem_map.1 hf
  exact pt_no
/-- the fields of the text, if the text is a row of places and no dash -/
def PIl (T : ByteArray) (l : List ByteArray) : Prop := ∀ ps, 0 < ps.length → plOk ps → fiT ps = T → l = ps.map ptT
theorem pil_cut {T : ByteArray} {l : List ByteArray} (h : CutAs 32 41 T l) : PIl T l := fun ps h0 hp hT =>
  h (ps.map ptT) (map_ne h0) (by have := hp.1; simp; omega) (pts_no ps) (by rw [← hT]; exact fiT_join h0 hp)
theorem pil_cutL {T : ByteArray} {l : List ByteArray} (h : l.map (·.data.toList) = cutL 32 T.data.toList) : PIl T l := fun ps h0 hp hT => by
  refine bytes_back ?_
  rw [h, ← hT, fiT_join h0 hp]
  refine cutL_join 32 _ (map_ne (by simpa using h0)) ?_
  intro g hg x hx
  obtain ⟨y, hy, rfl⟩ := List.mem_map.1 hg
  exact pts_no ps y hy x hx

theorem dec_no58 (n : Int) : ∀ x ∈ dec n, x ≠ (58 : UInt8) := by
  intro x hx e
  have := (dig_dec _ x hx).2
  subst e
  exact absurd this (by decide)
theorem ptT_list (p : Pr) : (ptT p).data.toList = dec p.1 ++ 58 :: dec p.2 := by
  have : (⟨#[58]⟩ : ByteArray).data.toList = [58] := rfl
  simp [ptT, str_list, this]
theorem cut_pt (p : Pr) : Lib.cut (ptT p).data.toList [58] = (dec p.1, dec p.2, true) := by
  have hi := index_hit 58 (dec p.2) (dec p.1) (dec_no58 p.1)
  rw [ptT_list, Lib.cut, hi, if_pos (by omega), Int.toNat_natCast]
  have e1 : List.take (dec p.1).length (dec p.1 ++ 58 :: dec p.2) = dec p.1 := by simp
  have e2 : List.drop ((dec p.1).length + [(58 : UInt8)].length) (dec p.1 ++ 58 :: dec p.2) = dec p.2 := by
    rw [List.length_singleton, List.drop_append, List.drop_of_length_le (by omega)]
    simp
  rw [e1, e2]
theorem cut_sz (s : List UInt8) : (Lib.cut s [58]).1.length ≤ s.length ∧ (Lib.cut s [58]).2.1.length ≤ s.length := by
  unfold Lib.cut
  split
  · simp; omega
  · simp
/-- a pair read from a field -/
def PtOf (x : ByteArray) (q : Pr) : Prop := (∀ p : Pr, (0 ≤ p.1 ∧ p.1 ≤ 1000000) → (0 ≤ p.2 ∧ p.2 ≤ 1000000) → x = ptT p → q = p) ∧ (x.size = 0 → q = (0, 0))
/-- the pairs read so far -/
def PtsOf (l : List ByteArray) (q : List Pr) : Prop := q.length ≤ l.length ∧ ∀ i p, q[i]? = some p → PtOf (l.getD i ⟨#[]⟩) p
theorem PtsOf.snoc {l : List ByteArray} {q : List Pr} (h : PtsOf l q) (hl : q.length < l.length) (p : Pr) (hp : PtOf l[q.length] p) : PtsOf l (q ++ [p]) := by
  refine ⟨by simp; omega, fun i u hu => ?_⟩
  by_cases hi : i < q.length
  · rw [List.getElem?_append_left hi] at hu
    exact h.2 i u hu
  · rw [List.getElem?_append_right (by omega)] at hu
    have : i = q.length := by
      have := (List.getElem?_eq_some_iff.1 hu).1
      simp at this; omega
    subst this
    simp at hu
    subst hu
    rw [List.getD_eq_getElem?_getD, List.getElem?_eq_getElem hl]
    exact hp
theorem stepOk_bd {ps : List Pr} (h : plOk ps) (i : Nat) (p : Pr) (hi : ps[i]? = some p) : (0 ≤ p.1 ∧ p.1 ≤ 1000000) ∧ (0 ≤ p.2 ∧ p.2 ≤ 1000000) := by
  have hlt := (List.getElem?_eq_some_iff.1 hi).1
  obtain ⟨h1, h2, _⟩ := h.2 i hlt
  rw [List.getD_eq_getElem?_getD, hi] at h1 h2
  simp at h1 h2
  omega
theorem pts_one {l : List ByteArray} {q ps : List Pr} (hl : l = ps.map ptT) (hp : plOk ps) (h : PtsOf l q) (hq : q.length = l.length) : q = ps := by
  have hlen : ps.length = q.length := by rw [hq, hl]; simp
  apply List.ext_getElem (by omega)
  intro i h1 h2
  have h3 := h.2 i q[i] (List.getElem?_eq_getElem h1)
  have hb := stepOk_bd hp i ps[i] (List.getElem?_eq_getElem h2)
  refine h3.1 ps[i] hb.1 hb.2 ?_
  rw [hl, List.getD_eq_getElem?_getD, List.getElem?_map, List.getElem?_eq_getElem h2]
  rfl
/-- what ParseIndex returns -/
def PIx (T : ByteArray) (ps : List Pr) (b : Bool) : Prop := (b = true ∧ plOk ps ∧ fiT ps = T) ∨ (b = false ∧ ps = [] ∧ ∀ q, plOk q → fiT q = T → False)
theorem pl_nil : plOk [] := ⟨by simp, fun i h => by simp at h⟩
theorem fiT_nil : fiT [] = str [45] := rfl
theorem fi_dash {ps : List Pr} (hp : plOk ps) (h : fiT ps = str [45]) : ps = [] := by
  cases ps with
  | nil => rfl
  | cons p r =>
    have e := fiT_join (by simp) hp
    rw [h, str_list] at e
    have h2 : (58 : UInt8) ∈ joinL 32 (((p :: r).map ptT).map (·.data.toList)) := by
      have h3 : (58 : UInt8) ∈ (ptT p).data.toList := by simp [ptT]
      cases r with
      | nil => simpa [joinL] using h3
      | cons q t => simp only [List.map_cons, joinL]; exact List.mem_append_left _ h3
    rw [← e] at h2
    simp at h2
theorem pix_dash : PIx (str [45]) [] true := .inl ⟨rfl, pl_nil, fiT_nil⟩
theorem pix_one {T : ByteArray} {ps qs : List Pr} {b c : Bool} (h : PIx T ps b) (h2 : PIx T qs c) : ps = qs ∧ b = c := by
  rcases h with ⟨rfl, hp, hT⟩ | ⟨rfl, rfl, hn⟩
  · rcases h2 with ⟨rfl, hp2, hT2⟩ | ⟨rfl, rfl, hn2⟩
    · refine ⟨?_, rfl⟩
      by_cases hd : T = str [45]
      · subst hd
        rw [fi_dash hp hT, fi_dash hp2 hT2]
      · have h0 : 0 < ps.length := by
          cases ps with
          | nil => exact absurd (hT.symm.trans fiT_nil) hd
          | cons a r => simp
        have h1 : 0 < qs.length := by
          cases qs with
          | nil => exact absurd (hT2.symm.trans fiT_nil) hd
          | cons a r => simp
        have e1 := fiT_join h0 hp
        have e2 := fiT_join h1 hp2
        rw [hT, ← hT2, e2] at e1
        have c1 := cutL_join 32 ((ps.map ptT).map (·.data.toList)) (map_ne (by simpa using h0)) (by intro g hg x hx; obtain ⟨y, hy, rfl⟩ := List.mem_map.1 hg; exact pts_no ps y hy x hx)
        have c2 := cutL_join 32 ((qs.map ptT).map (·.data.toList)) (map_ne (by simpa using h1)) (by intro g hg x hx; obtain ⟨y, hy, rfl⟩ := List.mem_map.1 hg; exact pts_no qs y hy x hx)
        rw [← e1, c2] at c1
        have c3 := bytes_back c1
        have inj : ∀ (a b : List Pr), (∀ p ∈ a, (0 ≤ p.1 ∧ 0 ≤ p.2)) → (∀ p ∈ b, (0 ≤ p.1 ∧ 0 ≤ p.2)) → a.map ptT = b.map ptT → a = b := by
          intro a
          induction a with
          | nil => intro b _ _ e; cases b with
            | nil => rfl
            | cons x y => simp at e
          | cons x a ih => intro b ha hb e; cases b with
            | nil => simp at e
            | cons y b =>
              simp only [List.map_cons, List.cons.injEq] at e
              have k1 := cut_pt x
              rw [e.1, cut_pt y] at k1
              simp only [Prod.mk.injEq, and_true] at k1
              have hx := ha x (by simp)
              have hy := hb y (by simp)
              have v1 := congrArg valL k1.1
              have v2 := congrArg valL k1.2
              unfold dec at v1 v2
              rw [val_dec, val_dec] at v1 v2
              have : x = y := Prod.ext (by omega) (by omega)
              rw [this, ih b (fun p hp => ha p (by simp [hp])) (fun p hp => hb p (by simp [hp])) e.2]
        have nn : ∀ {l : List Pr}, plOk l → ∀ p ∈ l, (0 ≤ p.1 ∧ 0 ≤ p.2) := fun hl p hp => by
          obtain ⟨i, hi⟩ := List.mem_iff_getElem?.1 hp
          have := stepOk_bd hl i p hi
          omega
        exact (inj qs ps (nn hp2) (nn hp) c3).symm
    · exact (hn2 ps hp hT).elim
  · rcases h2 with ⟨rfl, hp2, hT2⟩ | ⟨rfl, rfl, _⟩
    · exact (hn qs hp2 hT2).elim
    · exact ⟨rfl, rfl⟩
theorem pix_ex (T : ByteArray) : ∃ ps b, PIx T ps b ∧ ps.length ≤ 40 := by
  by_cases h : ∃ q, plOk q ∧ fiT q = T
  · obtain ⟨q, hq, hT⟩ := h
    exact ⟨q, true, .inl ⟨rfl, hq, hT⟩, hq.1⟩
  · exact ⟨[], false, .inr ⟨rfl, rfl, fun q hq hT => h ⟨q, hq, hT⟩⟩, by simp⟩
/-- behind the loop: the text of what was read is the text given, or not -/
theorem pl_zero : plOk [(0, 0)] := ⟨by simp, fun i h => by
  have : i = 0 := by simp at h; exact h
  subst this
  simp [stepOk]⟩
theorem fi_zero : ¬ fiT [(0, 0)] = ByteArray.empty := fun e => by
  have := fiT_join (ps := [(0, 0)]) (by simp) pl_zero
  rw [e] at this
  have h2 : (58 : UInt8) ∈ joinL 32 (([(0, 0)].map ptT).map (·.data.toList)) := by simp [joinL, ptT]
  rw [← this] at h2
  simp at h2
theorem pix_yes {T : ByteArray} {l : List ByteArray} {q : List Pr} (hemp : T = ByteArray.empty → l = [ByteArray.empty]) (hq : PtsOf l q) (hlen : q.length = min l.length 41) (he : fiV q = T) : PIx T q true := by
  have hT0 : ¬ T = ByteArray.empty := by
    intro e
    have hl := hemp e
    subst hl
    have h1 : q.length = 1 := by rw [hlen]; rfl
    match q, h1 with
    | [p], _ =>
      have h2 := (hq.2 0 p rfl).2 rfl
      subst h2
      rw [fiV, if_pos pl_zero, e] at he
      exact fi_zero he
  by_cases h : plOk q
  · exact .inl ⟨rfl, h, by rw [← he, fiV, if_pos h]⟩
  · exact absurd (by rw [← he, fiV, if_neg h]) hT0
theorem pix_no {T : ByteArray} {l : List ByteArray} {q : List Pr} (hd : ¬ T = str [45]) (h : PIl T l) (hq : PtsOf l q) (hlen : q.length = min l.length 41) (hne : ¬ fiV q = T) : PIx T [] false := by
  refine .inr ⟨rfl, rfl, fun ps hp hT => hne ?_⟩
  have h0 : 0 < ps.length := by
    cases ps with
    | nil => exact absurd (hT.symm.trans fiT_nil) hd
    | cons a r => simp
  have hl := h ps h0 hp hT
  have hll : l.length ≤ 40 := by rw [hl]; simp; exact hp.1
  have e := pts_one hl hp hq (by omega)
  rw [e, fiV, if_pos hp]
  exact hT
theorem index_byte_hit (c : UInt8) (r : List UInt8) : ∀ (p : List UInt8), (∀ x ∈ p, x ≠ c) → Lib.indexByte (p ++ c :: r) c = p.length
  | [], _ => by simp [Lib.indexByte]
  | b :: p, h => by
    have hb : ¬ b = c := h b (by simp)
    have ih := index_byte_hit c r p (fun x hx => h x (by simp [hx]))
    rw [List.cons_append, Lib.indexByte, if_neg (by simp [hb]), ih, if_neg (by simp)]
    simp
/-- a field without a colon -/
theorem pix_colon {T : ByteArray} {l : List ByteArray} (hd : ¬ T = str [45]) (h : PIl T l) (i : Nat) (hi : i < l.length) (hc : Lib.indexByte l[i].data.toList 58 < 0) : PIx T [] false := by
  refine .inr ⟨rfl, rfl, fun ps hp hT => ?_⟩
  have h0 : 0 < ps.length := by
    cases ps with
    | nil => exact absurd (hT.symm.trans fiT_nil) hd
    | cons a r => simp
  have hl := h ps h0 hp hT
  subst hl
  rw [List.getElem_map, ptT_list] at hc
  rw [index_byte_hit _ _ _ (dec_no58 _)] at hc
  omega
end Go.Proofs.YtcliagnongbkmaaDoor
