/- FormatIndex in both programs, and its law's walk. The library writes numbers by its table. -/
import Derived.Test.YtcliagnongbkmaaDoorIa
import Derived.Test.YtcliagnongbkmaaDoorYi
import Derived.Test.YtcliagnongbkmaaDoorYn
import Derived.Test.YtcliagnongbkmaaDoorGo
namespace Go.Proofs.YtcliagnongbkmaaDoor
open Go.ChangeShapes Go.WideShapes Go.ChangeAt Go.RowKit Go.Joins
set_option linter.unusedVariables false
set_option linter.unusedSimpArgs false

theorem own_psI {w : World} {B : Nat} {e : TypeId} {A : Option Addr} {n cap : Nat} {l : List Pr} (h : w.ownsRow B e 2 (.slice A n cap) n (prs l)) : PsAt w w.heap.size A cap l := by
  obtain ⟨A', cap', e1, h2, _, _⟩ := own_ps h
  obtain ⟨rfl, -, rfl⟩ : A = A' ∧ n = l.length ∧ cap = cap' := by simpa using e1
  exact h2
/-- the text of a place -/
def ptT (p : Pr) : ByteArray := str (dec p.1) ++ ⟨#[58]⟩ ++ str (dec p.2)
/-- the texts of the first k, parted by blanks -/
def jq (q : List ByteArray) : Nat → List UInt8
  | 0 => []
  | k + 1 => (jq q k ++ (if 0 < k then [32] else [])) ++ (q.getD k ByteArray.empty).data.toList
theorem jq_join (q : List ByteArray) : ∀ k, k ≤ q.length → jq q k = Lib.join ((q.take k).map (·.data.toList)) [32] := by
  intro k hk
  rw [List.map_take]
  cases q with
  | nil => simp at hk; subst hk; rfl
  | cons a r =>
    induction k with
    | zero => rfl
    | succ k ih =>
      have ih := ih (by omega)
      rw [jq, ih]
      simp only [List.map_cons]
      cases k with
      | zero => simp [Lib.join_one, Lib.join_nil, List.take]
      | succ j =>
        have hj : j < r.length := by simp at hk; omega
        rw [List.take_succ_cons, List.take_succ_cons, Lib.join_cons, Lib.join_cons, Lib.joinTail_take_succ [32] (r.map (·.data.toList)) j (r[j].data.toList) (by simp [hj])]
        simp [hj]
def fiT (ps : List Pr) : ByteArray := dashI (str (jq (ps.map ptT) ps.length))
noncomputable def fiV (ps : List Pr) : ByteArray := if plOk ps then fiT ps else ByteArray.empty
theorem ptT_size {p : Pr} (h1 : 0 ≤ p.1 ∧ p.1 ≤ 4000) (h2 : 0 ≤ p.2 ∧ p.2 ≤ 2000) : (ptT p).size ≤ 21 := by
  have a := dec_len p.1 h1.1 (by omega)
  have b := dec_len p.2 h2.1 (by omega)
  unfold ptT
  rw [ByteArray.size_append, ByteArray.size_append, str_size, str_size]
  show _ + 1 + _ ≤ 21
  omega
theorem jq_len (q : List ByteArray) (h : ∀ s ∈ q, s.size ≤ 21) : ∀ k, k ≤ q.length → (jq q k).length ≤ 22 * k := by
  intro k hk
  induction k with
  | zero => simp [jq]
  | succ k ih =>
    have ih := ih (by omega)
    have h1 : (q.getD k ByteArray.empty).data.toList.length ≤ 21 := by
      rw [List.getD_eq_getElem?_getD, List.getElem?_eq_getElem (show k < q.length by omega)]
      exact h _ (List.getElem_mem _)
    rw [jq, List.length_append, List.length_append]
    split <;> simp only [List.length_cons, List.length_nil] <;> omega
theorem pts_size {ps : List Pr} (h : plOk ps) : ∀ s ∈ ps.map ptT, s.size ≤ 21 := by
  intro s hs
  obtain ⟨p, hp, rfl⟩ := List.mem_map.1 hs
  obtain ⟨i, hi, rfl⟩ := List.getElem_of_mem hp
  have h1 := h.2 i hi
  rw [stepOk, getD_at i hi] at h1
  exact ptT_size h1.1 h1.2.1

set_option maxHeartbeats 8000000 in
set_option maxRecDepth 100000 in
theorem c_sFormatIndex (A : Option Addr) (cap : Nat) (ps : List Pr) (L : Nat) (w : World) (h : PsAt w L A cap ps) (hB : PlB ps) (hL : L ≤ w.heap.size) (hn : ps.length ≤ 1048576) : Calls Tryd.prog 30 #[.slice A ps.length cap] w fun e w' => e = .returned (.string (fiV ps)) ∧ Below w.heap.size w w' := by
  have HV := hid (c_l5Index A cap ps L w h hB hL hn)
  by_cases hok : plOk ps
  · rw [decide_eq_true hok] at HV
    have hr : fiV ps = fiT ps := by unfold fiV; rw [if_pos hok]
    rw [hr]
    have hn40 := hok.1
    have HPO := hid (fun i (hi : i < ps.length) => (show (0 ≤ ps[i].1 ∧ ps[i].1 ≤ 4000) ∧ (0 ≤ ps[i].2 ∧ ps[i].2 ≤ 2000) from by have h1 := hok.2 i hi; rw [stepOk, getD_at i hi] at h1; exact ⟨h1.1, h1.2.1⟩))
    have HJL := hid (jq_len (ps.map ptT) (pts_size hok))
    obtain ⟨J, hJ⟩ : ∃ J, J = str (jq (ps.map ptT) ps.length) := ⟨_, rfl⟩
    have HJ := hid hJ
    rw [show fiT ps = dashI J by rw [fiT, ← hJ]]
    have HD := hid (fun v => c_l3SomeI J v)
    obtain ⟨N, hN⟩ : ∃ N, N = ps.length := ⟨_, rfl⟩
    have HN := hid hN
    have HH := hid h
    rw [← hN] at HV hn40 ⊢
    clear hok hr hJ hN h hB hn
    go_enter Tryd.func30, Tryd.ntmps30
    go_wp2_with fail
    refine (HV.out).mono ?_
    rintro e w1 ⟨rfl, hb1⟩
    have hz1 := hb1.size
    go_wp2_with fail
    go_loopw [3, 4] (fun t i wr => ∃ (k : Nat) (T : ByteArray), k ≤ N ∧ i = .int .i64 k ∧ t = .string T ∧ Hid (T = str (jq (ps.map ptT) k)) ∧ T.size ≤ 22 * k ∧ Below w1.heap.size w1 wr) (fun _ i _ => N - (intOf i).toNat)
    case atStart => exact ⟨0, ByteArray.empty, Nat.zero_le _, rfl, rfl, hid rfl, by simp, Below.refl _ _⟩
    case round =>
      obtain ⟨k, T, hk, rfl, rfl, HT, hTz, hbl⟩ := hrel
      rename_i wr _
      have hB0 := hb1.trans (hbl.mono hz1)
      by_cases hlt : k < N
      · have hlt2 : k < ps.length := by have := HN.out; omega
        obtain ⟨b, off, rfl, hb, hc0, hc1⟩ := plc_at (HH.out.below hB0 hL) k hlt2
        have hpo := HPO.out k hlt2
        obtain ⟨p, hp⟩ : ∃ p, p = ps[k] := ⟨_, rfl⟩
        rw [← hp] at hc0 hc1 hpo
        have hgd : (ps.map ptT).getD k ByteArray.empty = ptT p := by rw [List.getD_eq_getElem?_getD, List.getElem?_map, List.getElem?_eq_getElem hlt2, ← hp]; rfl
        obtain ⟨p1, p2⟩ := p
        simp only at hc0 hc1 hpo
        have H1 := hid (fun v => c_l9Dec p1 v (by omega) (by omega))
        have H2 := hid (fun v => c_l9Dec p2 v (by omega) (by omega))
        have zA0 := (dec_len p1 hpo.1.1 (by omega)).2
        have zB0 := (dec_len p2 hpo.2.1 (by omega)).2
        obtain ⟨A1, hA1⟩ : ∃ A1, A1 = str (dec p1) := ⟨_, rfl⟩
        obtain ⟨B1, hB1⟩ : ∃ B1, B1 = str (dec p2) := ⟨_, rfl⟩
        rw [← hA1] at H1
        rw [← hB1] at H2
        have zA : A1.size ≤ 10 := by rw [hA1, str_size]; exact zA0
        have zB : B1.size ≤ 10 := by rw [hB1, str_size]; exact zB0
        have hkN : (k : Int) < (N : Int) := by omega
        have hpt : ptT (p1, p2) = A1 ++ ⟨#[58]⟩ ++ B1 := by unfold ptT; rw [← hA1, ← hB1]
        have HQ := hid (show jq (ps.map ptT) (k + 1) = (jq (ps.map ptT) k ++ (if 0 < k then [32] else [])) ++ (A1 ++ ⟨#[58]⟩ ++ B1).data.toList by rw [jq, hgd, hpt])
        have hS : wr.cell? ⟨b, off + k * 2, none⟩ = some (.int .i64 p1) ∧ wr.cell? ⟨b, off + k * 2 + 1, none⟩ = some (.int .i64 p2) ∧ Below wr.heap.size wr wr := ⟨hc0, hc1, Below.refl _ _⟩
        clear hp hgd hpt hA1 hB1 zA0 zB0 hc0 hc1 hpo
        have e1 : (⟨#[58]⟩ : ByteArray).size = 1 := rfl
        by_cases hk0 : k = 0
        · subst hk0
          have HE := hid (show T ++ A1 ++ ⟨#[58]⟩ ++ B1 = str (jq (ps.map ptT) (0 + 1)) by
            rw [HQ.out, if_neg (by omega), HT.out, List.append_nil, ← str_append, str_self]
            simp only [ByteArray.append_assoc])
          have hsz : (T ++ A1 ++ ⟨#[58]⟩ ++ B1).size ≤ 22 * (0 + 1) := by rw [HE.out, str_size]; have := HJL.out 1 (by simp; omega); omega
          have hT0 : T.size = 0 := by omega
          have a0 : ∀ W, (Op.stringOp .add T A1).run Tryd.prog W = .ok (.string (T ++ A1)) W := fun W => run_string_add W _ _ (by omega) (by omega)
          have a1 : ∀ W, (Op.stringOp .add (T ++ A1) ⟨#[58]⟩).run Tryd.prog W = .ok (.string (T ++ A1 ++ ⟨#[58]⟩)) W := fun W => run_string_add W _ _ (by rw [ByteArray.size_append]; omega) (by omega)
          have a2 : ∀ W, (Op.stringOp .add (T ++ A1 ++ ⟨#[58]⟩) B1).run Tryd.prog W = .ok (.string (T ++ A1 ++ ⟨#[58]⟩ ++ B1)) W := fun W => run_string_add W _ _ (by rw [ByteArray.size_append, ByteArray.size_append]; omega) (by omega)
          simp only [Nat.zero_mul, Nat.add_zero] at hS
          have hg0 : decide ((0 : Int) < 0) = false := by decide
          clear HT HQ
          go_wp2_with fail
          refine qB (S := (fun v => v.cell? ⟨b, off, none⟩ = some (.int .i64 p1) ∧ v.cell? ⟨b, off + 1, none⟩ = some (.int .i64 p2) ∧ Below wr.heap.size wr v)) (by kernel_rfl) (by kernel_rfl) (s2_drew hS) ?_
          refine qK ?_
          refine qK ?_
          refine qK ?_
          refine qK ?_
          refine qK ?_
          refine qK ?_
          refine qC (fun wq hSq => H1.out wq) (fun wq wr hbr hSq => s2_bel hbr hSq) ?_
          refine qK ?_
          refine qK ?_
          refine qK ?_
          refine qK ?_
          refine qK ?_
          refine qK ?_
          refine qK ?_
          refine qC (fun wq hSq => H2.out wq) (fun wq wr hbr hSq => s2_bel hbr hSq) ?_
          refine qK ?_
          refine qK ?_
          refine qN ?_
          intro wq hSq
          (try dsimp only at hSq)
          have hbq := hbl.trans (hSq.2.2.mono hbl.size)
          clear hSq hS
          go_wp2_with fail
          go_roundw
          case rel => exact ⟨0 + 1, _, by omega, by go_num, rfl, HE, hsz, hbq⟩
          case measure => simp [intOf]; omega
        · obtain ⟨T2, hT2⟩ : ∃ T2, T2 = T ++ ⟨#[32]⟩ := ⟨_, rfl⟩
          have zT2 : T2.size ≤ 22 * k + 1 := by rw [hT2, ByteArray.size_append]; show T.size + 1 ≤ _; omega
          have HE := hid (show T2 ++ A1 ++ ⟨#[58]⟩ ++ B1 = str (jq (ps.map ptT) (k + 1)) by
            rw [HQ.out, if_pos (by omega), ← str_append, ← str_append, ← HT.out, str_self, hT2]
            simp only [ByteArray.append_assoc]
            rfl)
          have hsz : (T2 ++ A1 ++ ⟨#[58]⟩ ++ B1).size ≤ 22 * (k + 1) := by rw [HE.out, str_size]; have := HJL.out (k + 1) (by simp; omega); omega
          have e2 : (⟨#[32]⟩ : ByteArray).size = 1 := rfl
          have a9 : ∀ W, (Op.stringOp .add T ⟨#[32]⟩).run Tryd.prog W = .ok (.string T2) W := fun W => by rw [hT2]; exact run_string_add W _ _ (by omega) (by omega)
          have a0 : ∀ W, (Op.stringOp .add T2 A1).run Tryd.prog W = .ok (.string (T2 ++ A1)) W := fun W => run_string_add W _ _ (by omega) (by omega)
          have a1 : ∀ W, (Op.stringOp .add (T2 ++ A1) ⟨#[58]⟩).run Tryd.prog W = .ok (.string (T2 ++ A1 ++ ⟨#[58]⟩)) W := fun W => run_string_add W _ _ (by rw [ByteArray.size_append]; omega) (by omega)
          have a2 : ∀ W, (Op.stringOp .add (T2 ++ A1 ++ ⟨#[58]⟩) B1).run Tryd.prog W = .ok (.string (T2 ++ A1 ++ ⟨#[58]⟩ ++ B1)) W := fun W => run_string_add W _ _ (by rw [ByteArray.size_append, ByteArray.size_append]; omega) (by omega)
          have hg0 : decide ((0 : Int) < (k : Int)) = true := decide_eq_true (by omega)
          have hkp : 0 < k := by omega
          have HT2 := hid hT2
          clear HT HQ hT2 hk0
          go_wp2_with fail
          refine qB (S := (fun v => v.cell? ⟨b, off + k * 2, none⟩ = some (.int .i64 p1) ∧ v.cell? ⟨b, off + k * 2 + 1, none⟩ = some (.int .i64 p2) ∧ Below wr.heap.size wr v)) (by kernel_rfl) (by kernel_rfl) (s2_drew hS) ?_
          refine qK ?_
          refine qK ?_
          refine qK ?_
          refine qK ?_
          refine qK ?_
          refine qK ?_
          refine qC (fun wq hSq => H1.out wq) (fun wq wr hbr hSq => s2_bel hbr hSq) ?_
          refine qK ?_
          refine qK ?_
          refine qK ?_
          refine qK ?_
          refine qK ?_
          refine qK ?_
          refine qK ?_
          refine qC (fun wq hSq => H2.out wq) (fun wq wr hbr hSq => s2_bel hbr hSq) ?_
          refine qK ?_
          refine qK ?_
          refine qN ?_
          intro wq hSq
          (try dsimp only at hSq)
          have hbq := hbl.trans (hSq.2.2.mono hbl.size)
          clear hSq hS
          go_wp2_with fail
          go_roundw
          case rel => exact ⟨k + 1, _, by omega, by go_num, rfl, HE, hsz, hbq⟩
          case measure => simp [intOf]; omega
      · have hkN : k = N := by omega
        have HE := hid (show T = J by rw [HT.out, HJ.out, hkN, HN.out])
        rw [HE.out]
        go_wp2_with fail
        refine (HD.out _).mono ?_
        rintro e w9 ⟨rfl, rfl⟩
        go_wp2_with fail
        go_ret
        exact ⟨rfl, hB0⟩
  · rw [decide_eq_false hok] at HV
    have hr : fiV ps = ByteArray.empty := by unfold fiV; rw [if_neg hok]
    rw [hr]
    clear hr hok h hB
    go_enter Tryd.func30, Tryd.ntmps30
    go_wp2_with fail
    refine (HV.out).mono ?_
    rintro e w1 ⟨rfl, hb1⟩
    go_wp2_with fail
    go_ret
    exact ⟨rfl, hb1⟩

set_option maxHeartbeats 8000000 in
set_option maxRecDepth 100000 in
theorem c_FormatIndex (A : Option Addr) (cap : Nat) (ps : List Pr) (L : Nat) (w : World) (h : PsAt w L A cap ps) (hB : PlB ps) (hL : L ≤ w.heap.size) (hn : ps.length ≤ 1048576) (hTab : Tab w) : Calls Tryd.prog 32 #[.slice A ps.length cap] w fun e w' => e = .returned (.string (fiV ps)) ∧ Below w.heap.size w w' := by
  have HV := hid (c_placesValid A cap ps L w h hB hL hn)
  by_cases hok : plOk ps
  · rw [decide_eq_true hok] at HV
    have hr : fiV ps = fiT ps := by unfold fiV; rw [if_pos hok]
    rw [hr]
    have hn40 := hok.1
    have HPO := hid (fun i (hi : i < ps.length) => (show (0 ≤ ps[i].1 ∧ ps[i].1 ≤ 4000) ∧ (0 ≤ ps[i].2 ∧ ps[i].2 ≤ 2000) from by have h1 := hok.2 i hi; rw [stepOk, getD_at i hi] at h1; exact ⟨h1.1, h1.2.1⟩))
    have HT := hid (fun (v : World) (hb : Below w.heap.size w v) => hTab.on hb)
    have hjl := jq_len (ps.map ptT) (pts_size hok) ps.length (by simp)
    have hjj := jq_join (ps.map ptT) ps.length (by simp)
    rw [List.take_of_length_le (by simp)] at hjj
    rw [hjj] at hjl
    obtain ⟨J, hJ⟩ : ∃ J, J = str (jq (ps.map ptT) ps.length) := ⟨_, rfl⟩
    rw [show fiT ps = dashI J by rw [fiT, ← hJ]]
    have HJ := hid (show J = ⟨(Lib.join ((ps.map ptT).map (·.data.toList)) [32]).toArray⟩ by rw [hJ, hjj]; rfl)
    have HJL := hid (show (Lib.join ((ps.map ptT).map (·.data.toList)) [32]).length ≤ 140737488355328 by omega)
    have HD := hid (fun v => c_dashIfEmptyI J v)
    obtain ⟨N, hN⟩ : ∃ N, N = ps.length := ⟨_, rfl⟩
    have HN := hid hN
    have HH := hid h
    rw [← hN] at HV hn40 ⊢
    clear hok hr hJ hN h hB hn hjl hjj hTab
    go_enter Tryd.func32, Tryd.ntmps32
    go_wp2_with fail
    refine (HV.out).mono ?_
    rintro e w1 ⟨rfl, hb1⟩
    have hz1 := hb1.size
    go_wp2_with (at_make; refine make_strs rfl _ _ 33 rfl w.heap.size 9 Tryd.underlying33 Tryd.info_txt .i64 .i64 _ _ N rfl rfl (by omega) (by omega) (by omega) hz1 ?_; intro w2 hown2 hb2 hg2)
    have hB2 := hb1.trans hb2
    obtain ⟨G, hG⟩ : ∃ G, G = w1.heap.size := ⟨_, rfl⟩
    rw [← hG] at hown2 ⊢
    clear hG hb2 hg2
    go_loopw [14] (fun i wr => ∃ k : Nat, k ≤ N ∧ i = .int .i64 k ∧ wr.ownsRow w.heap.size 9 1 (.slice (some ⟨G, 0, none⟩) N N) N ((((ps.map ptT).take k) ++ List.replicate (N - k) ByteArray.empty).map sv) ∧ Below w.heap.size w wr) (fun i _ => N - (intOf i).toNat)
    case atStart => exact ⟨0, Nat.zero_le _, rfl, by simpa using hown2, hB2⟩
    case round =>
      obtain ⟨k, hk, rfl, hown, hbl⟩ := hrel
      rename_i wr _
      have hzr := hbl.size
      by_cases hlt : k < N
      · have hlt2 : k < ps.length := by have := HN.out; omega
        have hlt3 : k < (ps.map ptT).length := by simp; exact hlt2
        obtain ⟨b, off, rfl, hb, hc0, hc1⟩ := plc_at (HH.out.below hbl hL) k hlt2
        have hpo := HPO.out k hlt2
        have HP2 := hid (show (ps.map ptT)[k] = ptT ps[k] by simp)
        obtain ⟨p, hp⟩ : ∃ p, p = ps[k] := ⟨_, rfl⟩
        rw [← hp] at hc0 hc1 hpo HP2
        obtain ⟨p1, p2⟩ := p
        simp only at hc0 hc1 hpo
        have H1 := hid (fun v (hb : Below w.heap.size w v) => c_itoaT p1 v (by omega) (by omega) (HT.out v hb))
        have H2 := hid (fun v (hb : Below w.heap.size w v) => c_itoaT p2 v (by omega) (by omega) (HT.out v hb))
        have zA0 := (dec_len p1 hpo.1.1 (by omega)).2
        have zB0 := (dec_len p2 hpo.2.1 (by omega)).2
        obtain ⟨A1, hA1⟩ : ∃ A1, A1 = str (dec p1) := ⟨_, rfl⟩
        obtain ⟨B1, hB1⟩ : ∃ B1, B1 = str (dec p2) := ⟨_, rfl⟩
        rw [← hA1] at H1
        rw [← hB1] at H2
        have zA : A1.size ≤ 10 := by rw [hA1, str_size]; exact zA0
        have zB : B1.size ≤ 10 := by rw [hB1, str_size]; exact zB0
        have hpt : ptT (p1, p2) = A1 ++ ⟨#[58]⟩ ++ B1 := by unfold ptT; rw [← hA1, ← hB1]
        have HS := hid (show ((ps.map ptT).take k ++ List.replicate (N - k) ByteArray.empty).set k (A1 ++ ⟨#[58]⟩ ++ B1) = (ps.map ptT).take (k + 1) ++ List.replicate (N - (k + 1)) ByteArray.empty by
          rw [set_done _ ((ps.map ptT).take k) ByteArray.empty N k _ rfl (by simp; omega) hlt, ← hpt, ← HP2.out, List.take_succ_eq_append_getElem hlt3])
        have HE0 := hid (show ((ps.map ptT).take k ++ List.replicate (N - k) ByteArray.empty)[k]? = some ByteArray.empty by
          rw [List.getElem?_append_right (by simp; omega), List.getElem?_replicate, if_pos (by simp; omega)])
        have hkN : (k : Int) < (N : Int) := by omega
        have e1 : (⟨#[58]⟩ : ByteArray).size = 1 := rfl
        have a1 : ∀ W, (Op.stringOp .add A1 ⟨#[58]⟩).run Tryd.prog W = .ok (.string (A1 ++ ⟨#[58]⟩)) W := fun W => run_string_add W _ _ (by omega) (by omega)
        have a2 : ∀ W, (Op.stringOp .add (A1 ++ ⟨#[58]⟩) B1).run Tryd.prog W = .ok (.string (A1 ++ ⟨#[58]⟩ ++ B1)) W := fun W => run_string_add W _ _ (by rw [ByteArray.size_append]; omega) (by omega)
        have hRB := Blk.new wr 52 #[.int .i64 0, .int .i64 0]
        have s0 := hRB.cell 0
        have s1 := hRB.cell 1
        have g0 := hRB.frozen 0
        have g1 := hRB.frozen 1
        have hbn : Below wr.heap.size wr (wr.alloc (.cells #[.int .i64 p1, .int .i64 p2] 52)) := bel_alloc (Below.refl _ wr) _
        have HK0 := hid (Blk.new wr 52 #[.int .i64 p1, .int .i64 p2])
        have HO0 := hid (own_on hown hbn)
        have HB0 := hid (hbl.trans (hbn.mono hzr))
        obtain ⟨PB, hPB⟩ : ∃ PB, PB = wr.heap.size := ⟨_, rfl⟩
        have HPB := hid hPB
        clear hp hpt hA1 hB1 zA0 zB0 hpo hRB hown hPB
        go_wp2_with fail
        clear s0 s1 g0 g1 hc0 hc1
        obtain ⟨W0, hW0⟩ : ∃ W0, W0 = wr.alloc (.cells #[.int .i64 p1, .int .i64 p2] 52) := ⟨_, rfl⟩
        rw [← hW0] at HK0 HO0 HB0 ⊢
        rw [← HPB.out] at HK0 ⊢
        clear hW0 hbn
        have HK := hid (HK0.out.on (bel_drew (Below.refl _ W0)))
        have HO := hid (own_on HO0.out (bel_drew (Below.refl _ W0)))
        have HB := hid (HB0.out.drew)
        have hS : W0.cell? ⟨PB, 0, none⟩ = some (.int .i64 p1) ∧ W0.cell? ⟨PB, 1, none⟩ = some (.int .i64 p2) ∧ True := ⟨HK0.out.cell 0, HK0.out.cell 1, trivial⟩
        have c0 := own_txt HO.out k _ HE0.out
        have f0 := HO.out.frozenAt k
        clear HK0 HO0 HB0
        refine wp_region_noPanic ?_
        refine zb (T := (fun v => v.cell? ⟨PB, 0, none⟩ = some (.int .i64 p1) ∧ v.cell? ⟨PB, 1, none⟩ = some (.int .i64 p2) ∧ True)) 11 (by kernel_rfl) (t2_drew hS) (fun hHeld => ?_)
        refine zk 0 ?_
        refine zk 1 ?_
        refine zk 2 ?_
        refine zk 3 ?_
        refine zk 6 ?_
        refine zk 7 ?_
        refine zr (rs := [4]) ?_
        refine AllUp.cons (o := ?oz1_4) ?iz1_4 (fun K hK => ?sz1_4) AllUp.nil
        case iz1_4 => (simp only [List.getElem?_toArray, List.getElem?_cons_succ, List.getElem?_cons_zero]; rfl)
        (go_simp; (go_at_call 46; refine (H1.out _ HB.out).mono ?_; rintro e wA ⟨rfl, hbq⟩; replace HK := hid (HK.out.on hbq); replace HO := hid (own_on HO.out hbq); replace HB := hid (HB.out.trans (hbq.mono HB.out.size)); clear hbq c0 f0; have c0 := own_txt HO.out k _ HE0.out; have f0 := HO.out.frozenAt k; have twA : wA.cell? ⟨PB, 0, none⟩ = some (.int .i64 p1) ∧ wA.cell? ⟨PB, 1, none⟩ = some (.int .i64 p2) ∧ True := ⟨HK.out.cell 0, HK.out.cell 1, trivial⟩))
        refine hK.out _ _ (fun _ => ?kz1_4) (fun hHeld0 => ?_)
        case kz1_4 => (try dsimp only); (first | with_reducible assumption | exact t2_bel (by assumption) (by assumption) | assumption | exact t2_alloc (by assumption) _)
        (try clear hHeld)
        have hHeld := hHeld0 (by decide)
        clear hHeld0 hK K
        try simp only [Act.put, List.setIfInBounds_toArray, List.set_cons_zero, List.set_cons_succ]
        refine zk 5 ?_
        refine zr (rs := [8]) ?_
        refine AllUp.cons (o := ?oz1_8) ?iz1_8 (fun K hK => ?sz1_8) AllUp.nil
        case iz1_8 => (simp only [List.getElem?_toArray, List.getElem?_cons_succ, List.getElem?_cons_zero]; rfl)
        (go_simp; (go_at_call 46; refine (H2.out _ HB.out).mono ?_; rintro e wB ⟨rfl, hbq⟩; replace HK := hid (HK.out.on hbq); replace HO := hid (own_on HO.out hbq); replace HB := hid (HB.out.trans (hbq.mono HB.out.size)); clear hbq c0 f0; have c0 := own_txt HO.out k _ HE0.out; have f0 := HO.out.frozenAt k; have twB : wB.cell? ⟨PB, 0, none⟩ = some (.int .i64 p1) ∧ wB.cell? ⟨PB, 1, none⟩ = some (.int .i64 p2) ∧ True := ⟨HK.out.cell 0, HK.out.cell 1, trivial⟩))
        refine hK.out _ _ (fun _ => ?kz1_8) (fun hHeld0 => ?_)
        case kz1_8 => (try dsimp only); (first | with_reducible assumption | exact t2_bel (by assumption) (by assumption) | assumption | exact t2_alloc (by assumption) _)
        (try clear hHeld)
        have hHeld := hHeld0 (by decide)
        clear hHeld0 hK K
        try simp only [Act.put, List.setIfInBounds_toArray, List.set_cons_zero, List.set_cons_succ]
        refine zk 9 ?_
        refine zk 10 ?_
        refine zr (rs := [11]) ?_
        refine AllUp.cons (o := ?oz1_11) ?iz1_11 (fun K hK => ?sz1_11) AllUp.nil
        case iz1_11 => (simp only [List.getElem?_toArray, List.getElem?_cons_succ, List.getElem?_cons_zero]; rfl)
        (go_simp; (skip))
        refine hK.out _ _ (fun h => absurd rfl h) (fun _ => ?_)
        (try clear hHeld)
        clear hK K
        try simp only [Act.put, List.setIfInBounds_toArray, List.set_cons_zero, List.set_cons_succ]
        refine zd (by kernel_rfl) ?_ _
        refine NoPanic.normal ?_
        all_goals
          have hst := own_store_txt HO.out k (A1 ++ ⟨#[58]⟩ ++ B1)
          rw [HS.out] at hst
          have HST := hid hst
          have hB9 := hid (HB.out.trans (below_of_grown (grown_set (grown_refl _ (some G)) k (.string (A1 ++ ⟨#[58]⟩ ++ B1))) HB.out.size (fun g e => by obtain rfl := Option.some.inj e; exact (own_lt HO.out).1)))
          clear hst
          go_wp2_with fail
          go_roundw
          case rel => exact ⟨k + 1, by omega, by go_num, HST.out, hB9.out⟩
          case measure => simp [intOf]; omega
      · have hD2 : (ps.map ptT).take k ++ List.replicate (N - k) ByteArray.empty = ps.map ptT := by rw [show N - k = 0 from by omega, List.take_of_length_le (by have := HN.out; simp; omega)]; simp
        rw [hD2] at hown
        have HJ2 := hid (show Calls Tryd.prog 49 #[.slice (some ⟨G, 0, none⟩) N N, .string ⟨#[32]⟩] wr fun e w' => e = .returned (.string J) ∧ Below wr.heap.size wr w' by
          have hNN : N = (ps.map ptT).length := by simp; exact HN.out
          rw [HJ.out]
          have h9 := Tryd.strings_Join G 0 N (ps.map ptT) ⟨#[32]⟩ wr (fun j x hj => by rw [Nat.zero_add]; exact own_txt hown j x hj) (own_lt hown).2 (by omega) (by omega) HJL.out
          rw [← hNN] at h9
          exact h9)
        clear hown hD2
        go_wp2_with fail
        refine (HJ2.out).mono ?_
        rintro e w3 ⟨rfl, hb3⟩
        go_wp2_with fail
        refine (HD.out _).mono ?_
        rintro e w' ⟨rfl, rfl⟩
        go_wp2_with fail
        go_ret
        exact ⟨rfl, hbl.trans (hb3.mono hzr)⟩
  · rw [decide_eq_false hok] at HV
    have hr : fiV ps = ByteArray.empty := by unfold fiV; rw [if_neg hok]
    rw [hr]
    clear hr hok h hB
    go_enter Tryd.func32, Tryd.ntmps32
    go_wp2_with fail
    refine (HV.out).mono ?_
    rintro e w1 ⟨rfl, hb1⟩
    go_wp2_with fail
    go_ret
    exact ⟨rfl, hb1⟩
end Go.Proofs.YtcliagnongbkmaaDoor
