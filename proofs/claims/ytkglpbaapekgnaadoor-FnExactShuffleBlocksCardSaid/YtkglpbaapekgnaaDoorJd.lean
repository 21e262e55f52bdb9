/- ShuffleBlocks in the model. No condition but that the strings and slices are not too long. -/
import Derived.Test.YtkglpbaapekgnaaDoorJa
import Derived.Test.YtkglpbaapekgnaaDoorTf
import Derived.BigQuiet
namespace Go.Proofs.YtkglpbaapekgnaaDoor
open Go.ChangeShapes Go.WideShapes Go.ChangeAt Go.RowKit Go.Joins
set_option linter.unusedVariables false
set_option linter.unusedSimpArgs false

def bov (b : Bool) : Value := .bool b
/-- which of the numbers below N are among the first k of an order -/
def sl (N : Nat) (o : List Int) (k : Nat) : List Bool := (List.range N).map fun (j : Nat) => decide ((j : Int) ∈ o.take k)
theorem sl_len (N : Nat) (o : List Int) (k : Nat) : (sl N o k).length = N := by simp [sl]
theorem sl_zero (N : Nat) (o : List Int) : sl N o 0 = List.replicate N false := by
  apply List.ext_getElem
  · simp [sl]
  · intro i h1 h2
    simp [sl]
theorem sl_get (N : Nat) (o : List Int) (k m : Nat) (h : m < N) : (sl N o k)[m]? = some (decide ((m : Int) ∈ o.take k)) := by
  simp [sl, h]
theorem sl_set (N : Nat) (o : List Int) (k m : Nat) (h : m < N) (hk : k < o.length) (hm : o[k] = (m : Int)) : (sl N o k).set m true = sl N o (k + 1) := by
  apply List.ext_getElem?
  intro i
  by_cases hi : i < N
  · rw [sl_get N o (k + 1) i hi, List.take_succ_eq_append_getElem hk, hm]
    by_cases e : i = m
    · subst e
      rw [List.getElem?_set_self (by rw [sl_len]; exact h)]
      simp
    · rw [List.getElem?_set_ne (fun h => e h.symm), sl_get N o k i hi]
      have : ¬ (i : Int) = (m : Int) := by omega
      simp [this]
  · rw [List.getElem?_eq_none (by rw [List.length_set, sl_len]; omega), List.getElem?_eq_none (by rw [sl_len]; omega)]
/-- the k-th number of an order is one below N and not there before -/
def ordAt (N : Nat) (o : List Int) (k : Nat) : Prop := ∀ a, o[k]? = some a → (0 ≤ a ∧ a < (N : Int)) ∧ a ∉ o.take k
def ordOk (N : Nat) (o : List Int) : Prop := ∀ k, k < o.length → ordAt N o k

theorem made_bools (n : Nat) : (madeCells (Value.bool false).cells (n * 1)).toList = (List.replicate n false).map bov := by
  rw [Nat.mul_one]
  refine (toList_madeCells_one (.bool false) n).trans ?_
  simp [bov]
theorem make_bools {P : Program} {w : World} {ops : Array Oper} {rest : List Oper} {o : Oper} {a : Act} {Q : Exit → Act → World → Prop} (hg : o.guard = none) (l c : Operand) (t : TypeId) (hop : o.op = Op.makeSlice t l c)
    (B : Nat) (e : TypeId) (ht : P.underlying t = some (.slice e)) (hinfo : (P.info? e).map (fun i => (i.zero, i.size, i.bytes)) = some (some (.bool false), 1, 1)) (kl kc : IntKind) (L C : Int) (n : Nat)
    (hl : a.eval l = .int kl L) (hc : a.eval c = .int kc C) (hL : L = (n : Int)) (hC : C = (n : Int)) (hn : n ≤ 1000000000000) (hB : B ≤ w.heap.size)
    (hK : ∀ w', w'.ownsRow B e 1 (.slice (some ⟨w.heap.size, 0, none⟩) n n) n ((List.replicate n false).map bov) → Below B w w' → wpList P ops Q rest (a.put o.dst (.slice (some ⟨w.heap.size, 0, none⟩) n n)) w') : wpList P ops Q (o :: rest) a w := by
  obtain ⟨i0, hi, hz0, hz1, hz2⟩ := info_parts hinfo
  refine wpList_make_full w hg l c t hop B e i0 (.bool false) 1 ht hi hz0 hz1 kl kc L C n hl hc hL hC (by rw [hz2]; omega) (by unfold maxLen; omega) hB ?_
  intro w' hown hg'
  rw [made_bools] at hown
  exact hK w' hown (below_of_grown hg' hB (by simp))
theorem Tryd.info_bool : (Tryd.prog.info? 4).map (fun i => (i.zero, i.size, i.bytes)) = some (some (.bool false), 1, 1) := by kernel_rfl
theorem own_bool {w : World} {B : Nat} {e : TypeId} {G n cap : Nat} {l : List Bool} (h : w.ownsRow B e 1 (.slice (some ⟨G, 0, none⟩) n cap) n (l.map bov)) (k : Nat) (p : Bool) (hk : l[k]? = some p) : w.cell? ⟨G, k, none⟩ = some (.bool p) := by
  have hl := h.1
  have hk2 := get_lt hk
  refine (h.cellAt k (by simp at hl; omega)).trans ?_
  rw [List.getElem?_map, hk]; rfl
theorem own_store_bool {w : World} {B : Nat} {e : TypeId} {G n cap : Nat} {l : List Bool} (h : w.ownsRow B e 1 (.slice (some ⟨G, 0, none⟩) n cap) n (l.map bov)) (k : Nat) (p : Bool) :
    (w.setCell ⟨G, k, none⟩ (.bool p)).ownsRow B e 1 (.slice (some ⟨G, 0, none⟩) n cap) n ((l.set k p).map bov) := by
  have h1 := (h.stored k (.bool p)).1
  rw [List.map_set]; exact h1

set_option maxHeartbeats 4000000 in
set_option maxRecDepth 100000 in
theorem c_l7Order (A : Option Addr) (cap : Nat) (o : List Int) (L : Nat) (w : World) (h : NumsAt w L A cap o) (hL : L ≤ w.heap.size) (hn : o.length ≤ 1048576) : Calls Tryd.prog 68 #[.slice A o.length cap] w fun e w' => ∃ q : Bool, e = .returned (.bool q) ∧ (q = true ↔ ordOk o.length o) ∧ Below w.heap.size w w' := by
  obtain ⟨N, hN⟩ : ∃ N, N = o.length := ⟨_, rfl⟩
  have HN := hid hN
  have HH := hid h
  rw [← hN] at hn ⊢
  clear hN h
  go_enter Tryd.func68, Tryd.ntmps68
  go_wp2_with (at_make; refine make_bools rfl _ _ 101 rfl w.heap.size 4 Tryd.underlying101 Tryd.info_bool .i64 .i64 _ _ N rfl rfl (by omega) (by omega) (by omega) (Nat.le_refl _) ?_; intro w1 hown1 hb1)
  go_loopw [4] (fun i wr => ∃ k : Nat, k ≤ N ∧ i = .int .i64 k ∧ Hid (∀ j, j < k → ordAt N o j) ∧ wr.ownsRow w.heap.size 4 1 (.slice (some ⟨w.heap.size, 0, none⟩) N N) N ((sl N o k).map bov) ∧ Below w.heap.size w wr) (fun i _ => N - (intOf i).toNat)
  case atStart => exact ⟨0, Nat.zero_le _, rfl, hid (fun j hj => by omega), by rw [sl_zero]; exact hown1, by (repeat (first | with_reducible (first | assumption | exact Below.refl _ _ | refine bel_alloc ?_ _ | refine bel_drew ?_ | refine bel_drewN ?_ _ | refine bel_set ?_ (by first | omega | (simp; done) | (simp; omega)) _ | refine bel_trans ?_ (by assumption)) | assumption | refine bel_trans ?_ (by assumption)))⟩
  case round =>
    obtain ⟨k, hk, rfl, HO, hown, hbl⟩ := hrel
    by_cases hlt : k < N
    · have hlt2 : k < o.length := by have := HN.out; omega
      obtain ⟨b, off, rfl, hb, hc0⟩ := int_at (HH.out.below hbl hL) k hlt2
      have hb2 : ¬ b = w.heap.size := by omega
      obtain ⟨p, hp⟩ : ∃ p, p = o[k] := ⟨_, rfl⟩
      have HP := hid (show o[k]? = some p by rw [hp]; exact List.getElem?_eq_getElem hlt2)
      rw [← hp] at hc0
      have HPk := hid hp
      clear hp
      by_cases h0 : p < 0
      · have hd1 : decide (p < 0) = true := decide_eq_true h0
        have HB := hid (show ¬ ordOk N o from fun hh => by have := (hh k hlt2 p HP.out).1.1; omega)
        clear h0
        go_wp2_with fail
        go_ret
        exact ⟨false, rfl, ⟨fun h => absurd h (by simp), fun h => absurd h HB.out⟩, hbl⟩
      · have hd1 : decide (p < 0) = false := decide_eq_false h0
        by_cases h1 : p < (N : Int)
        · obtain ⟨m, rfl⟩ := Int.eq_ofNat_of_zero_le (show 0 ≤ p by omega)
          have hmN : m < N := by omega
          have hd2 : decide ((N : Int) ≤ (m : Int)) = false := decide_eq_false (by omega)
          have hd3 : decide (N ≤ m) = false := decide_eq_false (by omega)
          have q0 := own_bool hown m _ (sl_get N o k m hmN)
          by_cases h2 : (m : Int) ∈ o.take k
          · rw [decide_eq_true h2] at q0
            have HB := hid (show ¬ ordOk N o from fun hh => (hh k hlt2 _ HP.out).2 h2)
            clear h2 h0 h1
            go_wp2_with fail
            go_ret
            exact ⟨false, rfl, ⟨fun h => absurd h (by simp), fun h => absurd h HB.out⟩, hbl⟩
          · rw [decide_eq_false h2] at q0
            have f0 := hown.frozenAt m
            have hst := own_store_bool hown m true
            rw [sl_set N o k m hmN hlt2 HPk.out.symm] at hst
            have HO2 := hid (fun (j : Nat) (hj : j < k + 1) => show ordAt N o j by
              by_cases hjk : j < k
              · exact HO.out j hjk
              · obtain rfl : j = k := by omega
                intro a ha
                rw [HP.out] at ha
                obtain rfl := Option.some.inj ha
                exact ⟨⟨by omega, by omega⟩, h2⟩)
            clear h2 h0 h1
            go_wp2_with fail
            go_roundw
            case rel => exact ⟨k + 1, by omega, by go_num, HO2, hst, by (repeat (first | with_reducible (first | assumption | exact Below.refl _ _ | refine bel_alloc ?_ _ | refine bel_drew ?_ | refine bel_drewN ?_ _ | refine bel_set ?_ (by first | omega | (simp; done) | (simp; omega)) _ | refine bel_trans ?_ (by assumption)) | assumption | refine bel_trans ?_ (by assumption)))⟩
            case measure => simp [intOf]; omega
        · have hd2 : decide ((N : Int) ≤ p) = true := decide_eq_true (by omega)
          have HB := hid (show ¬ ordOk N o from fun hh => by have := (hh k hlt2 p HP.out).1.2; omega)
          clear h0 h1
          go_wp2_with fail
          go_ret
          exact ⟨false, rfl, ⟨fun h => absurd h (by simp), fun h => absurd h HB.out⟩, hbl⟩
    · have HB := hid (show ordOk N o from fun j hj => HO.out j (by have := HN.out; omega))
      go_wp2_with fail
      go_ret
      exact ⟨true, rfl, ⟨fun _ => HB.out, fun _ => rfl⟩, hbl⟩

/-- blocks in another order -/
def sh (x : List Bl) (o : List Int) : List Bl := o.flatMap fun i => (x[i.toNat]?).toList
theorem sh_take_succ (x : List Bl) (o : List Int) (k m : Nat) (hk : k < o.length) (hm : o[k] = (m : Int)) (h : m < x.length) : sh x (o.take (k + 1)) = sh x (o.take k) ++ [x[m]] := by
  rw [List.take_succ_eq_append_getElem hk, sh, List.flatMap_append, hm]
  simp [sh, List.getElem?_eq_getElem h]
theorem sh_mem (x : List Bl) (o : List Int) (b : Bl) (h : b ∈ sh x o) : b ∈ x := by
  simp only [sh, List.mem_flatMap] at h
  obtain ⟨i, -, hi⟩ := h
  cases hx : x[i.toNat]? with
  | none => rw [hx] at hi; simp at hi
  | some c =>
    rw [hx] at hi
    simp at hi
    subst hi
    exact List.mem_of_getElem? hx
theorem sh_len (x : List Bl) (o : List Int) (N : Nat) (hN : N = x.length) (h : ∀ j, j < o.length → ordAt N o j) : ∀ k, k ≤ o.length → (sh x (o.take k)).length = k
  | 0, _ => by simp [sh]
  | k + 1, hk => by
    obtain ⟨⟨h1, h2⟩, -⟩ := h k (by omega) _ (List.getElem?_eq_getElem (by omega))
    obtain ⟨m, hm⟩ := Int.eq_ofNat_of_zero_le h1
    rw [sh_take_succ x o k m (by omega) hm (by omega), List.length_append, sh_len x o N hN h k (by omega)]
    rfl
def shOk (x : List Bl) (c : Nat) (o : List Int) : Prop := c = 0 ∧ o.length = x.length ∧ ordOk x.length o

set_option maxHeartbeats 4000000 in
set_option maxRecDepth 100000 in
theorem c_sShuffle_no (S : ByteArray) (L : List UInt8) (x : List Bl) (c : Nat) (A0 : Option Addr) (q0 : Nat) (o : List Int) (w : World) (hS : S.size ≤ 1000000000000) (hL : L = S.data.toList) (hst : Stop L x c) (hO : NumsAt w w.heap.size A0 q0 o) (ho : o.length ≤ 1048576) (hok : ¬ shOk x c o) : Calls Tryd.prog 42 #[.string S, .slice A0 o.length q0] w fun e w' => e = .returned (.tuple #[.string ByteArray.empty, .bool false]) ∧ Below w.heap.size w w' := by
  have HB := hid (c_l5Blocks S L x c w hS hL hst)
  have HC := hid (fun (v : World) (hb : Below w.heap.size w v) => c_l7Order A0 q0 o w.heap.size v (hO.below hb (Nat.le_refl _)) hb.size ho)
  clear hst hO
  by_cases h0 : c = 0
  · rw [if_pos h0, decide_eq_true h0] at HB
    have HX := hid (show ordOk o.length o → ¬ o.length = x.length from fun h1 h2 => hok ⟨h0, h2, by rw [← h2]; exact h1⟩)
    clear h0 hok
    go_enter Tryd.func42, Tryd.ntmps42
    go_wp2_with fail
    refine (HB.out).mono ?_
    rintro e w1 ⟨v, rfl, hown, hb1⟩
    obtain ⟨A, q, rfl, -, -⟩ := own_bls hown
    clear hown
    go_wp2_with fail
    refine (HC.out _ hb1).mono ?_
    rintro e w2 ⟨b, rfl, hq, hb2⟩
    have hB := hb1.trans (hb2.mono hb1.size)
    cases b with
    | false =>
      clear hq
      go_wp2_with fail
      go_ret2
      exact ⟨rfl, hB⟩
    | true =>
      have hne := HX.out (hq.1 rfl)
      have hd : (((o.length : Nat) : Int) == ((x.length : Nat) : Int)) = false := by rw [beq_eq_false_iff_ne]; omega
      clear hq
      go_wp2_with fail
      go_ret2
      exact ⟨rfl, hB⟩
  · rw [decide_eq_false h0] at HB
    clear h0 hok
    go_enter Tryd.func42, Tryd.ntmps42
    go_wp2_with fail
    refine (HB.out).mono ?_
    rintro e w1 ⟨v, rfl, -, hb1⟩
    go_wp2_with fail
    go_ret2
    exact ⟨rfl, hb1⟩

set_option maxHeartbeats 4000000 in
set_option maxRecDepth 100000 in
theorem c_sShuffle_yes (S : ByteArray) (L : List UInt8) (x : List Bl) (c : Nat) (A0 : Option Addr) (q0 : Nat) (o : List Int) (w : World) (hS : S.size ≤ 1000000000000) (hL : L = S.data.toList) (hst : Stop L x c) (hO : NumsAt w w.heap.size A0 q0 o) (ho : o.length ≤ 1048576) (hok : shOk x c o) : Calls Tryd.prog 42 #[.string S, .slice A0 o.length q0] w fun e w' => e = .returned (.tuple #[.string (str (txt (sh x o))), .bool true]) ∧ Below w.heap.size w w' := by
  have HB := hid (c_l5Blocks S L x c w hS hL hst)
  have HC := hid (fun (v : World) (hb : Below w.heap.size w v) => c_l7Order A0 q0 o w.heap.size v (hO.below hb (Nat.le_refl _)) hb.size ho)
  obtain ⟨h0, h1, h2⟩ := hok
  have hx40 := hst.brd.len_le
  have hokx := hid hst.brd.okAll
  rw [if_pos h0, decide_eq_true h0] at HB
  have HH := hid hO
  have HX := hid (show ordOk o.length o by rw [h1]; exact h2)
  obtain ⟨N, hN⟩ : ∃ N, N = o.length := ⟨_, rfl⟩
  have HN := hid hN
  have HNx := hid (show N = x.length from hN.trans h1)
  rw [← HNx.out] at h2 hx40
  have HO := hid h2
  rw [← hN] at HC HX ⊢
  clear hst hO h0 h1 h2 hN ho
  go_enter Tryd.func42, Tryd.ntmps42
  go_wp2_with fail
  refine (HB.out).mono ?_
  rintro e w1 ⟨v, rfl, hown, hb1⟩
  obtain ⟨A, q, rfl, -, -⟩ := own_bls hown
  have HR := hid (own_blsq hown)
  rw [← HNx.out]
  clear hown
  have z1 := hb1.size
  go_wp2_with fail
  refine (HC.out _ hb1).mono ?_
  rintro e w2 ⟨b, rfl, hq, hb2⟩
  obtain rfl := hq.2 HX.out
  have hB := hb1.trans (hb2.mono z1)
  have HR2 := hid ((HR.out.below hb2 (Nat.le_refl _)).up hb2.size)
  clear hq hb1 hb2 HR
  go_wp2_with fail
  go_loopw [8, 9] (fun u i wr => ∃ (k : Nat) (T : ByteArray), k ≤ N ∧ i = .int .i64 k ∧ u = .string T ∧ Hid (T = str (txt (sh x (o.take k)))) ∧ T.size ≤ 74 * k ∧ Below w2.heap.size w2 wr) (fun _ i _ => N - (intOf i).toNat)
  case atStart => exact ⟨0, ByteArray.empty, Nat.zero_le _, rfl, rfl, hid rfl, by simp, by (repeat (first | with_reducible (first | assumption | exact Below.refl _ _ | refine bel_alloc ?_ _ | refine bel_drew ?_ | refine bel_drewN ?_ _ | refine bel_set ?_ (by first | omega | (simp; done) | (simp; omega)) _ | refine bel_trans ?_ (by assumption)) | assumption | refine bel_trans ?_ (by assumption)))⟩
  case round =>
    obtain ⟨k, T, hk, rfl, rfl, HT, hsz, hbl⟩ := hrel
    have hBl := hB.trans (hbl.mono hB.size)
    by_cases hlt : k < N
    · have hlt2 : k < o.length := by have := HN.out; omega
      obtain ⟨b, off, hAo, hb, hc0⟩ := int_at (HH.out.below hBl (Nat.le_refl _)) k hlt2
      obtain ⟨⟨g1, g2⟩, -⟩ := HO.out k hlt2 _ (List.getElem?_eq_getElem hlt2)
      obtain ⟨m, hm⟩ := Int.eq_ofNat_of_zero_le g1
      rw [hm] at hc0 g2
      have hmN : m < N := by omega
      have hmx : m < x.length := by have := HNx.out; omega
      have HSh := hid (sh_take_succ x o k m hlt2 hm hmx)
      clear hm g1 g2
      obtain ⟨d, off2, hAb, hd, hd0, hd1, hd2, hd3⟩ := bl_at (HR2.out.below hbl (Nat.le_refl _)) m hmx
      have hpo := hokx.out _ (List.getElem_mem hmx)
      obtain ⟨p, hp⟩ : ∃ p, p = x[m] := ⟨_, rfl⟩
      rw [← hp] at hd0 hd1 hd2 hd3 hpo HSh
      clear hp hmx hlt2
      have hl2 := (Bl.len _ hpo).2
      have hl3 := p.text_len
      have HCt := hid (fun (v : World) => c_l5Text p v hpo)
      obtain ⟨X, hX⟩ : ∃ X, X = str p.text := ⟨_, rfl⟩
      rw [← hX] at HCt
      have zX : X.size ≤ 74 := by rw [hX, str_size]; omega
      have HT2 := hid (show T ++ X = str (txt (sh x (o.take (k + 1)))) by rw [HT.out, hX, HSh.out, txt_snoc, str_append])
      clear hX HSh
      obtain ⟨p0, p1, p2, p3⟩ := p
      simp only at hd0 hd1 hd2 hd3 HCt
      clear hpo hl2 hl3
      rw [hAo, hAb]
      go_wp2_with fail
      refine (HCt.out _).mono ?_
      rintro e w3 ⟨rfl, hb3⟩
      have hbl3 := hbl.trans (hb3.mono hbl.size)
      clear hd0 hd1 hd2 hd3 hc0 hb3
      go_wp2_with fail
      go_roundw
      case rel => exact ⟨k + 1, T ++ X, by omega, by go_num, rfl, HT2, by rw [ByteArray.size_append]; omega, hbl3⟩
      case measure => simp [intOf]; omega
    · have HE := hid (show T = str (txt (sh x o)) by rw [HT.out, List.take_of_length_le (by have := HN.out; omega)])
      clear HT
      go_wp2_with fail
      go_ret2
      exact ⟨by rw [HE.out]; rfl, hBl⟩
end Go.Proofs.YtkglpbaapekgnaaDoor
