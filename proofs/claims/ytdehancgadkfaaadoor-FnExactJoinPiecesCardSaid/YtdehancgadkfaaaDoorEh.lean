/- JoinPieces in both programs, and its law's walk. The layout of the header is as the program's text lays it. -/
import Derived.Test.YtdehancgadkfaaaDoorEd
import Derived.Test.YtdehancgadkfaaaDoorShelf
import Derived.Lib.Repeat
import Derived.Lib.Join
namespace Go.Proofs.YtdehancgadkfaaaDoor
open Go.ChangeShapes Go.WideShapes Go.ChangeAt Go.RowKit Go.Joins
set_option linter.unusedVariables false
set_option linter.unusedSimpArgs false

/-- a word n times -/
def repq (l : List UInt8) (n : Nat) : List UInt8 := (List.replicate n l).flatten
theorem repq_len (l : List UInt8) (n : Nat) : (repq l n).length = n * l.length := by simp [repq]
theorem repq_add (l : List UInt8) (a b : Nat) : repq l a ++ repq l b = repq l (a + b) := by simp [repq, ← List.replicate_append_replicate]

theorem c_l9ManyQ (l : List UInt8) (n : Int) (w : World) (h0 : 0 ≤ n) (h1 : n ≤ 1000000) (hl : l.length ≤ 1000) : Calls Tryd.prog 30 #[.string (str l), .int .i64 n] w (Same (.string (str (repq l n.toNat))) w) := by
  go_enter Tryd.func30, Tryd.ntmps30
  go_wp2_with fail
  go_loop [0, 1, 5] (fun s m t => ∃ a b k : Nat, s = .string (str (repq l b)) ∧ t = .string (str (repq l a)) ∧ m = .int .i64 k ∧ Hid (a + b * k = n.toNat) ∧ k ≤ 1000000 ∧ a ≤ 1000000 ∧ b ≤ 2000000) (fun _ m _ => (intOf m).toNat)
  case atStart => exact ⟨0, 1, n.toNat, by simp [repq], by simp [repq, str], by rw [Int.toNat_of_nonneg h0], hid (by omega), by omega, by omega, by omega⟩
  case round =>
    obtain ⟨a, b, k, hs, ht, rfl, HK, hk, ha, hb⟩ := hrel
    obtain ⟨Sa, hSa⟩ : ∃ S, S = str (repq l a) := ⟨_, rfl⟩
    obtain ⟨Sb, hSb⟩ : ∃ S, S = str (repq l b) := ⟨_, rfl⟩
    have hla : Sa.size ≤ 1000000000 := by rw [hSa, str_size, repq_len]; exact Nat.le_trans (Nat.mul_le_mul ha hl) (by omega)
    have hlb : Sb.size ≤ 2000000000 := by rw [hSb, str_size, repq_len]; exact Nat.le_trans (Nat.mul_le_mul hb hl) (by omega)
    rw [← hSa] at ht
    rw [← hSb] at hs
    subst hs ht
    have HSa := hid hSa
    have HSb := hid hSb
    clear hSa hSb
    by_cases hz : k = 0
    · subst hz
      go_wp2
      go_ret
      exact ⟨ret_str (by rw [HSa.out, ← HK.out]; simp), rfl⟩
    · have hkn : b * k ≤ n.toNat := by have := HK.out; omega
      have hb2 : b ≤ n.toNat := Nat.le_trans (Nat.le_mul_of_pos_right b (by omega)) hkn
      clear hkn
      by_cases hm : k % 2 = 1
      · have hm2 : ((k : Int) % 2 == 1) = true := eq_yes (by omega)
        have hk2 := hid (show a + b + (b + b) * (k / 2) = n.toNat by
          have h3 : k = 2 * (k / 2) + 1 := by omega
          have := HK.out
          rw [h3, Nat.mul_add, ← Nat.mul_assoc, Nat.mul_comm b 2, Nat.two_mul] at this
          omega)
        have ha2 : a + b ≤ n.toNat := by have := hk2.out; omega
        have HM := hid hm
        clear hm
        go_wp2
        go_round
        case rel => exact ⟨a + b, b + b, k / 2, by rw [HSb.out, str_append, repq_add], by rw [HSa.out, HSb.out, str_append, repq_add], by go_num, hk2, by omega, by omega, by omega⟩
        case measure => simp [intOf]; omega
      · have hm2 : ((k : Int) % 2 == 1) = false := eq_no (by omega)
        have hk2 := hid (show a + (b + b) * (k / 2) = n.toNat by
          have h3 : k = 2 * (k / 2) := by omega
          have := HK.out
          rw [h3, ← Nat.mul_assoc, Nat.mul_comm b 2, Nat.two_mul] at this
          omega)
        clear hm
        go_wp2
        go_round
        case rel => exact ⟨a, b + b, k / 2, by rw [HSb.out, str_append, repq_add], by rw [HSa.out], by go_num, hk2, by omega, by omega, by omega⟩
        case measure => simp [intOf]; omega

theorem repq_one (c : UInt8) (n : Nat) : repq [c] n = List.replicate n c := by
  induction n with
  | zero => rfl
  | succ n ih => simp only [repq, List.replicate_succ, List.flatten_cons] at *; rw [ih]; rfl

theorem repeatL_oneQ (c : UInt8) (n : Nat) : Lib.repeatL [c] n = List.replicate n c := by
  induction n with
  | zero => rfl
  | succ n ih => rw [Lib.repeatL, ih]; rfl
theorem join_nil : ∀ (xs : List (List UInt8)), Lib.join xs [] = xs.flatten
  | [] => rfl
  | [x] => by simp [Lib.join, List.intercalate]
  | x :: y :: t => by
    have h := join_nil (y :: t)
    simp only [Lib.join, List.intercalate] at h ⊢
    rw [List.intersperse_cons_cons, List.flatten_cons, List.flatten_cons, h]
    simp
theorem mk_set {α : Type} (l : List α) (f : α → α) (k : Nat) (x : α) (h : l[k]? = some x) : ((l.take k).map f ++ l.drop k).set k (f x) = (l.take (k + 1)).map f ++ l.drop (k + 1) := by
  have hk := get_lt h
  have hx : l[k] = x := by rw [List.getElem?_eq_getElem hk] at h; exact Option.some.inj h
  have hl : ((l.take k).map f).length = k := by simp; omega
  rw [List.set_append, if_neg (by omega), hl, Nat.sub_self, List.drop_eq_getElem_cons hk, List.set_cons_zero, List.take_succ_eq_append_getElem hk, hx]
  simp
theorem mk_same {α : Type} (l : List α) (f : α → α) (k : Nat) (x : α) (h : l[k]? = some x) : ((l.take k).map f ++ l.drop k).set k x = (l.take k).map f ++ l.drop k := by
  have hk := get_lt h
  have hx : l[k] = x := by rw [List.getElem?_eq_getElem hk] at h; exact Option.some.inj h
  have hl : ((l.take k).map f).length = k := by simp; omega
  rw [List.set_append, if_neg (by omega), hl, Nat.sub_self, List.drop_eq_getElem_cons hk, List.set_cons_zero, hx]
/-- the data, or a filler in place of none -/
def fillq (F d : ByteArray) : ByteArray := if d.data.toList.isEmpty then F else d
def joinq (ps : List Qp) (F : ByteArray) (k : Nat) : List UInt8 := ((List.range k).map fun (n : Nat) => (fillq F (hasq ps (n : Int))).data.toList).flatten
theorem joinq_succ (ps : List Qp) (F : ByteArray) (k : Nat) : joinq ps F (k + 1) = joinq ps F k ++ (fillq F (hasq ps (k : Int))).data.toList := by
  unfold joinq; rw [List.range_succ, List.map_append, List.flatten_append]; simp
theorem joinq_eq (ps : List Qp) (F : ByteArray) (C : Nat) : (((datas ps C).map (fillq F)).map (fun s => s.data.toList)).flatten = joinq ps F C := by
  unfold joinq datas
  rw [List.map_map, List.map_map]
  rfl
/-- the filler -/
def fillL (size : Int) (f : Int) : ByteArray := str (List.replicate size.toNat (UInt8.ofNat f.toNat))
theorem fillL_size (size f : Int) (h : size ≤ 64) : (fillL size f).size ≤ 64 := by unfold fillL; rw [str_size]; simp; omega
theorem fillq_size {F d : ByteArray} (hF : F.size ≤ 64) (hd : d.size ≤ 64) : (fillq F d).size ≤ 64 := by unfold fillq; split <;> assumption
theorem hasq_size {ps : List Qp} {c : Int} (h : pcOk ps c) (n : Int) : (hasq ps n).size ≤ 64 := by
  have key : ∀ l : List Qp, (∀ p ∈ l, p.2.size ≤ 64) → (hasq l n).size ≤ 64 := by
    intro l
    induction l with
    | nil => intro _; show ByteArray.empty.size ≤ 64; simp
    | cons p t ih =>
      intro hp
      show (if p.1 = n then p.2 else hasq t n).size ≤ 64
      split
      · exact hp p (by simp)
      · exact ih (fun q hq => hp q (by simp [hq]))
  refine key ps (fun p hp => ?_)
  obtain ⟨i, hi, rfl⟩ := List.getElem_of_mem hp
  have := (h.2 i hi).2.2.2
  rw [(q_at i hi).2] at this
  exact this
theorem joinq_len {ps : List Qp} {c : Int} (h : pcOk ps c) {F : ByteArray} (hF : F.size ≤ 64) (k : Nat) : (joinq ps F k).length ≤ 64 * k := by
  induction k with
  | zero => simp [joinq]
  | succ k ih =>
    rw [joinq_succ, List.length_append]
    have := fillq_size hF (hasq_size h (k : Int))
    have e : (fillq F (hasq ps (k : Int))).data.toList.length = (fillq F (hasq ps (k : Int))).size := rfl
    omega
/-- the arguments are good -/
def jpOk (ps : List Qp) (c size f : Int) : Prop := pcOk ps c ∧ (1 ≤ size ∧ size ≤ 64) ∧ (0 ≤ f ∧ f ≤ 255)
noncomputable instance (ps : List Qp) (c size f : Int) : Decidable (jpOk ps c size f) := Classical.propDecidable _
noncomputable def jpV (ps : List Qp) (c size f : Int) : Value := if jpOk ps c size f then .tuple #[.string (str (joinq ps (fillL size f) c.toNat)), .bool true] else .tuple #[.string ByteArray.empty, .bool false]

set_option maxHeartbeats 4000000 in
set_option maxRecDepth 100000 in
theorem c_sJoinPieces (A : Option Addr) (cap : Nat) (ps : List Qp) (c size f : Int) (L : Nat) (w : World) (h : QsAt w L A cap ps) (hB : QB ps) (hc : -9223372036854775808 ≤ c ∧ c ≤ 9223372036854775807) (hL : L ≤ w.heap.size) (hn : ps.length ≤ 1048576) : Calls Tryd.prog 15 #[.slice A ps.length cap, .int .i64 c, .int .i64 size, .int .i64 f] w fun e w' => e = .returned (jpV ps c size f) ∧ Below w.heap.size w w' := by
  have HP := hid (fun (v : World) (hb : Below w.heap.size w v) => c_l7Pieces A cap ps c L v (h.below hb hL) hB hc (Nat.le_trans hL hb.size) hn)
  have HH := hid (fun (n : Int) (v : World) (hb : Below w.heap.size w v) => c_l7Has A cap ps n L v (h.below hb hL) (Nat.le_trans hL hb.size) hn)
  obtain ⟨N, hN⟩ : ∃ N, N = ps.length := ⟨_, rfl⟩
  rw [← hN] at HP HH ⊢
  have H1 := hid (fun v => c_l1In size 1 64 v)
  have H2 := hid (fun v => c_l1In f 0 255 v)
  clear hN hn h hB hc
  by_cases hok : pcOk ps c
  · rw [decide_eq_true hok] at HP
    cases h1 : inB size 1 64 with
    | false =>
      have hr : jpV ps c size f = .tuple #[.string ByteArray.empty, .bool false] := by unfold jpV; rw [if_neg (fun h9 => by rw [inB_iff.2 h9.2.1] at h1; cases h1)]
      rw [hr]
      rw [h1] at H1
      clear hr h1 hok
      go_enter Tryd.func15, Tryd.ntmps15
      go_wp2_with fail
      refine (HP.out _ (Below.refl _ _)).mono ?_
      rintro e w1 ⟨rfl, hb1⟩
      go_wp2_with fail
      refine (H1.out _).mono ?_
      rintro e w2 ⟨rfl, rfl⟩
      go_wp2_with fail
      go_ret2
      exact ⟨rfl, hb1⟩
    | true =>
    cases h2 : inB f 0 255 with
    | false =>
      have hr : jpV ps c size f = .tuple #[.string ByteArray.empty, .bool false] := by unfold jpV; rw [if_neg (fun h9 => by rw [inB_iff.2 h9.2.2] at h2; cases h2)]
      rw [hr]
      rw [h1] at H1
      rw [h2] at H2
      clear hr h1 h2 hok
      go_enter Tryd.func15, Tryd.ntmps15
      go_wp2_with fail
      refine (HP.out _ (Below.refl _ _)).mono ?_
      rintro e w1 ⟨rfl, hb1⟩
      go_wp2_with fail
      refine (H1.out _).mono ?_
      rintro e w2 ⟨rfl, rfl⟩
      go_wp2_with fail
      refine (H2.out _).mono ?_
      rintro e w2 ⟨rfl, rfl⟩
      go_wp2_with fail
      go_ret2
      exact ⟨rfl, hb1⟩
    | true =>
      have hs4 := inB_iff.1 h1
      have hf4 := inB_iff.1 h2
      have hr : jpV ps c size f = .tuple #[.string (str (joinq ps (fillL size f) c.toNat)), .bool true] := by unfold jpV; rw [if_pos ⟨hok, hs4, hf4⟩]
      rw [hr]
      rw [h1] at H1
      rw [h2] at H2
      obtain ⟨C, rfl⟩ := Int.eq_ofNat_of_zero_le hok.1.1
      rw [Int.toNat_natCast]
      have hC40 := hok.1.2
      obtain ⟨fn, rfl⟩ := Int.eq_ofNat_of_zero_le hf4.1
      have HF := hid (fillL_size size fn hs4.2)
      have HJ := hid (fun k => joinq_len hok HF.out k)
      have HM := hid (fun v => show Calls Tryd.prog 30 #[.string (str [UInt8.ofNat fn]), .int .i64 size] v (Same (.string (fillL size fn)) v) from by
        have h9 := c_l9ManyQ [UInt8.ofNat fn] size v (by omega) (by omega) (by simp)
        rw [repq_one] at h9
        exact h9)
      obtain ⟨F, hF⟩ : ∃ F, F = fillL size fn := ⟨_, rfl⟩
      rw [← hF] at HM HF HJ ⊢
      have hsz8 : F.size ≤ 64 := HF.out
      have HZ := hid (fun k => hasq_size hok (k : Int))
      clear hr h1 h2 hok hF hs4
      go_enter Tryd.func15, Tryd.ntmps15
      go_wp2_with fail
      refine (HP.out _ (Below.refl _ _)).mono ?_
      rintro e w1 ⟨rfl, hb1⟩
      go_wp2_with fail
      refine (H1.out _).mono ?_
      rintro e w2 ⟨rfl, rfl⟩
      go_wp2_with fail
      refine (H2.out _).mono ?_
      rintro e w2 ⟨rfl, rfl⟩
      go_wp2_with fail
      go_loopw [10, 11] (fun t i wr => ∃ (k : Nat) (T : ByteArray), k ≤ C ∧ i = .int .i64 k ∧ t = .string T ∧ Hid (T = str (joinq ps F k)) ∧ T.size ≤ 64 * k ∧ Below w.heap.size w wr) (fun _ i _ => C - (intOf i).toNat)
      case atStart => exact ⟨0, ByteArray.empty, Nat.zero_le _, rfl, rfl, hid (by simp [joinq, str]; rfl), by simp, hb1⟩
      case round =>
        obtain ⟨k, T, hk, rfl, rfl, HT, hTz, hbl⟩ := hrel
        rename_i wr _
        by_cases hlt : k < C
        · have HX := hid (HH.out (k : Int))
          obtain ⟨X, hX⟩ : ∃ X, X = hasq ps (k : Int) := ⟨_, rfl⟩
          have hX64 : X.size ≤ 64 := by rw [hX]; exact HZ.out _
          rw [← hX] at HX
          cases he : X.toList.isEmpty with
          | true =>
            have HN := hid (show T ++ F = str (joinq ps F (k + 1)) by
              rw [joinq_succ, ← hX, fillq, if_pos (by rw [← emptyL]; exact he), ← str_append, str_self, ← HT.out])
            have hone := run_one (P := Tryd.prog) (w := wr) Tryd.underlying54 Tryd.underlying5 Tryd.underlying9 (X := (fn : Int)) (c := UInt8.ofNat fn) (by rw [UInt8.toNat_ofNat']; omega)
            clear hX
            go_wp2_with fail
            refine (HX.out _ hbl).mono ?_
            rintro e w2 ⟨rfl, rfl⟩
            go_wp2_with fail
            refine (HM.out _).mono ?_
            rintro e w2 ⟨rfl, rfl⟩
            go_wp2_with fail
            go_roundw
            case rel => exact ⟨k + 1, _, by omega, by go_num, rfl, HN, by rw [ByteArray.size_append]; omega, by (repeat (first | with_reducible (first | assumption | exact Below.refl _ _ | refine bel_alloc ?_ _ | refine bel_drew ?_ | refine bel_drewN ?_ _ | refine bel_set ?_ (by first | omega | (simp; done) | (simp; omega)) _ | refine bel_trans ?_ (by assumption)) | assumption | refine bel_trans ?_ (by assumption)))⟩
            case measure => simp [intOf]; omega
          | false =>
            have HN := hid (show T ++ X = str (joinq ps F (k + 1)) by
              rw [joinq_succ, ← hX, fillq, if_neg (by rw [← emptyL, he]; simp), ← str_append, str_self, ← HT.out])
            clear hX
            go_wp2_with fail
            refine (HX.out _ hbl).mono ?_
            rintro e w2 ⟨rfl, rfl⟩
            go_wp2_with fail
            go_roundw
            case rel => exact ⟨k + 1, _, by omega, by go_num, rfl, HN, by rw [ByteArray.size_append]; omega, by (repeat (first | with_reducible (first | assumption | exact Below.refl _ _ | refine bel_alloc ?_ _ | refine bel_drew ?_ | refine bel_drewN ?_ _ | refine bel_set ?_ (by first | omega | (simp; done) | (simp; omega)) _ | refine bel_trans ?_ (by assumption)) | assumption | refine bel_trans ?_ (by assumption)))⟩
            case measure => simp [intOf]; omega
        · obtain rfl : k = C := by omega
          go_wp2_with fail
          go_ret2
          exact ⟨by rw [HT.out]; rfl, hbl⟩
  · rw [decide_eq_false hok] at HP
    have hr : jpV ps c size f = .tuple #[.string ByteArray.empty, .bool false] := by unfold jpV; rw [if_neg (fun h9 => hok h9.1)]
    rw [hr]
    clear hr hok
    go_enter Tryd.func15, Tryd.ntmps15
    go_wp2_with fail
    refine (HP.out _ (Below.refl _ _)).mono ?_
    rintro e w1 ⟨rfl, hb1⟩
    go_wp2_with fail
    go_ret2
    exact ⟨rfl, hb1⟩

set_option maxHeartbeats 8000000 in
set_option maxRecDepth 100000 in
theorem c_JoinPieces (A : Option Addr) (cap : Nat) (ps : List Qp) (c size f : Int) (L : Nat) (w : World) (h : QsAt w L A cap ps) (hB : QB ps) (hc : -9223372036854775808 ≤ c ∧ c ≤ 9223372036854775807) (hL : L ≤ w.heap.size) (hn : ps.length ≤ 1048576) (hLy : Lay w) : Calls Tryd.prog 16 #[.slice A ps.length cap, .int .i64 c, .int .i64 size, .int .i64 f] w fun e w' => e = .returned (jpV ps c size f) ∧ Below w.heap.size w w' := by
  have hno : ∀ (hok : ¬ pcOk ps c) (HD : Hid (Calls Tryd.prog 26 #[.slice A ps.length cap, .int .i64 c] w fun e w' => e = .returned (.tuple #[.slice none 0 0, .bool false]) ∧ Below w.heap.size w w')), Calls Tryd.prog 16 #[.slice A ps.length cap, .int .i64 c, .int .i64 size, .int .i64 f] w fun e w' => e = .returned (jpV ps c size f) ∧ Below w.heap.size w w' := by
    intro hok HD
    have hr : jpV ps c size f = .tuple #[.string ByteArray.empty, .bool false] := by unfold jpV; rw [if_neg (fun h9 => hok h9.1)]
    rw [hr]
    clear hr hok hB h hLy hn
    go_enter Tryd.func16, Tryd.ntmps16
    go_wp2_with fail
    refine (HD.out).mono ?_
    rintro e w1 ⟨rfl, hb1⟩
    go_wp2_with fail
    go_ret2
    exact ⟨rfl, hb1⟩
  by_cases hin : inB c 0 40 = true
  · have hc40 := inB_iff.1 hin
    obtain ⟨C, rfl⟩ := Int.eq_ofNat_of_zero_le hc40.1
    have HD0 := c_dataOfPieces A cap ps C L w h hB (by omega) hL hn hLy
    by_cases hok : pcOk ps C
    · have HD := hid (HD0.mono fun e w' h9 => (show (∃ G, e = .returned (.tuple #[.slice (some ⟨G, 0, none⟩) C C, .bool true]) ∧ w'.ownsRow w.heap.size 9 1 (.slice (some ⟨G, 0, none⟩) C C) C ((datas ps C).map sv)) ∧ Below w.heap.size w w' from ⟨h9.1 hok, h9.2.2⟩))
      have hC40 : C ≤ 40 := by omega
      have HA := hid (fun v => c_allows 2 1 64 size v)
      have HLy := hid hLy
      clear hno HD0 hB h hLy hn hin hc40 hc
      cases h1 : inB size 1 64 with
      | false =>
        have hr : jpV ps C size f = .tuple #[.string ByteArray.empty, .bool false] := by unfold jpV; rw [if_neg (fun h9 => by rw [inB_iff.2 h9.2.1] at h1; cases h1)]
        rw [hr]
        rw [h1] at HA
        clear hr h1 hok
        go_enter Tryd.func16, Tryd.ntmps16
        go_wp2_with fail
        refine (HD.out).mono ?_
        rintro e w1 ⟨⟨G, rfl, hown0⟩, hb1⟩
        have hlay := lay3c _ (HLy.out.on hb1)
        go_wp2_with fail
        refine (HA.out _).mono ?_
        rintro e w2 ⟨rfl, hb2⟩
        go_wp2_with fail
        go_ret2
        exact ⟨rfl, hb1.trans (hb2.mono hb1.size)⟩
      | true =>
      have hs4 := inB_iff.1 h1
      rw [h1] at HA
      by_cases hf0 : f < 0
      · have hr : jpV ps C size f = .tuple #[.string ByteArray.empty, .bool false] := by unfold jpV; rw [if_neg (fun h9 => by have := h9.2.2.1; omega)]
        rw [hr]
        clear hr h1 hok
        go_enter Tryd.func16, Tryd.ntmps16
        go_wp2_with fail
        refine (HD.out).mono ?_
        rintro e w1 ⟨⟨G, rfl, hown0⟩, hb1⟩
        have hlay := lay3c _ (HLy.out.on hb1)
        go_wp2_with fail
        refine (HA.out _).mono ?_
        rintro e w2 ⟨rfl, hb2⟩
        go_wp2_with fail
        go_ret2
        exact ⟨rfl, hb1.trans (hb2.mono hb1.size)⟩
      · by_cases hf1 : 255 < f
        · have hr : jpV ps C size f = .tuple #[.string ByteArray.empty, .bool false] := by unfold jpV; rw [if_neg (fun h9 => by have := h9.2.2.2; omega)]
          rw [hr]
          clear hr h1 hok
          go_enter Tryd.func16, Tryd.ntmps16
          go_wp2_with fail
          refine (HD.out).mono ?_
          rintro e w1 ⟨⟨G, rfl, hown0⟩, hb1⟩
          have hlay := lay3c _ (HLy.out.on hb1)
          go_wp2_with fail
          refine (HA.out _).mono ?_
          rintro e w2 ⟨rfl, hb2⟩
          go_wp2_with fail
          go_ret2
          exact ⟨rfl, hb1.trans (hb2.mono hb1.size)⟩
        · have hr : jpV ps C size f = .tuple #[.string (str (joinq ps (fillL size f) C)), .bool true] := by unfold jpV; rw [if_pos ⟨hok, hs4, by omega, by omega⟩, Int.toNat_natCast]
          rw [hr]
          obtain ⟨fn, rfl⟩ := Int.eq_ofNat_of_zero_le (show 0 ≤ f by omega)
          obtain ⟨sn, rfl⟩ := Int.eq_ofNat_of_zero_le (show 0 ≤ size by omega)
          have HF := hid (fillL_size sn fn hs4.2)
          have HJ := hid (fun k => joinq_len hok HF.out k)
          have HM := hid (fun v => show Calls Tryd.prog 32 #[.string (str [UInt8.ofNat fn]), .int .i64 sn] v (fun e w' => e = .returned (.string (fillL sn fn)) ∧ Below v.heap.size v w') from by
            have h9 := Tryd.strings_Repeat (str [UInt8.ofNat fn]) sn v (by omega) (by rw [str_size]; simp; omega)
            rw [str_list, repeatL_oneQ] at h9
            unfold fillL
            rw [Int.toNat_natCast, Int.toNat_natCast]
            exact h9)
          have HE := hid (joinq_eq ps (fillL sn fn) C)
          obtain ⟨F, hF⟩ : ∃ F, F = fillL sn fn := ⟨_, rfl⟩
          rw [← hF] at HM HF HJ HE ⊢
          have hsz8 : F.size ≤ 64 := HF.out
          clear hr h1 hok hF
          go_enter Tryd.func16, Tryd.ntmps16
          go_wp2_with fail
          refine (HD.out).mono ?_
          rintro e w1 ⟨⟨G, rfl, hown0⟩, hb1⟩
          have hlay := lay3c _ (HLy.out.on hb1)
          have HO1 := hid hown0
          clear hown0
          go_wp2_with fail
          refine (HA.out _).mono ?_
          rintro e w2 ⟨rfl, hb2⟩
          have hb12 := hb1.trans (hb2.mono hb1.size)
          have HO2 := hid (own_on HO1.out hb2)
          have hone := run_one (P := Tryd.prog) (w := w2) Tryd.underlying54 Tryd.underlying5 Tryd.underlying9 (X := (fn : Int)) (c := UInt8.ofNat fn) (by rw [UInt8.toNat_ofNat']; omega)
          clear hb1 hb2 HO1 hlay
          go_wp2_with fail
          refine (HM.out _).mono ?_
          rintro e w3 ⟨rfl, hb3⟩
          have hb23 := (bel_alloc (Below.refl _ w2) (.cells #[.int .u8 (fn : Nat)] 5)).trans (hb3.mono (by rw [World.size_alloc]; omega))
          have hB3 := hb12.trans (hb23.mono hb12.size)
          have HO3 := hid (own_on HO2.out hb23)
          clear HO2 hb12 hb3 hb23 hone
          go_wp2_with fail
          obtain ⟨l, hl⟩ : ∃ l, l = datas ps C := ⟨_, rfl⟩
          have HLG := hid (fun k (hk : k < C) => (datas_get ps C k hk))
          have hll : l.length = C := by rw [hl]; exact datas_len ps C
          rw [← hl] at HO3 HE HLG
          have HLN := hid hll
          clear hl hll
          go_loopw [46] (fun i wr => ∃ k : Nat, k ≤ C ∧ i = .int .i64 k ∧ wr.ownsRow w.heap.size 9 1 (.slice (some ⟨G, 0, none⟩) C C) C (((l.take k).map (fillq F) ++ l.drop k).map sv) ∧ Below w.heap.size w wr) (fun i _ => C - (intOf i).toNat)
          case atStart => exact ⟨0, Nat.zero_le _, rfl, by simpa using HO3.out, hB3⟩
          case round =>
            obtain ⟨k, hk, rfl, hown, hbl⟩ := hrel
            rename_i wr _
            by_cases hlt : k < C
            · have hkC : (k : Int) < (C : Int) := by omega
              obtain ⟨X, hX⟩ : ∃ X, X = hasq ps (k : Int) := ⟨_, rfl⟩
              have hlk := HLG.out k hlt
              rw [← hX] at hlk
              have hk2 : k < l.length := by rw [HLN.out]; exact hlt
              have HS := hid (mk_set l (fillq F) k X hlk)
              have q0 := own_txt hown k X (by rw [List.getElem?_append_right (by simp; omega)]; simp [hlk]; rw [show k - min k l.length = 0 from by omega, Nat.add_zero]; exact hlk)
              have f0 := hown.frozenAt k
              have HLK := hid hlk
              clear hX hlk
              cases he : X.toList.isEmpty with
              | true =>
                have hfx : fillq F X = F := by unfold fillq; rw [if_pos (by rw [← emptyL]; exact he)]
                have hst := own_store_txt hown k F
                rw [show (((l.take k).map (fillq F) ++ l.drop k).set k F) = (l.take (k + 1)).map (fillq F) ++ l.drop (k + 1) from by rw [← HS.out, hfx]] at hst
                have hB4 := hid (hbl.trans (below_of_grown (grown_set (grown_refl wr (some G)) k (.string F)) hbl.size (fun g e => by obtain rfl := Option.some.inj e; exact (own_lt hown).1)))
                have HST := hid hst
                clear hst hown hfx
                go_wp2_with fail
                go_roundw
                case rel => exact ⟨k + 1, by omega, by go_num, HST.out, hB4.out⟩
                case measure => simp [intOf]; omega
              | false =>
                have hfx : fillq F X = X := by unfold fillq; rw [if_neg (by rw [← emptyL, he]; simp)]
                have HSS := hid (show ((l.take k).map (fillq F) ++ l.drop k) = (l.take (k + 1)).map (fillq F) ++ l.drop (k + 1) by
                  rw [← HS.out, hfx]
                  exact (mk_same l (fillq F) k X HLK.out).symm)
                clear hfx
                have HO := hid hown
                clear hown
                go_wp2_with fail
                go_roundw
                case rel => exact ⟨k + 1, by omega, by go_num, by rw [← HSS.out]; exact HO.out, hbl⟩
                case measure => simp [intOf]; omega
            · obtain rfl : k = C := by omega
              have hM : (l.take k).map (fillq F) ++ l.drop k = l.map (fillq F) := by rw [List.take_of_length_le (by rw [HLN.out]; omega), List.drop_of_length_le (by rw [HLN.out]; omega)]; simp
              rw [hM] at hown
              have hlm : (l.map (fillq F)).length = k := by rw [List.length_map, HLN.out]
              have HJN := hid (show Calls Tryd.prog 33 #[.slice (some ⟨G, 0, none⟩) k k, .string ⟨#[]⟩] wr (fun e w' => e = .returned (.string (str (joinq ps F k))) ∧ Below wr.heap.size wr w') from by
                have h9 := Tryd.strings_Join G 0 k (l.map (fillq F)) ⟨#[]⟩ wr (fun j x hj => by rw [Nat.zero_add]; exact own_txt hown j x hj) (own_lt hown).2 (by omega) (by omega) (by
                  rw [show (⟨#[]⟩ : ByteArray).data.toList = [] from rfl, join_nil, HE.out]
                  have := HJ.out k; omega)
                rw [show (⟨#[]⟩ : ByteArray).data.toList = [] from rfl, join_nil, HE.out, hlm] at h9
                exact h9)
              clear hown hM hlm
              go_wp2_with fail
              refine (HJN.out).mono ?_
              rintro e w9 ⟨rfl, hb9⟩
              go_wp2_with fail
              go_ret2
              exact ⟨rfl, hbl.trans (hb9.mono hbl.size)⟩
    · exact hno hok (hid (HD0.mono fun e w' h9 => ⟨h9.2.1 hok, h9.2.2⟩))
  · exact hno (fun h9 => hin (inB_iff.2 h9.1)) (hid (c_dataOfPieces_no0 A cap _ c w (by simpa using hin)))

set_option maxHeartbeats 4000000 in
set_option maxRecDepth 100000 in
theorem walk_FnExactJoinPieces (ps : List Qp) (A : Option Addr) (cap : Nat) (c size f : Int) (w : World) (hps : QsAt w w.heap.size A cap ps) (hB : QB ps) (h_c : -9223372036854775808 ≤ c ∧ c ≤ 9223372036854775807) (h_s : -9223372036854775808 ≤ size ∧ size ≤ 9223372036854775807) (h_f : -9223372036854775808 ≤ f ∧ f ≤ 9223372036854775807) (hLy : Lay w) :
    Calls Tryd.prog 4 #[.slice A ps.length cap, .int .i64 c, .int .i64 size, .int .i64 f] w fun e w' => e = .returned (.bool true) ∧ Below w.heap.size w w' := by
  by_cases big : (1048576 : Int) < ps.length + qtot ps
  · have HZ := hid (c_szPieceS_no A cap ps w.heap.size 1048576 w hps hB (Nat.le_refl _) (by omega) (by omega) big)
    clear hps hB big hLy
    go_enter Tryd.func4, Tryd.ntmps4
    go_wp2_with fail
    refine (HZ.out).mono ?_
    rintro e w1 ⟨rfl, hb1⟩
    go_wp2_with fail
    go_ret
    exact ⟨rfl, hb1⟩
  have hn : ps.length ≤ 1048576 := by omega
  have HZ := hid (c_szPieceS_yes A cap ps w.heap.size 1048576 w hps (Nat.le_refl _) (by omega) (by omega))
  have hpos : ¬ ((1048576 : Int) - ps.length - qtot ps < 0) := by omega
  obtain ⟨Zq, hZq⟩ : ∃ Zq, Zq = (1048576 : Int) - ps.length - qtot ps := ⟨_, rfl⟩
  rw [← hZq] at HZ hpos
  clear hZq big
  obtain ⟨N, hN⟩ : ∃ N, N = ps.length := ⟨_, rfl⟩
  have HT := hid (fun (v : World) (hb : Below w.heap.size w v) => c_toPieceS A cap ps w.heap.size v (hps.below hb (Nat.le_refl _)) hb.size hn)
  have HS0 := (fun (A : Option Addr) (cap : Nat) (v : World) (h : QsAt v v.heap.size A cap ps) => c_sJoinPieces A cap ps c size f v.heap.size v h hB h_c (Nat.le_refl _) hn)
  have HI0 := (fun (A : Option Addr) (cap : Nat) (v : World) (h : QsAt v v.heap.size A cap ps) (hb : Below w.heap.size w v) => c_JoinPieces A cap ps c size f v.heap.size v h hB h_c (Nat.le_refl _) hn (hLy.on hb))
  obtain ⟨S, b, hV⟩ : ∃ S b, jpV ps c size f = .tuple #[.string S, .bool b] := by
    unfold jpV; split
    · exact ⟨_, _, rfl⟩
    · exact ⟨_, _, rfl⟩
  rw [hV] at HS0 HI0
  have HS := hid HS0
  have HI := hid HI0
  have HEP := hid (fun (A A2 : Option Addr) (cap cap2 : Nat) (v : World) (h : QsAt v v.heap.size A cap ps) (h2 : QsAt v v.heap.size A2 cap2 ps) => c_eqPieceS A A2 cap cap2 ps v.heap.size v.heap.size v h h2 (Nat.le_refl _) (Nat.le_refl _) hn)
  clear HS0 HI0
  rw [← hN] at HZ HT HS HI HEP hn ⊢
  clear hV hB hps hLy hN h_c h_s h_f
  go_enter Tryd.func4, Tryd.ntmps4
  go_wp2_with fail
  refine (HZ.out).mono ?_
  rintro e w1 ⟨rfl, hB1⟩
  clear HZ
  go_wp2_with fail
  refine (HT.out _ hB1).mono ?_
  rintro e w2 ⟨g2, rfl, ownt, hb2⟩
  have hB2 := hB1.trans (hb2.mono hB1.size)
  have HQ := hid (own_qsq ownt)
  clear ownt hb2 hB1
  go_wp2_with fail
  refine (HS.out _ _ _ HQ.out).mono ?_
  rintro e w3 ⟨rfl, hb3⟩
  have hB3 := hB2.trans (hb3.mono hB2.size)
  clear HQ hb3 hB2
  go_wp2_with fail
  refine (HT.out _ hB3).mono ?_
  rintro e w4 ⟨g4, rfl, ownx, hb4⟩
  have hB4 := hB3.trans (hb4.mono hB3.size)
  clear hb4 hB3
  go_wp2_with fail
  refine (HI.out _ _ _ (own_qsq ownx) hB4).mono ?_
  rintro e w5 ⟨rfl, hb5⟩
  have hB5 := hB4.trans (hb5.mono hB4.size)
  have ownx5 := own_on ownx hb5
  clear ownx hb5 hB4
  go_wp2_with fail
  refine (HT.out _ hB5).mono ?_
  rintro e w7 ⟨g7, rfl, owny, hb7⟩
  have hB7 := hB5.trans (hb7.mono hB5.size)
  have ownx7 := own_on ownx5 hb7
  clear hB5 ownx5 hb7
  go_wp2_with fail
  refine (HEP.out _ _ _ _ _ (own_qsq ownx7) (own_qsq owny)).mono ?_
  rintro e w8 ⟨rfl, hb8⟩
  have hB8 := hB7.trans (hb8.mono hB7.size)
  clear hB7 ownx7 owny hb8
  go_wp2_with fail
  go_ret
  exact ⟨rfl, hB8⟩
end Go.Proofs.YtdehancgadkfaaaDoor
