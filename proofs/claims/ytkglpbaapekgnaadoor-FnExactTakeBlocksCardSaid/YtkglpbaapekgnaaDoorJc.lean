/- TakeBlocks in both programs, and its law's walk. The layout of the header and the errors are as the program's text lays them. -/
import Derived.Test.YtkglpbaapekgnaaDoorJb
namespace Go.Proofs.YtkglpbaapekgnaaDoor
open Go.ChangeShapes Go.WideShapes Go.ChangeAt Go.RowKit Go.Joins
set_option linter.unusedVariables false
set_option linter.unusedSimpArgs false

theorem c_inRange (n lo hi : Int) (w : World) : Calls Tryd.prog 61 #[.int .i64 n, .int .i64 lo, .int .i64 hi] w (Same (.bool (decide (lo ≤ n ∧ n ≤ hi))) w) := by
  by_cases h1 : lo ≤ n
  · by_cases h2 : n ≤ hi
    · have hd1 : decide (n ≥ lo) = true := decide_eq_true (by omega)
      have hd2 : decide (n ≤ hi) = true := decide_eq_true h2
      have HV := hid (show decide (lo ≤ n ∧ n ≤ hi) = true from decide_eq_true ⟨h1, h2⟩)
      rw [HV.out]
      clear HV
      go_enter Tryd.func61, Tryd.ntmps61
      go_wp2_with fail
      go_ret
      exact ⟨rfl, rfl⟩
    · have hd1 : decide (n ≥ lo) = true := decide_eq_true (by omega)
      have hd2 : decide (n ≤ hi) = false := decide_eq_false h2
      have HV := hid (show decide (lo ≤ n ∧ n ≤ hi) = false from decide_eq_false (fun h => h2 h.2))
      rw [HV.out]
      clear HV
      go_enter Tryd.func61, Tryd.ntmps61
      go_wp2_with fail
      go_ret
      exact ⟨rfl, rfl⟩
  · have hd1 : decide (n ≥ lo) = false := decide_eq_false (by omega)
    have HV := hid (show decide (lo ≤ n ∧ n ≤ hi) = false from decide_eq_false (fun h => h1 h.1))
    rw [HV.out]
    clear HV
    go_enter Tryd.func61, Tryd.ntmps61
    go_wp2_with fail
    go_ret
    exact ⟨rfl, rfl⟩

/-- whether so many blocks from there on can be taken -/
def tkOk (x : List Bl) (c : Nat) (f n : Int) : Prop := c = 0 ∧ (0 ≤ f ∧ f ≤ x.length) ∧ (0 ≤ n ∧ n ≤ x.length - f)
def tkn (x : List Bl) (f n : Int) : List Bl := (x.drop f.toNat).take n.toNat
theorem tk_len (x : List Bl) (f n : Int) : (tkn x f n).length ≤ x.length := by
  rw [tkn, List.length_take, List.length_drop]; omega
theorem tk_mem (x : List Bl) (f n : Int) (b : Bl) (h : b ∈ tkn x f n) : b ∈ x := List.mem_of_mem_drop (List.mem_of_mem_take h)

set_option maxHeartbeats 4000000 in
set_option maxRecDepth 100000 in
theorem c_sTake_yes (S : ByteArray) (L : List UInt8) (x : List Bl) (c : Nat) (f n : Int) (w : World) (hS : S.size ≤ 1000000000000) (hL : L = S.data.toList) (hst : Stop L x c) (hf : -9223372036854775808 ≤ f ∧ f ≤ 9223372036854775807) (hn : -9223372036854775808 ≤ n ∧ n ≤ 9223372036854775807) (hok : tkOk x c f n) : Calls Tryd.prog 38 #[.string S, .int .i64 f, .int .i64 n] w fun e w' => e = .returned (.tuple #[.string (edS (tkn x f n)), .bool (edO (tkn x f n))]) ∧ Below w.heap.size w w' := by
  have HB := hid (c_l5Blocks S L x c w hS hL hst)
  obtain ⟨rfl, ⟨h1, h2⟩, h3, h4⟩ := hok
  have hx40 := hst.brd.len_le
  have hokx := hst.brd.okAll
  rw [if_pos rfl, decide_eq_true rfl] at HB
  obtain ⟨F, rfl⟩ := Int.eq_ofNat_of_zero_le h1
  obtain ⟨M, rfl⟩ := Int.eq_ofNat_of_zero_le h3
  have hF : F ≤ x.length := by omega
  have hM : F + M ≤ x.length := by omega
  have HT := hid (show tkn x (F : Int) (M : Int) = (x.drop F).take M from rfl)
  have hTl : ((x.drop F).take M).length = M := by rw [List.length_take, List.length_drop]; omega
  have HR := hid (fun (v : World) (A : Option Addr) (cap : Nat) (hb : BlsAt v v.heap.size A cap ((x.drop F).take M)) => show Calls Tryd.prog 57 #[.slice A M cap] v (fun e w' => e = .returned (.tuple #[.string (edS (tkn x (F : Int) (M : Int))), .bool (edO (tkn x (F : Int) (M : Int)))]) ∧ Below v.heap.size v w') by
    have h5 := c_l6Result A cap ((x.drop F).take M) v.heap.size v hb (Nat.le_refl _) (by omega) (fun b hb => hokx b (List.mem_of_mem_drop (List.mem_of_mem_take hb)))
    rw [hTl] at h5
    exact h5)
  have HC1 := hid (fun v => c_inRange (F : Int) 0 (x.length : Int) v)
  have HC2 := hid (fun v => c_inRange (M : Int) 0 ((x.length : Int) - (F : Int)) v)
  rw [decide_eq_true (show (0 : Int) ≤ (F : Int) ∧ (F : Int) ≤ (x.length : Int) by omega)] at HC1
  rw [decide_eq_true (show (0 : Int) ≤ (M : Int) ∧ (M : Int) ≤ (x.length : Int) - (F : Int) by omega)] at HC2
  have hsub : IntKind.i64.wrap ((x.length : Int) - (F : Int)) = (x.length : Int) - (F : Int) := IntWalk.i64_in _ (by omega)
  have hadd : IntKind.i64.wrap ((F : Int) + (M : Int)) = (F : Int) + (M : Int) := IntWalk.i64_in _ (by omega)
  clear hst h1 h2 h3 h4 hokx hf hn HT
  go_enter Tryd.func38, Tryd.ntmps38
  go_wp2_with fail
  refine (HB.out).mono ?_
  rintro e w1 ⟨v, rfl, hown, hb1⟩
  obtain ⟨A, q, rfl, hat, -⟩ := own_bls hown
  have hq := hat.1
  have hsl := cut2 A x.length q F (F + M) (by omega) (by omega)
  have hpt := hat.part F (F + M) q (by omega) hM (by omega) (Nat.le_refl _)
  rw [show F + M - F = M from by omega] at hsl hpt
  simp only [Int.natCast_add] at hsl
  obtain ⟨A', hA'⟩ : ∃ A', A' = (if q = F then A else A.map (·.add (F * 4))) := ⟨_, rfl⟩
  rw [← hA'] at hsl hpt
  have HPt := hid hpt
  clear hown hat hpt hA'
  go_wp2_with fail
  refine (HC1.out _).mono ?_
  rintro e w2 ⟨rfl, rfl⟩
  go_wp2_with fail
  refine (HC2.out _).mono ?_
  rintro e w2 ⟨rfl, rfl⟩
  go_wp2_with fail
  refine (HR.out _ _ _ HPt.out).mono ?_
  rintro e w2 ⟨rfl, hb2⟩
  go_wp2_with fail
  go_ret2
  exact ⟨rfl, hb1.trans (hb2.mono hb1.size)⟩

set_option maxHeartbeats 4000000 in
set_option maxRecDepth 100000 in
theorem c_sTake_no (S : ByteArray) (L : List UInt8) (x : List Bl) (c : Nat) (f n : Int) (w : World) (hS : S.size ≤ 1000000000000) (hL : L = S.data.toList) (hst : Stop L x c) (hf : -9223372036854775808 ≤ f ∧ f ≤ 9223372036854775807) (hn : -9223372036854775808 ≤ n ∧ n ≤ 9223372036854775807) (hok : ¬ tkOk x c f n) : Calls Tryd.prog 38 #[.string S, .int .i64 f, .int .i64 n] w fun e w' => e = .returned (.tuple #[.string ByteArray.empty, .bool false]) ∧ Below w.heap.size w w' := by
  have HB := hid (c_l5Blocks S L x c w hS hL hst)
  have hx40 := hst.brd.len_le
  by_cases h0 : c = 0
  · rw [if_pos h0, decide_eq_true h0] at HB
    have HC1 := hid (fun v => c_inRange f 0 (x.length : Int) v)
    by_cases h1 : 0 ≤ f ∧ f ≤ (x.length : Int)
    · have HC2 := hid (fun v => c_inRange n 0 ((x.length : Int) - f) v)
      rw [decide_eq_true h1] at HC1
      rw [decide_eq_false (fun h => hok ⟨h0, h1, h⟩)] at HC2
      have hsub : IntKind.i64.wrap ((x.length : Int) - f) = (x.length : Int) - f := IntWalk.i64_in _ (by omega)
      clear hst hok h0 h1
      go_enter Tryd.func38, Tryd.ntmps38
      go_wp2_with fail
      refine (HB.out).mono ?_
      rintro e w1 ⟨v, rfl, hown, hb1⟩
      obtain ⟨A, q, rfl, -, -⟩ := own_bls hown
      clear hown
      go_wp2_with fail
      refine (HC1.out _).mono ?_
      rintro e w2 ⟨rfl, rfl⟩
      go_wp2_with fail
      refine (HC2.out _).mono ?_
      rintro e w2 ⟨rfl, rfl⟩
      go_wp2_with fail
      go_ret2
      exact ⟨rfl, hb1⟩
    · rw [decide_eq_false h1] at HC1
      clear hst hok h0 h1
      go_enter Tryd.func38, Tryd.ntmps38
      go_wp2_with fail
      refine (HB.out).mono ?_
      rintro e w1 ⟨v, rfl, hown, hb1⟩
      obtain ⟨A, q, rfl, -, -⟩ := own_bls hown
      clear hown
      go_wp2_with fail
      refine (HC1.out _).mono ?_
      rintro e w2 ⟨rfl, rfl⟩
      go_wp2_with fail
      go_ret2
      exact ⟨rfl, hb1⟩
  · rw [decide_eq_false h0] at HB
    clear hst hok h0
    go_enter Tryd.func38, Tryd.ntmps38
    go_wp2_with fail
    refine (HB.out).mono ?_
    rintro e w1 ⟨v, rfl, hown, hb1⟩
    clear hown
    go_wp2_with fail
    go_ret2
    exact ⟨rfl, hb1⟩

set_option maxHeartbeats 4000000 in
set_option maxRecDepth 100000 in
theorem c_Take_yes (S : ByteArray) (L : List UInt8) (x : List Bl) (c : Nat) (f n : Int) (w : World) (hS : S.size ≤ 1000000000000) (hL : L = S.data.toList) (hst : Stop L x c) (hf : -9223372036854775808 ≤ f ∧ f ≤ 9223372036854775807) (hn : -9223372036854775808 ≤ n ∧ n ≤ 9223372036854775807) {a0 a1 a2 : Addr} (hG : Glob w a0 a1 a2) (hok : tkOk x c f n) : Calls Tryd.prog 39 #[.string S, .int .i64 f, .int .i64 n] w fun e w' => e = .returned (.tuple #[.string (edS (tkn x f n)), .bool (edO (tkn x f n))]) ∧ Below w.heap.size w w' := by
  obtain ⟨rfl, ⟨h1, h2⟩, h3, h4⟩ := hok
  have hx40 := hst.brd.len_le
  have hokx := hst.brd.okAll
  obtain ⟨F, rfl⟩ := Int.eq_ofNat_of_zero_le h1
  obtain ⟨M, rfl⟩ := Int.eq_ofNat_of_zero_le h3
  have hF : F ≤ x.length := by omega
  have hM : F + M ≤ x.length := by omega
  have hTl : ((x.drop F).take M).length = M := by rw [List.length_take, List.length_drop]; omega
  have HA := hid (c_rc_yes hS hL hst hG)
  have HCO := hid (fun (v : World) (eb : Nat) (cap : Nat) (P1 : Nat) (B1 : Option Addr) (hb : Below w.heap.size w v) (hE : EdsAt v v.heap.size eb 0 [⟨P1, B1, M, (x.drop F).take M⟩]) => show Calls Tryd.prog 59 #[.slice (some ⟨eb, 0, none⟩) 1 cap] v (fun e w' => e = .returned (.tuple #[.string (edS (tkn x (F : Int) (M : Int))), .bool (edO (tkn x (F : Int) (M : Int)))]) ∧ Below v.heap.size v w') by
    have h3 := c_containerOf eb 0 cap v.heap.size _ v hE (Nat.le_refl _) (by simp) (by
      intro e he
      simp at he
      subst he
      show ((x.drop F).take M).length ≤ 40
      omega) (by
      intro b hb
      simp [cat] at hb
      exact hokx b (List.mem_of_mem_drop (List.mem_of_mem_take hb))) (hG.lay.on hb)
    have hcat : cat [⟨P1, B1, M, (x.drop F).take M⟩] = tkn x (F : Int) (M : Int) := by simp [cat, tkn]
    rw [hcat] at h3
    exact h3)
  have hmf : ∀ (fn : Fn) (first cap : Array Value) (w : World), (Instr.makeFunc fn first cap).run Tryd.prog w = .ok (.func fn first cap) w := fun _ _ _ _ => rfl
  have hd1 : decide ((F : Int) < 0) = false := decide_eq_false (by omega)
  have hd2 : decide ((M : Int) < 0) = false := decide_eq_false (by omega)
  have hd3 : decide ((F : Int) > (x.length : Int)) = false := decide_eq_false (by omega)
  have hd4 : decide ((M : Int) > (x.length : Int) - (F : Int)) = false := decide_eq_false (by omega)
  have hsub : IntKind.i64.wrap ((x.length : Int) - (F : Int)) = (x.length : Int) - (F : Int) := IntWalk.i64_in _ (by omega)
  have hadd : IntKind.i64.wrap ((F : Int) + (M : Int)) = (F : Int) + (M : Int) := IntWalk.i64_in _ (by omega)
  clear hst hG h1 h2 h3 h4 hokx hf hn
  go_enter Tryd.func39, Tryd.ntmps39
  go_wp2_with fail
  refine (HA.out).mono ?_
  rintro e w1 ⟨A1, q1, A2, q2, rfl, o1, -, hb1⟩
  have hat := own_blsq o1
  have hq := hat.1
  have z1 := hb1.size
  clear o1
  have hRB := Blk.new w1 60 #[.slice none 0 0, .slice none 0 0, .int .i64 0, .int .i64 0]
  obtain ⟨r0, r1, r2, r3⟩ := hRB.cells4y
  have f0 := hRB.frozen 0
  have f1 := hRB.frozen 1
  have f2 := hRB.frozen 2
  have f3 := hRB.frozen 3
  clear hRB
  go_wp2_with fail
  clear r0 r1 r2 r3 f0 f1 f2 f3
  obtain ⟨V1, hV1⟩ : ∃ V1, V1 = w1.alloc (.cells #[.slice A1 x.length q1, .slice A2 (pls x).length q2, .int .i64 ((txt x).length : Nat), .int .i64 (zs x : Nat)] 60) := ⟨_, rfl⟩
  have hbV1 : Below w1.heap.size w1 V1 := by rw [hV1]; exact bel_alloc (Below.refl _ w1) _
  have X0 : Blk V1 w1.heap.size 60 #[.slice A1 x.length q1, .slice A2 (pls x).length q2, .int .i64 ((txt x).length : Nat), .int .i64 (zs x : Nat)] := by rw [hV1]; exact Blk.new w1 _ _
  rw [← hV1]
  have zV1 := hbV1.size
  have hbW := hb1.trans (hbV1.mono z1)
  have hat1 := hat.below hbV1 (Nat.le_refl _)
  have HK := c_keep w1.heap.size x.length q1 F (F + M) A1 _ _ _ V1 X0 (by omega) (by omega)
  rw [show F + M - F = M from by omega] at HK
  simp only [Int.natCast_add] at HK
  clear hV1 hb1 hat hbV1
  refine HK.mono ?_
  rintro e V2 ⟨rfl, hV2⟩
  have hb2 : Below V1.heap.size V1 V2 := by rw [hV2]; exact bel_alloc (Below.refl _ V1) _
  have P2 : Blk V2 V1.heap.size 37 #[.slice (keepA A1 F (F + M)) M M] := by rw [hV2]; exact Blk.new V1 _ _
  have hl2 := hid (Array.getElem?_eq_some_iff.1 P2).1
  clear hV2 X0 HK
  unfold keepV
  go_wp2_with fail
  obtain ⟨V4, hV4⟩ : ∃ V4, V4 = V2.alloc (.cells #[.func (.func 84) #[] #[.pointer (some ⟨V1.heap.size, 0, none⟩)]] 75) := ⟨_, rfl⟩
  have hb4 : Below V2.heap.size V2 V4 := by rw [hV4]; exact bel_alloc (Below.refl _ V2) _
  have P4 : Blk V4 V2.heap.size 75 #[.func (.func 84) #[] #[.pointer (some ⟨V1.heap.size, 0, none⟩)]] := by rw [hV4]; exact Blk.new V2 _ _
  have P24 := P2.below hb4 (by have := hl2.out; omega)
  have l4 := (Array.getElem?_eq_some_iff.1 P4).1
  have l24 := (Array.getElem?_eq_some_iff.1 P24).1
  have z2 := hb2.size
  have z4 := hb4.size
  rw [← hV4]
  have hb14 : Below w1.heap.size V1 V4 := (hb2.mono (by omega)).trans (hb4.mono (by omega))
  have hbW4 := hbW.trans (hb14.mono z1)
  have hx4 := ((hat1.below hb14 (Nat.le_refl _)).up (L' := V4.heap.size) (by omega)).part F (F + M) (F + M) (by omega) hM (Nat.le_refl _) (by omega)
  rw [show F + M - F = M from by omega] at hx4
  have hEd : EdsAt V4 V4.heap.size V2.heap.size 0 [⟨V1.heap.size, keepA A1 F (F + M), M, (x.drop F).take M⟩] := by
    refine ⟨l4, fun i e he => ?_⟩
    have hi := get_lt he
    simp at hi
    subst hi
    obtain rfl := Option.some.inj he
    refine ⟨P4.cell 0, ?_, l24, hx4⟩
    rw [hTl]
    exact P24.cell 0
  refine (HCO.out V4 V2.heap.size 1 _ _ hbW4 hEd).mono ?_
  rintro e w5 ⟨rfl, hb5⟩
  clear hEd P4 P24 hx4 hV4
  go_wp2_with fail
  go_ret2
  exact ⟨rfl, hbW4.trans (hb5.mono hbW4.size)⟩

set_option maxHeartbeats 4000000 in
set_option maxRecDepth 100000 in
theorem c_Take_no (S : ByteArray) (L : List UInt8) (x : List Bl) (c : Nat) (f n : Int) (w : World) (hS : S.size ≤ 1000000000000) (hL : L = S.data.toList) (hst : Stop L x c) (hf : -9223372036854775808 ≤ f ∧ f ≤ 9223372036854775807) (hn : -9223372036854775808 ≤ n ∧ n ≤ 9223372036854775807) {a0 a1 a2 : Addr} (hG : Glob w a0 a1 a2) (hok : ¬ tkOk x c f n) : Calls Tryd.prog 39 #[.string S, .int .i64 f, .int .i64 n] w fun e w' => e = .returned (.tuple #[.string ByteArray.empty, .bool false]) ∧ Below w.heap.size w w' := by
  have hx40 := hst.brd.len_le
  by_cases h0 : c = 0
  · subst h0
    have HA := hid (c_rc_yes hS hL hst hG)
    by_cases h1 : f < 0
    · have hd1 : decide (f < 0) = true := decide_eq_true h1
      clear hst hok hG
      go_enter Tryd.func39, Tryd.ntmps39
      go_wp2_with fail
      refine (HA.out).mono ?_
      rintro e w1 ⟨A1, q1, A2, q2, rfl, -, -, hb1⟩
      have hRB := Blk.new w1 60 #[.slice none 0 0, .slice none 0 0, .int .i64 0, .int .i64 0]
      obtain ⟨r0, r1, r2, r3⟩ := hRB.cells4y
      have f0 := hRB.frozen 0
      have f1 := hRB.frozen 1
      have f2 := hRB.frozen 2
      have f3 := hRB.frozen 3
      clear hRB
      go_wp2_with fail
      go_ret2
      exact ⟨rfl, by (repeat (first | with_reducible (first | assumption | exact Below.refl _ _ | refine bel_alloc ?_ _ | refine bel_drew ?_ | refine bel_drewN ?_ _ | refine bel_set ?_ (by first | omega | (simp; done) | (simp; omega)) _ | refine bel_trans ?_ (by assumption)) | assumption | refine bel_trans ?_ (by assumption)))⟩
    by_cases h2 : n < 0
    · have hd1 : decide (f < 0) = false := decide_eq_false h1
      have hd2 : decide (n < 0) = true := decide_eq_true h2
      clear hst hok hG
      go_enter Tryd.func39, Tryd.ntmps39
      go_wp2_with fail
      refine (HA.out).mono ?_
      rintro e w1 ⟨A1, q1, A2, q2, rfl, -, -, hb1⟩
      have hRB := Blk.new w1 60 #[.slice none 0 0, .slice none 0 0, .int .i64 0, .int .i64 0]
      obtain ⟨r0, r1, r2, r3⟩ := hRB.cells4y
      have f0 := hRB.frozen 0
      have f1 := hRB.frozen 1
      have f2 := hRB.frozen 2
      have f3 := hRB.frozen 3
      clear hRB
      go_wp2_with fail
      go_ret2
      exact ⟨rfl, by (repeat (first | with_reducible (first | assumption | exact Below.refl _ _ | refine bel_alloc ?_ _ | refine bel_drew ?_ | refine bel_drewN ?_ _ | refine bel_set ?_ (by first | omega | (simp; done) | (simp; omega)) _ | refine bel_trans ?_ (by assumption)) | assumption | refine bel_trans ?_ (by assumption)))⟩
    by_cases h3 : f > (x.length : Int)
    · have hd1 : decide (f < 0) = false := decide_eq_false h1
      have hd2 : decide (n < 0) = false := decide_eq_false h2
      have hd3 : decide ((x.length : Int) < f) = true := decide_eq_true h3
      clear hst hok hG
      go_enter Tryd.func39, Tryd.ntmps39
      go_wp2_with fail
      refine (HA.out).mono ?_
      rintro e w1 ⟨A1, q1, A2, q2, rfl, -, -, hb1⟩
      have hRB := Blk.new w1 60 #[.slice none 0 0, .slice none 0 0, .int .i64 0, .int .i64 0]
      obtain ⟨r0, r1, r2, r3⟩ := hRB.cells4y
      have f0 := hRB.frozen 0
      have f1 := hRB.frozen 1
      have f2 := hRB.frozen 2
      have f3 := hRB.frozen 3
      clear hRB
      go_wp2_with fail
      go_ret2
      exact ⟨rfl, by (repeat (first | with_reducible (first | assumption | exact Below.refl _ _ | refine bel_alloc ?_ _ | refine bel_drew ?_ | refine bel_drewN ?_ _ | refine bel_set ?_ (by first | omega | (simp; done) | (simp; omega)) _ | refine bel_trans ?_ (by assumption)) | assumption | refine bel_trans ?_ (by assumption)))⟩
    by_cases h4 : n > (x.length : Int) - f
    · have hd1 : decide (f < 0) = false := decide_eq_false h1
      have hd2 : decide (n < 0) = false := decide_eq_false h2
      have hd3 : decide ((x.length : Int) < f) = false := decide_eq_false h3
      have hsub : IntKind.i64.wrap ((x.length : Int) - f) = (x.length : Int) - f := IntWalk.i64_in _ (by omega)
      have hd4 : decide ((x.length : Int) - f < n) = true := decide_eq_true h4
      clear hst hok hG
      go_enter Tryd.func39, Tryd.ntmps39
      go_wp2_with fail
      refine (HA.out).mono ?_
      rintro e w1 ⟨A1, q1, A2, q2, rfl, -, -, hb1⟩
      have hRB := Blk.new w1 60 #[.slice none 0 0, .slice none 0 0, .int .i64 0, .int .i64 0]
      obtain ⟨r0, r1, r2, r3⟩ := hRB.cells4y
      have f0 := hRB.frozen 0
      have f1 := hRB.frozen 1
      have f2 := hRB.frozen 2
      have f3 := hRB.frozen 3
      clear hRB
      go_wp2_with fail
      go_ret2
      exact ⟨rfl, by (repeat (first | with_reducible (first | assumption | exact Below.refl _ _ | refine bel_alloc ?_ _ | refine bel_drew ?_ | refine bel_drewN ?_ _ | refine bel_set ?_ (by first | omega | (simp; done) | (simp; omega)) _ | refine bel_trans ?_ (by assumption)) | assumption | refine bel_trans ?_ (by assumption)))⟩
    exact absurd ⟨rfl, ⟨by omega, by omega⟩, by omega, by omega⟩ hok
  · have HA := hid (c_rc_no hS hL hst h0 hG)
    clear h0
    clear hst hok hG
    go_enter Tryd.func39, Tryd.ntmps39
    go_wp2_with fail
    refine (HA.out).mono ?_
    rintro e w1 ⟨xe, rfl, hb1⟩
    have hRB := Blk.new w1 60 #[.slice none 0 0, .slice none 0 0, .int .i64 0, .int .i64 0]
    obtain ⟨r0, r1, r2, r3⟩ := hRB.cells4y
    have f0 := hRB.frozen 0
    have f1 := hRB.frozen 1
    have f2 := hRB.frozen 2
    have f3 := hRB.frozen 3
    clear hRB
    go_wp2_with fail
    go_ret2
    exact ⟨rfl, by (repeat (first | with_reducible (first | assumption | exact Below.refl _ _ | refine bel_alloc ?_ _ | refine bel_drew ?_ | refine bel_drewN ?_ _ | refine bel_set ?_ (by first | omega | (simp; done) | (simp; omega)) _ | refine bel_trans ?_ (by assumption)) | assumption | refine bel_trans ?_ (by assumption)))⟩

theorem walk_FnExactTakeBlocks (S : ByteArray) (f n : Int) (w : World) (h_S : S.size ≤ maxLen) (hf : -9223372036854775808 ≤ f ∧ f ≤ 9223372036854775807) (hn : -9223372036854775808 ≤ n ∧ n ≤ 9223372036854775807) {a0 a1 a2 : Addr} (hG : Glob w a0 a1 a2) :
    Calls Tryd.prog 10 #[.string S, .int .i64 f, .int .i64 n] w fun e w' => e = .returned (.bool true) ∧ Below w.heap.size w w' := by
  by_cases big_S : 1048576 < S.size
  · unfold maxLen at *
    go_enter Tryd.func10, Tryd.ntmps10
    go_wp2_with fail
    go_ret
    exact ⟨rfl, by (repeat (first | with_reducible (first | assumption | exact Below.refl _ _ | refine bel_alloc ?_ _ | refine bel_drew ?_ | refine bel_drewN ?_ _ | refine bel_set ?_ (by first | omega | (simp; done) | (simp; omega)) _ | refine bel_trans ?_ (by assumption)) | assumption | refine bel_trans ?_ (by assumption)))⟩
  obtain ⟨x, c, hst⟩ := stop_ex S.data.toList
  have key : ∃ V q, (∀ v, Calls Tryd.prog 38 #[.string S, .int .i64 f, .int .i64 n] v fun e w' => e = .returned (.tuple #[.string V, .bool q]) ∧ Below v.heap.size v w') ∧ (∀ v, Glob v a0 a1 a2 → Calls Tryd.prog 39 #[.string S, .int .i64 f, .int .i64 n] v fun e w' => e = .returned (.tuple #[.string V, .bool q]) ∧ Below v.heap.size v w') := by
    by_cases h : tkOk x c f n
    · exact ⟨_, _, fun v => c_sTake_yes S _ x c f n v (by omega) rfl hst hf hn h, fun v hG => c_Take_yes S _ x c f n v (by omega) rfl hst hf hn hG h⟩
    · exact ⟨_, _, fun v => c_sTake_no S _ x c f n v (by omega) rfl hst hf hn h, fun v hG => c_Take_no S _ x c f n v (by omega) rfl hst hf hn hG h⟩
  obtain ⟨V, q, k1, k2⟩ := key
  have HS := hid k1
  have HI := hid k2
  have HG := hid hG
  clear hst hG k1 k2
  go_enter Tryd.func10, Tryd.ntmps10
  go_wp2_with fail
  refine (HS.out _).mono ?_
  rintro e w1 ⟨rfl, hb1⟩
  go_wp2_with fail
  refine (HI.out _ (HG.out.on hb1)).mono ?_
  rintro e w2 ⟨rfl, hb2⟩
  go_wp2_with fail
  go_ret
  exact ⟨by simp_all, by (repeat (first | with_reducible (first | assumption | exact Below.refl _ _ | refine bel_alloc ?_ _ | refine bel_drew ?_ | refine bel_drewN ?_ _ | refine bel_set ?_ (by first | omega | (simp; done) | (simp; omega)) _ | refine bel_trans ?_ (by assumption)) | assumption | refine bel_trans ?_ (by assumption)))⟩
end Go.Proofs.YtkglpbaapekgnaaDoor
