/- NextBlock in the program, and its law's walk. The layout of the header and the errors are as the program's text lays them. -/
import Derived.Test.YtepbjmpbcobfpaaDoorJf
import Derived.Test.YtepbjmpbcobfpaaDoorRn
import Derived.Test.YtepbjmpbcobfpaaDoorShelf
import Derived.Lib.IndexLaws
import Derived.WalkMore
import Derived.ScopeJumps
namespace Go.Proofs.YtepbjmpbcobfpaaDoor
open Go.ChangeShapes Go.WideShapes Go.ChangeAt Go.RowKit Go.Joins
set_option linter.unusedVariables false
set_option linter.unusedSimpArgs false

def spanOk (S : ByteArray) (i n : Int) : Prop := S.size ≤ 8000 ∧ 0 ≤ i ∧ 0 ≤ n ∧ i ≤ S.size ∧ n ≤ S.size - i
set_option maxHeartbeats 4000000 in
set_option maxRecDepth 100000 in
theorem c_hasSpan (S : ByteArray) (i n : Int) (w : World) (hS : S.size ≤ 1000000000000) : ∀ q : Bool, (q = true ↔ spanOk S i n) → Calls Tryd.prog 20 #[.string S, .int .i64 i, .int .i64 n] w (Same (.bool q) w) := by
  intro q hq
  by_cases h1 : S.size ≤ 8000
  · have hd1 : decide ((S.size : Int) ≤ 8000) = true := decide_eq_true (by omega)
    by_cases h2 : 0 ≤ i
    · have hd2 : decide (i ≥ 0) = true := decide_eq_true h2
      by_cases h3 : 0 ≤ n
      · have hd3 : decide (n ≥ 0) = true := decide_eq_true h3
        by_cases h4 : i ≤ (S.size : Int)
        · have hd4 : decide (i ≤ (S.size : Int)) = true := decide_eq_true h4
          have hsub : IntKind.i64.wrap ((S.size : Int) - i) = (S.size : Int) - i := IntWalk.i64_in _ (by omega)
          by_cases h5 : n ≤ (S.size : Int) - i
          · have hd5 : decide (n ≤ (S.size : Int) - i) = true := decide_eq_true h5
            obtain rfl : q = true := hq.2 ⟨h1, h2, h3, h4, h5⟩
            clear hq h1 h2 h3 h4 h5
            go_enter Tryd.func20, Tryd.ntmps20
            go_wp2_with fail
            go_ret
            exact ⟨rfl, rfl⟩
          · have hd5 : decide (n ≤ (S.size : Int) - i) = false := decide_eq_false h5
            obtain rfl : q = false := by cases q with | false => rfl | true => exact absurd (hq.1 rfl).2.2.2.2 h5
            clear hq h1 h2 h3 h4 h5
            go_enter Tryd.func20, Tryd.ntmps20
            go_wp2_with fail
            go_ret
            exact ⟨rfl, rfl⟩
        · have hd4 : decide (i ≤ (S.size : Int)) = false := decide_eq_false h4
          obtain rfl : q = false := by cases q with | false => rfl | true => exact absurd (hq.1 rfl).2.2.2.1 h4
          clear hq h1 h2 h3 h4
          go_enter Tryd.func20, Tryd.ntmps20
          go_wp2_with fail
          go_ret
          exact ⟨rfl, rfl⟩
      · have hd3 : decide (n ≥ 0) = false := decide_eq_false h3
        obtain rfl : q = false := by cases q with | false => rfl | true => exact absurd (hq.1 rfl).2.2.1 h3
        clear hq h1 h2 h3
        go_enter Tryd.func20, Tryd.ntmps20
        go_wp2_with fail
        go_ret
        exact ⟨rfl, rfl⟩
    · have hd2 : decide (i ≥ 0) = false := decide_eq_false h2
      obtain rfl : q = false := by cases q with | false => rfl | true => exact absurd (hq.1 rfl).2.1 h2
      clear hq h1 h2
      go_enter Tryd.func20, Tryd.ntmps20
      go_wp2_with fail
      go_ret
      exact ⟨rfl, rfl⟩
  · have hd1 : decide ((S.size : Int) ≤ 8000) = false := decide_eq_false (by omega)
    obtain rfl : q = false := by cases q with | false => rfl | true => exact absurd (hq.1 rfl).1 h1
    clear hq h1
    go_enter Tryd.func20, Tryd.ntmps20
    go_wp2_with fail
    go_ret
    exact ⟨rfl, rfl⟩

theorem mark_find {L : List UInt8} {k : Nat} {r : Option Nat} (h : NextIs L k r) : (Lib.indexByte (L.drop k) 181 = -1 ∧ r = none) ∨ ∃ j : Nat, Lib.indexByte (L.drop k) 181 = (j : Int) ∧ k + j < L.length ∧ NextIs L (k + j) r := by
  have hge := Lib.indexByte_ge (L.drop k) 181
  by_cases h1 : Lib.indexByte (L.drop k) 181 = -1
  · refine Or.inl ⟨h1, ?_⟩
    have hn := Lib.indexByte_none h1
    by_cases hk : k ≤ L.length
    · exact (h.ahead hk (fun A a1 a2 => no_mark (by
        have := hn (A - k)
        rw [List.getElem?_drop, show k + (A - k) = A from by omega] at this
        exact this))).past (Nat.le_refl _)
    · exact h.past (by omega)
  · obtain ⟨o, ho⟩ := Int.eq_ofNat_of_zero_le (show 0 ≤ Lib.indexByte (L.drop k) 181 by omega)
    obtain ⟨h2, h3⟩ := Lib.indexByte_some ho
    rw [List.getElem?_drop] at h2
    have hlt := get_lt h2
    exact Or.inr ⟨o, ho, hlt, h.ahead (by omega) (fun A a1 a2 => no_mark (by
      have := h3 (A - k) (by omega)
      rw [List.getElem?_drop, show k + (A - k) = A from by omega] at this
      exact this))⟩
/-- what scan hands back -/
def scV (L : List UInt8) : Option Nat → Value
  | some s => match parse (L.drop s) with
    | some b => .tuple #[.agg #[.int .i64 (s : Int), .int .i64 b.n, .bool b.raw, .int .i64 b.z, .string b.body], .int .i64 ((s : Int) + 10 + b.body.size), .bool true]
    | none => undef
  | none => .tuple #[.agg #[.int .i64 0, .int .i64 0, .bool false, .int .i64 0, .string ByteArray.empty], .int .i64 0, .bool false]
theorem dr_from {P : Program} {t : TypeId} (ht : P.underlying t = some .string) (S : ByteArray) (k : Nat) (h : k ≤ S.size) (w : World) : (Instr.slice t (.string S) (some (.int .i64 (k : Int))) none none).run P w = .ok (.string (dr S k)) w := by
  rw [run_slice_string_l w t S ht .i64 k (by omega) (by omega)]; rfl
theorem Blk.cells5 {w : World} {g : Nat} {t : TypeId} {a b c d e : Value} (h : Blk w g t #[a, b, c, d, e]) : w.cell? ⟨g, 0, none⟩ = some a ∧ w.cell? ⟨g, 1, none⟩ = some b ∧ w.cell? ⟨g, 2, none⟩ = some c ∧ w.cell? ⟨g, 3, none⟩ = some d ∧ w.cell? ⟨g, 4, none⟩ = some e := ⟨h.cell 0, h.cell 1, h.cell 2, h.cell 3, h.cell 4⟩
theorem Blk.put5 {w : World} {g : Nat} {t : TypeId} {a b c d e : Value} (h : Blk w g t #[a, b, c, d, e]) (a' b' c' d' e' : Value) : Blk (((((w.setCell ⟨g, 0, none⟩ a').setCell ⟨g, 1, none⟩ b').setCell ⟨g, 2, none⟩ c').setCell ⟨g, 3, none⟩ d').setCell ⟨g, 4, none⟩ e') g t #[a', b', c', d', e'] :=
  ((((h.set_ 0 a').set_ 1 b').set_ 2 c').set_ 3 d').set_ 4 e'
theorem bel_set5 {G : Nat} {w0 w : World} (h : Below w0.heap.size w0 w) (hG : w0.heap.size ≤ G) (x0 x1 x2 x3 x4 : Value) : Below w0.heap.size w0 (((((w.setCell ⟨G, 0, none⟩ x0).setCell ⟨G, 1, none⟩ x1).setCell ⟨G, 2, none⟩ x2).setCell ⟨G, 3, none⟩ x3).setCell ⟨G, 4, none⟩ x4) :=
  bel_set (bel_set (bel_set (bel_set (bel_set h hG _) hG _) hG _) hG _) hG _

set_option maxHeartbeats 4000000 in
set_option maxRecDepth 100000 in
theorem c_scan (S : ByteArray) (L : List UInt8) (i : Nat) (r : Option Nat) (w : World) (a0 a1 a2 : Addr) (hS : S.size ≤ 8000) (hL : L = S.data.toList) (hi : i ≤ S.size) (h : NextIs L i r) (hG : Glob0 w a0) : Calls Tryd.prog 21 #[.string S, .int .i64 (i : Int)] w fun e w' => e = .returned (scV L r) ∧ Below w.heap.size w w' := by
  have HLL := hid hL
  have HLl := hid (show L.length = S.size by rw [hL]; simp)
  have HS := hid (fun (k : Nat) (b : Bl) (v : World) (hk : k ≤ S.size) (hp : parse (L.drop k) = some b) (hG : Glob0 v a0) => c_RB0_some S k (L.drop k) b v a0 a1 a2 (by omega) hk (by rw [hL]) hG hp)
  have HN := hid (fun (k : Nat) (v : World) (hk : k ≤ S.size) (hp : parse (L.drop k) = none) (hG : Glob0 v a0) => c_RB0_none S k (L.drop k) v a0 a1 a2 (by omega) hk (by rw [hL]) hG hp)
  unfold noBl errV at HN
  have HI := hid h
  have HG := hid hG
  have HX := hid (Blk.new w 40 #[.int .i64 0, .int .i64 0, .bool false, .int .i64 0, .string ByteArray.empty])
  have hbW : Below w.heap.size w (w.alloc (.cells #[.int .i64 0, .int .i64 0, .bool false, .int .i64 0, .string ByteArray.empty] 40)) := bel_alloc (Below.refl _ w) _
  have hzW : (w.alloc (.cells #[.int .i64 0, .int .i64 0, .bool false, .int .i64 0, .string ByteArray.empty] 40)).heap.size = w.heap.size + 1 := World.size_alloc _ _
  obtain ⟨W, hW⟩ : ∃ W, W = w.alloc (.cells #[.int .i64 0, .int .i64 0, .bool false, .int .i64 0, .string ByteArray.empty] 40) := ⟨_, rfl⟩
  rw [← hW] at HX hbW hzW
  have hlW : w.heap.size < W.heap.size := by omega
  have HW := hid hW
  clear h hL hG hzW hW
  go_enter Tryd.func21, Tryd.ntmps21
  go_wp2_with fail
  have hWs : w.alloc (.cells #[.int .i64 0, .int .i64 0, .bool false, .int .i64 0, .string ⟨#[]⟩] 40) = W := HW.out.symm
  rw [hWs]
  clear hWs
  refine wp_scope_jumps 0 (fun a' w' => ∃ (k : Nat) (u7 u8 u9 u10 u11 u12 u13 u14 u15 u16 u17 u18 u19 u20 u21 u22 u23 u24 u25 u26 u27 u28 u29 u30 u31 : Value), a' = { tmps := #[.string S, .int .i64 (k : Int), undef, undef, .pointer (some ⟨w.heap.size, 0, none⟩), .int .i64 0, .bool false, u7, u8, u9, u10, u11, u12, u13, u14, u15, u16, u17, u18, u19, u20, u21, u22, u23, u24, u25, u26, u27, u28, u29, u30, u31, undef, undef, undef, undef], defers := [] } ∧ k ≤ S.size ∧ Hid (NextIs L k r) ∧ Below W.heap.size W w') (fun a' _ => S.size - (intOf (a'.tmps.getD 1 undef)).toNat) rfl ?_ ?_
  · have hk := hi
    have HK := HI
    have hbl := Below.refl W.heap.size W
    have X0 := HX.out.below hbl (by omega)
    obtain ⟨e0, e1, e2, e3, e4⟩ := X0.cells5
    have n0 := X0.frozen 0
    have n1 := X0.frozen 1
    have n2 := X0.frozen 2
    have n3 := X0.frozen 3
    have n4 := X0.frozen 4
    have hz := hbl.size
    have hsl := dr_from (P := Tryd.prog) Tryd.underlying9 S i hk
    have HIx := hid (fun (v : World) => Tryd.strings_IndexByte (dr S i) 181 v)
    rw [dr_list, ← HLL.out] at HIx
    have h181 : (181 : Int).toNat.toUInt8 = 181 := rfl
    rw [h181] at HIx
    clear h181
    have hWl := hbW.trans (hbl.mono hbW.size)
    rcases mark_find HK.out with ⟨hv, hr⟩ | ⟨j, hv, hj, hnx⟩
    · rw [hv] at HIx
      have HR := hid hr
      have HX1 := hid X0
      clear hr hv X0
      go_wp2_with fail
      go_step3
      go_wp2_with fail
      refine (HIx.out _).mono ?_
      rintro e w9 ⟨rfl, hw9⟩
      rw [hw9]
      clear hw9
      go_wp2_with fail
      obtain ⟨Wz, hWz⟩ : ∃ Wz, Wz = ((((W.setCell ⟨w.heap.size, 0, none⟩ (.int .i64 0)).setCell ⟨w.heap.size, 1, none⟩ (.int .i64 0)).setCell ⟨w.heap.size, 2, none⟩ (.bool false)).setCell ⟨w.heap.size, 3, none⟩ (.int .i64 0)).setCell ⟨w.heap.size, 4, none⟩ (.string ⟨#[]⟩) := ⟨_, rfl⟩
      have K0 : Blk Wz w.heap.size 40 #[.int .i64 0, .int .i64 0, .bool false, .int .i64 0, .string ByteArray.empty] := by rw [hWz]; exact HX1.out.put5 _ _ _ _ _
      have KB : Below w.heap.size w Wz := by rw [hWz]; exact bel_set5 hWl (Nat.le_refl _) _ _ _ _ _
      rw [← hWz]
      clear hWz e0 e1 e2 e3 e4 n0 n1 n2 n3 n4
      obtain ⟨z0, z1, z2, z3, z4⟩ := K0.cells5
      simp only [Exit.jump]
      exact bodyPost_ret (v := .tuple #[.agg #[.int .i64 0, .int .i64 0, .bool false, .int .i64 0, .string ByteArray.empty], .int .i64 0, .bool false]) (by simp [results, Tryd.results21, go_sem, z0, z1, z2, z3, z4]) rfl ⟨by rw [HR.out]; rfl, KB⟩
    · rw [hv] at HIx
      have HJ := hid hnx
      have hjS : i + j < S.size := by have := HLl.out; omega
      cases hp : parse (L.drop (i + j)) with
      | none =>
        have HC := hid (HN.out (i + j) W (by omega) hp (HG.out.on hWl))
        have HK2 := hid (HJ.out.step hp)
        have hcast : (i : Int) + (j : Int) + 1 = ((i + j + 1 : Nat) : Int) := by omega
        have Hcast := hid hcast
        clear hcast hv hnx hp X0 e0 e1 e2 e3 e4 n0 n1 n2 n3 n4 hj
        go_wp2_with fail
        go_step3
        go_wp2_with fail
        refine (HIx.out _).mono ?_
        rintro e w9 ⟨rfl, hw9⟩
        rw [hw9]
        clear hw9
        go_wp2_with fail
        refine (HC.out).mono ?_
        rintro e w3 ⟨rfl, hb3⟩
        have hRB := Blk.new w3 35 #[.int .i64 0, .bool false, .int .i64 0, .string ByteArray.empty]
        obtain ⟨r0, r1, r2, r3⟩ := hRB.cells4y
        have f0 := hRB.frozen 0
        have f1 := hRB.frozen 1
        have f2 := hRB.frozen 2
        have f3 := hRB.frozen 3
        have hbl2 := hbl.trans (hb3.mono hz)
        clear hRB hb3
        go_wp2_with fail
        go_step3
        go_wp2_with fail
        simp only [Exit.jump, true_and]
        rw [Hcast.out]
        exact ⟨_, ⟨_, _, _, _, _, _, _, _, _, _, _, _, _, _, _, _, _, _, _, _, _, _, _, _, _, rfl⟩, by omega, HK2, by (repeat (first | with_reducible (first | assumption | exact Below.refl _ _ | refine bel_alloc ?_ _ | refine bel_drew ?_ | refine bel_drewN ?_ _ | refine bel_set ?_ (by first | omega | (simp; done) | (simp; omega)) _ | refine bel_trans ?_ (by assumption)) | assumption | refine bel_trans ?_ (by assumption)))⟩
      | some b =>
        have HC := hid (HS.out (i + j) b W (by omega) hp (HG.out.on hWl))
        have hr := HJ.out.hit (by have := HLl.out; omega) hp
        have HV := hid (show scV L r = .tuple #[.agg #[.int .i64 ((i + j : Nat) : Int), .int .i64 b.n, .bool b.raw, .int .i64 b.z, .string b.body], .int .i64 (((i + j : Nat) : Int) + 10 + b.body.size), .bool true] by rw [hr]; simp only [scV, hp])
        have HX1 := hid X0
        clear hv hnx hp X0 hj hr e0 e1 e2 e3 e4 n0 n1 n2 n3 n4
        go_wp2_with fail
        go_step3
        go_wp2_with fail
        refine (HIx.out _).mono ?_
        rintro e w9 ⟨rfl, hw9⟩
        rw [hw9]
        clear hw9
        go_wp2_with fail
        refine (HC.out).mono ?_
        rintro e w3 ⟨rfl, hb3⟩
        have hRB := Blk.new w3 35 #[.int .i64 0, .bool false, .int .i64 0, .string ByteArray.empty]
        obtain ⟨r0, r1, r2, r3⟩ := hRB.cells4y
        have f0 := hRB.frozen 0
        have f1 := hRB.frozen 1
        have f2 := hRB.frozen 2
        have f3 := hRB.frozen 3
        have hne : ¬ (w.heap.size = w3.heap.size) := by have := hb3.size; omega
        have hW3 := hWl.trans (hb3.mono hWl.size)
        have Y0 := (HX1.out.below hb3 (by omega)).alloc (.cells #[.int .i64 b.n, .bool b.raw, .int .i64 b.z, .string b.body] 35)
        have HY0 := hid Y0
        obtain ⟨e0, e1, e2, e3, e4⟩ := Y0.cells5
        have n0 := Y0.frozen 0
        have n1 := Y0.frozen 1
        have n2 := Y0.frozen 2
        have n3 := Y0.frozen 3
        have n4 := Y0.frozen 4
        clear hRB hb3 Y0
        go_wp2_with fail
        obtain ⟨Wz, hWz⟩ : ∃ Wz, Wz = (((((w3.alloc (.cells #[.int .i64 b.n, .bool b.raw, .int .i64 b.z, .string b.body] 35)).setCell ⟨w.heap.size, 0, none⟩ (.int .i64 ((i : Int) + (j : Int)))).setCell ⟨w.heap.size, 1, none⟩ (.int .i64 b.n)).setCell ⟨w.heap.size, 2, none⟩ (.bool b.raw)).setCell ⟨w.heap.size, 3, none⟩ (.int .i64 b.z)).setCell ⟨w.heap.size, 4, none⟩ (.string b.body) := ⟨_, rfl⟩
        have K0 : Blk Wz w.heap.size 40 #[.int .i64 ((i : Int) + (j : Int)), .int .i64 b.n, .bool b.raw, .int .i64 b.z, .string b.body] := by rw [hWz]; exact HY0.out.put5 _ _ _ _ _
        have KB : Below w.heap.size w Wz := by rw [hWz]; exact bel_set5 (bel_alloc hW3 _) (Nat.le_refl _) _ _ _ _ _
        rw [← hWz]
        clear hWz e0 e1 e2 e3 e4 n0 n1 n2 n3 n4 r0 r1 r2 r3 f0 f1 f2 f3
        obtain ⟨z0, z1, z2, z3, z4⟩ := K0.cells5
        simp only [Exit.jump]
        exact bodyPost_ret (v := .tuple #[.agg #[.int .i64 ((i : Int) + (j : Int)), .int .i64 b.n, .bool b.raw, .int .i64 b.z, .string b.body], .int .i64 ((i : Int) + (j : Int) + 10 + b.body.size), .bool true]) (by simp [results, Tryd.results21, go_sem, z0, z1, z2, z3, z4]) rfl ⟨by rw [HV.out]; rfl, KB⟩
  · rintro a' w2 ⟨k, u7, u8, u9, u10, u11, u12, u13, u14, u15, u16, u17, u18, u19, u20, u21, u22, u23, u24, u25, u26, u27, u28, u29, u30, u31, rfl, hk, HK, hbl⟩
    have X0 := HX.out.below hbl (by omega)
    obtain ⟨e0, e1, e2, e3, e4⟩ := X0.cells5
    have n0 := X0.frozen 0
    have n1 := X0.frozen 1
    have n2 := X0.frozen 2
    have n3 := X0.frozen 3
    have n4 := X0.frozen 4
    have hz := hbl.size
    have hsl := dr_from (P := Tryd.prog) Tryd.underlying9 S k hk
    have HIx := hid (fun (v : World) => Tryd.strings_IndexByte (dr S k) 181 v)
    rw [dr_list, ← HLL.out] at HIx
    have h181 : (181 : Int).toNat.toUInt8 = 181 := rfl
    rw [h181] at HIx
    clear h181
    have hWl := hbW.trans (hbl.mono hbW.size)
    rcases mark_find HK.out with ⟨hv, hr⟩ | ⟨j, hv, hj, hnx⟩
    · rw [hv] at HIx
      have HR := hid hr
      have HX1 := hid X0
      clear hr hv X0
      go_wp2_with fail
      refine (HIx.out _).mono ?_
      rintro e w9 ⟨rfl, hw9⟩
      rw [hw9]
      clear hw9
      go_wp2_with fail
      obtain ⟨Wz, hWz⟩ : ∃ Wz, Wz = ((((w2.setCell ⟨w.heap.size, 0, none⟩ (.int .i64 0)).setCell ⟨w.heap.size, 1, none⟩ (.int .i64 0)).setCell ⟨w.heap.size, 2, none⟩ (.bool false)).setCell ⟨w.heap.size, 3, none⟩ (.int .i64 0)).setCell ⟨w.heap.size, 4, none⟩ (.string ⟨#[]⟩) := ⟨_, rfl⟩
      have K0 : Blk Wz w.heap.size 40 #[.int .i64 0, .int .i64 0, .bool false, .int .i64 0, .string ByteArray.empty] := by rw [hWz]; exact HX1.out.put5 _ _ _ _ _
      have KB : Below w.heap.size w Wz := by rw [hWz]; exact bel_set5 hWl (Nat.le_refl _) _ _ _ _ _
      rw [← hWz]
      clear hWz e0 e1 e2 e3 e4 n0 n1 n2 n3 n4
      obtain ⟨z0, z1, z2, z3, z4⟩ := K0.cells5
      simp only [Exit.jump]
      exact bodyPost_ret (v := .tuple #[.agg #[.int .i64 0, .int .i64 0, .bool false, .int .i64 0, .string ByteArray.empty], .int .i64 0, .bool false]) (by simp [results, Tryd.results21, go_sem, z0, z1, z2, z3, z4]) rfl ⟨by rw [HR.out]; rfl, KB⟩
    · rw [hv] at HIx
      have HJ := hid hnx
      have hjS : k + j < S.size := by have := HLl.out; omega
      cases hp : parse (L.drop (k + j)) with
      | none =>
        have HC := hid (HN.out (k + j) w2 (by omega) hp (HG.out.on hWl))
        have HK2 := hid (HJ.out.step hp)
        have hcast : (k : Int) + (j : Int) + 1 = ((k + j + 1 : Nat) : Int) := by omega
        have Hcast := hid hcast
        clear hcast hv hnx hp X0 e0 e1 e2 e3 e4 n0 n1 n2 n3 n4 hj
        go_wp2_with fail
        refine (HIx.out _).mono ?_
        rintro e w9 ⟨rfl, hw9⟩
        rw [hw9]
        clear hw9
        go_wp2_with fail
        refine (HC.out).mono ?_
        rintro e w3 ⟨rfl, hb3⟩
        have hRB := Blk.new w3 35 #[.int .i64 0, .bool false, .int .i64 0, .string ByteArray.empty]
        obtain ⟨r0, r1, r2, r3⟩ := hRB.cells4y
        have f0 := hRB.frozen 0
        have f1 := hRB.frozen 1
        have f2 := hRB.frozen 2
        have f3 := hRB.frozen 3
        have hbl2 := hbl.trans (hb3.mono hz)
        clear hRB hb3
        go_wp2_with fail
        go_step3
        go_wp2_with fail
        simp only [Exit.jump, true_and]
        rw [Hcast.out]
        refine ⟨⟨k + j + 1, ⟨_, _, _, _, _, _, _, _, _, _, _, _, _, _, _, _, _, _, _, _, _, _, _, _, _, rfl⟩, by omega, HK2, by (repeat (first | with_reducible (first | assumption | exact Below.refl _ _ | refine bel_alloc ?_ _ | refine bel_drew ?_ | refine bel_drewN ?_ _ | refine bel_set ?_ (by first | omega | (simp; done) | (simp; omega)) _ | refine bel_trans ?_ (by assumption)) | assumption | refine bel_trans ?_ (by assumption)))⟩, ?_⟩
        simp [intOf]
        omega
      | some b =>
        have HC := hid (HS.out (k + j) b w2 (by omega) hp (HG.out.on hWl))
        have hr := HJ.out.hit (by have := HLl.out; omega) hp
        have HV := hid (show scV L r = .tuple #[.agg #[.int .i64 ((k + j : Nat) : Int), .int .i64 b.n, .bool b.raw, .int .i64 b.z, .string b.body], .int .i64 (((k + j : Nat) : Int) + 10 + b.body.size), .bool true] by rw [hr]; simp only [scV, hp])
        have HX1 := hid X0
        clear hv hnx hp X0 hj hr e0 e1 e2 e3 e4 n0 n1 n2 n3 n4
        go_wp2_with fail
        refine (HIx.out _).mono ?_
        rintro e w9 ⟨rfl, hw9⟩
        rw [hw9]
        clear hw9
        go_wp2_with fail
        refine (HC.out).mono ?_
        rintro e w3 ⟨rfl, hb3⟩
        have hRB := Blk.new w3 35 #[.int .i64 0, .bool false, .int .i64 0, .string ByteArray.empty]
        obtain ⟨r0, r1, r2, r3⟩ := hRB.cells4y
        have f0 := hRB.frozen 0
        have f1 := hRB.frozen 1
        have f2 := hRB.frozen 2
        have f3 := hRB.frozen 3
        have hne : ¬ (w.heap.size = w3.heap.size) := by have := hb3.size; omega
        have hW3 := hWl.trans (hb3.mono hWl.size)
        have Y0 := (HX1.out.below hb3 (by omega)).alloc (.cells #[.int .i64 b.n, .bool b.raw, .int .i64 b.z, .string b.body] 35)
        have HY0 := hid Y0
        obtain ⟨e0, e1, e2, e3, e4⟩ := Y0.cells5
        have n0 := Y0.frozen 0
        have n1 := Y0.frozen 1
        have n2 := Y0.frozen 2
        have n3 := Y0.frozen 3
        have n4 := Y0.frozen 4
        clear hRB hb3 Y0
        go_wp2_with fail
        obtain ⟨Wz, hWz⟩ : ∃ Wz, Wz = (((((w3.alloc (.cells #[.int .i64 b.n, .bool b.raw, .int .i64 b.z, .string b.body] 35)).setCell ⟨w.heap.size, 0, none⟩ (.int .i64 ((k : Int) + (j : Int)))).setCell ⟨w.heap.size, 1, none⟩ (.int .i64 b.n)).setCell ⟨w.heap.size, 2, none⟩ (.bool b.raw)).setCell ⟨w.heap.size, 3, none⟩ (.int .i64 b.z)).setCell ⟨w.heap.size, 4, none⟩ (.string b.body) := ⟨_, rfl⟩
        have K0 : Blk Wz w.heap.size 40 #[.int .i64 ((k : Int) + (j : Int)), .int .i64 b.n, .bool b.raw, .int .i64 b.z, .string b.body] := by rw [hWz]; exact HY0.out.put5 _ _ _ _ _
        have KB : Below w.heap.size w Wz := by rw [hWz]; exact bel_set5 (bel_alloc hW3 _) (Nat.le_refl _) _ _ _ _ _
        rw [← hWz]
        clear hWz e0 e1 e2 e3 e4 n0 n1 n2 n3 n4 r0 r1 r2 r3 f0 f1 f2 f3
        obtain ⟨z0, z1, z2, z3, z4⟩ := K0.cells5
        simp only [Exit.jump]
        exact bodyPost_ret (v := .tuple #[.agg #[.int .i64 ((k : Int) + (j : Int)), .int .i64 b.n, .bool b.raw, .int .i64 b.z, .string b.body], .int .i64 ((k : Int) + (j : Int) + 10 + b.body.size), .bool true]) (by simp [results, Tryd.results21, go_sem, z0, z1, z2, z3, z4]) rfl ⟨by rw [HV.out]; rfl, KB⟩

set_option maxHeartbeats 4000000 in
set_option maxRecDepth 100000 in
theorem c_NextBlock_no (S : ByteArray) (i : Int) (w : World) (hS : S.size ≤ 1000000000000) (h : ¬ (S.size ≤ 8000 ∧ 0 ≤ i ∧ i ≤ S.size)) : Calls Tryd.prog 7 #[.string S, .int .i64 i] w fun e w' => e = .returned (.int .i64 (-1)) ∧ Below w.heap.size w w' := by
  have HM := hid (c_hasSpan S i 0 w hS false ⟨fun e => absurd e (by simp), fun hs => absurd ⟨hs.1, hs.2.1, hs.2.2.2.1⟩ h⟩)
  clear h
  go_enter Tryd.func7, Tryd.ntmps7
  go_wp2_with fail
  refine (HM.out).mono ?_
  rintro e w1 ⟨rfl, rfl⟩
  go_wp2_with fail
  go_ret
  exact ⟨rfl, Below.refl _ _⟩

set_option maxHeartbeats 4000000 in
set_option maxRecDepth 100000 in
theorem c_NextBlock_yes (S : ByteArray) (L : List UInt8) (i : Nat) (r : Option Nat) (w : World) (a0 a1 a2 : Addr) (hS : S.size ≤ 8000) (hL : L = S.data.toList) (hi : i ≤ S.size) (h : NextIs L i r) (hG : Glob0 w a0) : Calls Tryd.prog 7 #[.string S, .int .i64 (i : Int)] w fun e w' => e = .returned (.int .i64 (nbV r)) ∧ Below w.heap.size w w' := by
  have HM := hid (c_hasSpan S (i : Int) 0 w (by omega) true ⟨fun _ => ⟨hS, by omega, by omega, by omega, by omega⟩, fun _ => rfl⟩)
  cases r with
  | none =>
    rw [show nbV none = -1 from rfl]
    have HC := hid (c_scan S L i _ w a0 a1 a2 hS hL hi h hG)
    rw [show scV L none = .tuple #[.agg #[.int .i64 0, .int .i64 0, .bool false, .int .i64 0, .string ByteArray.empty], .int .i64 0, .bool false] from rfl] at HC
    clear h hG
    go_enter Tryd.func7, Tryd.ntmps7
    go_wp2_with fail
    refine (HM.out).mono ?_
    rintro e w1 ⟨rfl, rfl⟩
    go_wp2_with fail
    refine (HC.out).mono ?_
    rintro e w1 ⟨rfl, hb1⟩
    have hRB := Blk.new w1 40 #[.int .i64 0, .int .i64 0, .bool false, .int .i64 0, .string ByteArray.empty]
    obtain ⟨r0, r1, r2, r3, r4⟩ := hRB.cells5
    have f0 := hRB.frozen 0
    have f1 := hRB.frozen 1
    have f2 := hRB.frozen 2
    have f3 := hRB.frozen 3
    have f4 := hRB.frozen 4
    clear hRB
    go_wp2_with fail
    go_ret
    exact ⟨rfl, by (repeat (first | with_reducible (first | assumption | exact Below.refl _ _ | refine bel_alloc ?_ _ | refine bel_drew ?_ | refine bel_drewN ?_ _ | refine bel_set ?_ (by first | omega | (simp; done) | (simp; omega)) _ | refine bel_trans ?_ (by assumption)) | assumption | refine bel_trans ?_ (by assumption)))⟩
  | some s =>
    have hps := (h.2 s rfl).2.2
    obtain ⟨b, hb⟩ : ∃ b, parse (L.drop s) = some b := by
      cases hq : parse (L.drop s) with
      | none => exact absurd hq hps
      | some b => exact ⟨b, rfl⟩
    rw [show nbV (some s) = (s : Int) from rfl]
    have HC := hid (c_scan S L i _ w a0 a1 a2 hS hL hi h hG)
    rw [show scV L (some s) = .tuple #[.agg #[.int .i64 (s : Int), .int .i64 b.n, .bool b.raw, .int .i64 b.z, .string b.body], .int .i64 ((s : Int) + 10 + b.body.size), .bool true] by simp only [scV, hb]] at HC
    clear hps hb
    clear h hG
    go_enter Tryd.func7, Tryd.ntmps7
    go_wp2_with fail
    refine (HM.out).mono ?_
    rintro e w1 ⟨rfl, rfl⟩
    go_wp2_with fail
    refine (HC.out).mono ?_
    rintro e w1 ⟨rfl, hb1⟩
    have hRB := Blk.new w1 40 #[.int .i64 0, .int .i64 0, .bool false, .int .i64 0, .string ByteArray.empty]
    obtain ⟨r0, r1, r2, r3, r4⟩ := hRB.cells5
    have f0 := hRB.frozen 0
    have f1 := hRB.frozen 1
    have f2 := hRB.frozen 2
    have f3 := hRB.frozen 3
    have f4 := hRB.frozen 4
    clear hRB
    go_wp2_with fail
    go_ret
    exact ⟨rfl, by (repeat (first | with_reducible (first | assumption | exact Below.refl _ _ | refine bel_alloc ?_ _ | refine bel_drew ?_ | refine bel_drewN ?_ _ | refine bel_set ?_ (by first | omega | (simp; done) | (simp; omega)) _ | refine bel_trans ?_ (by assumption)) | assumption | refine bel_trans ?_ (by assumption)))⟩

theorem walk_FnExactNextBlock (S : ByteArray) (x : Int) (w : World) (h_S : S.size ≤ maxLen) (h_x : -9223372036854775808 ≤ x ∧ x ≤ 9223372036854775807) {a0 : Addr} (hG : Glob0 w a0) :
    Calls Tryd.prog 3 #[.string S, .int .i64 x] w fun e w' => e = .returned (.bool true) ∧ Below w.heap.size w w' := by
  by_cases big : 1048576 < S.size
  · unfold maxLen at *
    go_enter Tryd.func3, Tryd.ntmps3
    go_wp2_with fail
    go_ret
    exact ⟨rfl, by (repeat (first | with_reducible (first | assumption | exact Below.refl _ _ | refine bel_alloc ?_ _ | refine bel_drew ?_ | refine bel_drewN ?_ _ | refine bel_set ?_ (by first | omega | (simp; done) | (simp; omega)) _ | refine bel_trans ?_ (by assumption)) | assumption | refine bel_trans ?_ (by assumption)))⟩
  have key : ∃ V : Int, (∀ v, Calls Tryd.prog 6 #[.string S, .int .i64 x] v fun e w' => e = .returned (.int .i64 V) ∧ Below v.heap.size v w') ∧ (∀ v, Glob0 v a0 → Calls Tryd.prog 7 #[.string S, .int .i64 x] v fun e w' => e = .returned (.int .i64 V) ∧ Below v.heap.size v w') := by
    by_cases h1 : S.size ≤ 8000 ∧ 0 ≤ x
    · obtain ⟨n, rfl⟩ := Int.eq_ofNat_of_zero_le h1.2
      obtain ⟨r, hr⟩ := next_ex S.data.toList _ n (Nat.le_refl _)
      have hll : S.data.toList.length = S.size := by simp
      by_cases h2 : n ≤ S.size
      · exact ⟨nbV r, fun v => c_sNextBlock S _ n r v h1.1 rfl (by omega) hr, fun v hG => c_NextBlock_yes S _ n r v a0 a0 a0 h1.1 rfl h2 hr hG⟩
      · have hrn := hr.past (by omega)
        subst hrn
        exact ⟨-1, fun v => c_sNextBlock S _ n none v h1.1 rfl (by omega) hr, fun v hG => c_NextBlock_no S (n : Int) v (by omega) (fun hh => by omega)⟩
    · exact ⟨-1, fun v => c_sNextBlock_no S x v (by omega) h1, fun v hG => c_NextBlock_no S x v (by omega) (fun hh => h1 ⟨hh.1, hh.2.1⟩)⟩
  obtain ⟨V, k1, k2⟩ := key
  have HS := hid k1
  have HI := hid k2
  have HG := hid hG
  clear k1 k2 hG
  go_enter Tryd.func3, Tryd.ntmps3
  go_wp2_with fail
  refine (HS.out _).mono ?_
  rintro e w1 ⟨rfl, hb1⟩
  go_wp2_with fail
  refine (HI.out _ (HG.out.on hb1)).mono ?_
  rintro e w2 ⟨rfl, hb2⟩
  go_wp2_with fail
  go_ret
  exact ⟨by simp_all, by (repeat (first | with_reducible (first | assumption | exact Below.refl _ _ | refine bel_alloc ?_ _ | refine bel_drew ?_ | refine bel_drewN ?_ _ | refine bel_set ?_ (by first | omega | (simp; done) | (simp; omega)) _ | refine bel_trans ?_ (by assumption)) | assumption | refine bel_trans ?_ (by assumption)))⟩
end Go.Proofs.YtepbjmpbcobfpaaDoor
