/- Contracts: the block of a header, readBlock in the program. The layout of the header and the errors are as the program's text lays them. -/
import Derived.Test.YtmlaaammfnboiaaGreatDoorYh
namespace Go.Proofs.YtmlaaammfnboiaaGreatDoor
open Go.ChangeShapes Go.WideShapes Go.ChangeAt Go.RowKit Go.Joins
set_option linter.unusedVariables false
set_option linter.unusedSimpArgs false

set_option maxRecDepth 100000 in
theorem c_hblock (v0 v1 v2 v3 v4 : Int) (body : ByteArray) (w : World) : Calls Tryz.prog 177 #[.agg #[.int .i64 v0, .int .i64 v1, .int .i64 v2, .int .i64 v3, .int .i64 v4], .string body] w fun e w' => e = .returned (.agg #[.int .i64 v2, .bool (v1 == 0), .int .i64 v3, .string body]) ∧ Below w.heap.size w w' := by
 obtain ⟨p0, p1, p2, p3, p4⟩ := (Blk.new w 106 #[.int .i64 v0, .int .i64 v1, .int .i64 v2, .int .i64 v3, .int .i64 v4]).cells5y
 obtain ⟨q, hq⟩ : ∃ q, q = (v1 == 0) := ⟨_, rfl⟩
 have hq2 := hq.symm
 have HQ := hid hq
 rw [← hq]
 clear hq
 go_enter Tryz.func177, Tryz.ntmps177
 go_wp2
 exact bodyPost_ret (v := .agg #[.int .i64 v2, .bool q, .int .i64 v3, .string body]) (by simp [results, Tryz.results177, go_sem]) rfl ⟨rfl, by exact obB⟩

theorem brd_eq (T : List UInt8) : brd T = ⟨(pat2 T 2 : Nat), bat T 1 == 0, (pat2 T 4 : Nat), str ((T.drop 8).take (pat2 T 6))⟩ := rfl

theorem rh_yes (S : ByteArray) (w : World) (a0 a1 a2 : Addr) (hS : S.size ≤ maxLen) (hG : Glob0 w a0) (h : hdOk S.data.toList) : Calls Tryz.prog 176 #[.string S] w fun e w' => e = .returned (.tuple #[.agg #[.int .i64 (bat S.data.toList 0 : Nat), .int .i64 (bat S.data.toList 1 : Nat), .int .i64 (pat2 S.data.toList 2 : Nat), .int .i64 (pat2 S.data.toList 4 : Nat), .int .i64 (pat2 S.data.toList 6 : Nat)], .string (dr S 8), .nilIface]) ∧ Below w.heap.size w w' :=
 (c_readHeader S w a0 a1 a2 hS hG).mono fun e w' ⟨h1, h2⟩ => ⟨by rcases h1 with ⟨_, h1⟩ | ⟨h1, _⟩; exact h1; exact absurd h h1, h2⟩

theorem rh_no (S : ByteArray) (w : World) (a0 a1 a2 : Addr) (hS : S.size ≤ maxLen) (hG : Glob0 w a0) (h : ¬ hdOk S.data.toList) : Calls Tryz.prog 176 #[.string S] w fun e w' => e = .returned (.tuple #[.agg #[.int .i64 0, .int .i64 0, .int .i64 0, .int .i64 0, .int .i64 0], .string ByteArray.empty, errV a0]) ∧ Below w.heap.size w w' :=
 (c_readHeader S w a0 a1 a2 hS hG).mono fun e w' ⟨h1, h2⟩ => ⟨by rcases h1 with ⟨h1, _⟩ | ⟨_, h1⟩; exact absurd h1 h; exact h1, h2⟩

/-- what readBlock gives where there is none -/
def noBl (a0 : Addr) : Value := .tuple #[.agg #[.int .i64 0, .bool false, .int .i64 0, .string ByteArray.empty], .int .i64 0, errV a0]

set_option maxHeartbeats 8000000 in
set_option maxRecDepth 100000 in
theorem c_readBlock_no1 (S : ByteArray) (A : Nat) (T : List UInt8) (w : World) (a0 a1 a2 : Addr) (hS : S.size ≤ 1000000000000) (hA : A ≤ S.size) (hT : T = S.data.toList.drop A) (hG : Glob0 w a0) (hd : ¬ hdOk T) : Calls Tryz.prog 167 #[.string S, .int .i64 (A : Int)] w fun e w' => e = .returned (noBl a0) ∧ Below w.heap.size w w' := by
 have hT2 : (dr S A).data.toList = T := by rw [dr_list, hT]
 have hTl : T.length = S.size - A := by rw [hT, List.length_drop]; simp
 have hsl : ∀ W, (Instr.slice 9 (.string S) (some (.int .i64 (A : Int))) none none).run Tryz.prog W = .ok (.string (dr S A)) W := fun W => by rw [run_slice_string_l W 9 S Tryz.underlying9 .i64 (A : Int) (by omega) (by omega)]; rfl
 have hd1 : decide ((A : Int) < 0) = false := decide_eq_false (by omega)
 have hd2 : decide ((S.size : Int) < (A : Int)) = false := decide_eq_false (by omega)
 have HRh := hid (fun (v : World) (hv : Glob0 v a0) => rh_no (dr S A) v a0 a1 a2 (by unfold maxLen; rw [dr_size]; omega) hv (by rw [hT2]; exact hd))
 have HG := hid hG
 have HR := hid (Blk.new w 25 #[.int .i64 0, .bool false, .int .i64 0, .string ByteArray.empty])
 have HB := hid (bel_alloc (Below.refl _ w) (.cells #[.int .i64 0, .bool false, .int .i64 0, .string ByteArray.empty] 25))
 have hlt3 : 3 < w.heap.size := World.block_lt_of_cell? _ _ hG.broken
 obtain ⟨rb, hrb⟩ : ∃ rb, rb = w.heap.size := ⟨_, rfl⟩
 have HN3 := hid (show ¬ (rb = 3) ∧ ¬ (3 = rb) by omega)
 have HLo := hid (show w.heap.size ≤ rb by omega)
 clear hG hlt3
 clear hd hT2 hTl hT
 go_enter Tryz.func167, Tryz.ntmps167
 go_wp2_with fail
 obtain ⟨W, hW⟩ : ∃ W, W = w.alloc (.cells #[.int .i64 0, .bool false, .int .i64 0, .string ByteArray.empty] 25) := ⟨_, rfl⟩
 rw [← hW, ← hrb] at HR
 rw [← hW] at HB
 rw [show w.alloc (.cells #[.int .i64 0, .bool false, .int .i64 0, .string { data := #[] }] 25) = W from hW.symm, ← hrb]
 clear hW hrb
 have hltr : rb < W.heap.size := HR.out.lt
 refine (HRh.out _ (HG.out.on HB.out)).mono ?_
 rintro e w1 ⟨rfl, hb1⟩
 replace HR := hid (HR.out.on hb1)
 replace HB := hid (bel_trans HB.out hb1)
 clear hltr hb1 HRh W
 have hltr : rb < w1.heap.size := HR.out.lt
 obtain ⟨r0, r1, r2, r3⟩ := HR.out.cells4y
 have rf0 := HR.out.frozen 0
 have rf1 := HR.out.frozen 1
 have rf2 := HR.out.frozen 2
 have rf3 := HR.out.frozen 3
 unfold errV
 go_wp2
 obtain ⟨Wz, hWz⟩ : ∃ Wz, Wz = (((((w1.setCell ⟨rb, 0, none⟩ (.int .i64 0)).setCell ⟨rb, 1, none⟩ (.bool false)).setCell ⟨rb, 2, none⟩ (.int .i64 0)).setCell ⟨rb, 3, none⟩ (.string ByteArray.empty)).alloc (.cells #[.int .i64 0, .int .i64 0, .int .i64 0, .int .i64 0, .int .i64 0] 106)) := ⟨_, rfl⟩
 have HZ : Blk Wz rb 25 #[.int .i64 0, .bool false, .int .i64 0, .string ByteArray.empty] := by rw [hWz]; exact (HR.out.put4y _ _ _ _).alloc _
 have HBz : Below w.heap.size w Wz := by rw [hWz]; exact bel_alloc (bel_set (bel_set (bel_set (bel_set HB.out HLo.out _) HLo.out _) HLo.out _) HLo.out _) _
 rw [show (((((w1.setCell ⟨rb, 0, none⟩ (.int .i64 0)).setCell ⟨rb, 1, none⟩ (.bool false)).setCell ⟨rb, 2, none⟩ (.int .i64 0)).setCell ⟨rb, 3, none⟩ (.string { data := #[] })).alloc (.cells #[.int .i64 0, .int .i64 0, .int .i64 0, .int .i64 0, .int .i64 0] 106)) = Wz from hWz.symm]
 obtain ⟨z0, z1, z2, z3⟩ := HZ.cells4y
 clear hWz
 exact bodyPost_ret (v := noBl a0) (by simp [results, Tryz.results167, go_sem, z0, z1, z2, z3, noBl, errV]) rfl ⟨rfl, HBz⟩

set_option maxHeartbeats 8000000 in
set_option maxRecDepth 100000 in
theorem c_readBlock_no2 (S : ByteArray) (A : Nat) (T : List UInt8) (w : World) (a0 a1 a2 : Addr) (hS : S.size ≤ 1000000000000) (hA : A ≤ S.size) (hT : T = S.data.toList.drop A) (hG : Glob0 w a0) (hd : hdOk T) (hl : T.length < 10 + pat2 T 6) : Calls Tryz.prog 167 #[.string S, .int .i64 (A : Int)] w fun e w' => e = .returned (noBl a0) ∧ Below w.heap.size w w' := by
 have hp6 := hd.2.2.2.2.2
 have hT2 : (dr S A).data.toList = T := by rw [dr_list, hT]
 have hTl : T.length = S.size - A := by rw [hT, List.length_drop]; simp
 have hsl : ∀ W, (Instr.slice 9 (.string S) (some (.int .i64 (A : Int))) none none).run Tryz.prog W = .ok (.string (dr S A)) W := fun W => by rw [run_slice_string_l W 9 S Tryz.underlying9 .i64 (A : Int) (by omega) (by omega)]; rfl
 have hd1 : decide ((A : Int) < 0) = false := decide_eq_false (by omega)
 have hd2 : decide ((S.size : Int) < (A : Int)) = false := decide_eq_false (by omega)
 have HRh := hid (fun (v : World) (hv : Glob0 v a0) => rh_yes (dr S A) v a0 a1 a2 (by unfold maxLen; rw [dr_size]; omega) hv (by rw [hT2]; exact hd))
 simp only [hT2] at HRh
 have HG := hid hG
 have HR := hid (Blk.new w 25 #[.int .i64 0, .bool false, .int .i64 0, .string ByteArray.empty])
 have HB := hid (bel_alloc (Below.refl _ w) (.cells #[.int .i64 0, .bool false, .int .i64 0, .string ByteArray.empty] 25))
 have hlt3 : 3 < w.heap.size := World.block_lt_of_cell? _ _ hG.broken
 obtain ⟨rb, hrb⟩ : ∃ rb, rb = w.heap.size := ⟨_, rfl⟩
 have HN3 := hid (show ¬ (rb = 3) ∧ ¬ (3 = rb) by omega)
 have HLo := hid (show w.heap.size ≤ rb by omega)
 clear hG hlt3
 clear hd hT2 hT
 go_enter Tryz.func167, Tryz.ntmps167
 go_wp2_with fail
 obtain ⟨W, hW⟩ : ∃ W, W = w.alloc (.cells #[.int .i64 0, .bool false, .int .i64 0, .string ByteArray.empty] 25) := ⟨_, rfl⟩
 rw [← hW, ← hrb] at HR
 rw [← hW] at HB
 rw [show w.alloc (.cells #[.int .i64 0, .bool false, .int .i64 0, .string { data := #[] }] 25) = W from hW.symm, ← hrb]
 clear hW hrb
 have hltr : rb < W.heap.size := HR.out.lt
 refine (HRh.out _ (HG.out.on HB.out)).mono ?_
 rintro e w1 ⟨rfl, hb1⟩
 replace HR := hid (HR.out.on hb1)
 replace HB := hid (bel_trans HB.out hb1)
 clear hltr hb1 HRh W
 have hltr : rb < w1.heap.size := HR.out.lt
 have hd3 : decide ((S.size : Int) < (A : Int) + 10 + ((pat2 T 6 : Nat) : Int)) = true := decide_eq_true (by omega)
 go_wp2_with fail
 replace HR := hid (HR.out.alloc (.cells #[.int .i64 (bat T 0 : Nat), .int .i64 (bat T 1 : Nat), .int .i64 (pat2 T 2 : Nat), .int .i64 (pat2 T 4 : Nat), .int .i64 (pat2 T 6 : Nat)] 106))
 replace HB := hid (bel_alloc HB.out (.cells #[.int .i64 (bat T 0 : Nat), .int .i64 (bat T 1 : Nat), .int .i64 (pat2 T 2 : Nat), .int .i64 (pat2 T 4 : Nat), .int .i64 (pat2 T 6 : Nat)] 106))
 have HH := hid (Blk.new w1 106 #[.int .i64 (bat T 0 : Nat), .int .i64 (bat T 1 : Nat), .int .i64 (pat2 T 2 : Nat), .int .i64 (pat2 T 4 : Nat), .int .i64 (pat2 T 6 : Nat)])
 obtain ⟨hb, hhb⟩ : ∃ hb, hb = w1.heap.size := ⟨_, rfl⟩
 obtain ⟨W1, hW1⟩ : ∃ W1, W1 = w1.alloc (.cells #[.int .i64 (bat T 0 : Nat), .int .i64 (bat T 1 : Nat), .int .i64 (pat2 T 2 : Nat), .int .i64 (pat2 T 4 : Nat), .int .i64 (pat2 T 6 : Nat)] 106) := ⟨_, rfl⟩
 rw [← hW1] at HR HB HH ⊢
 rw [← hhb] at HH ⊢
 clear hW1 hhb hltr
 obtain ⟨r0, r1, r2, r3⟩ := HR.out.cells4y
 have rf0 := HR.out.frozen 0
 have rf1 := HR.out.frozen 1
 have rf2 := HR.out.frozen 2
 have rf3 := HR.out.frozen 3
 have hgb := (HG.out.on HB.out).broken
 have hn3 := HN3.out.1
 have hn4 := HN3.out.2
 have hltr : rb < W1.heap.size := HR.out.lt
 go_region
 all_goals
  go_wp2
  obtain ⟨Wz, hWz⟩ : ∃ Wz, Wz = ((((W1.setCell ⟨rb, 0, none⟩ (.int .i64 0)).setCell ⟨rb, 1, none⟩ (.bool false)).setCell ⟨rb, 2, none⟩ (.int .i64 0)).setCell ⟨rb, 3, none⟩ (.string ByteArray.empty)).drew := ⟨_, rfl⟩
  have HZ : Blk Wz rb 25 #[.int .i64 0, .bool false, .int .i64 0, .string ByteArray.empty] := by rw [hWz]; exact (HR.out.put4y _ _ _ _).drew
  have HBz : Below w.heap.size w Wz := by rw [hWz]; exact bel_drew (bel_set (bel_set (bel_set (bel_set HB.out HLo.out _) HLo.out _) HLo.out _) HLo.out _)
  rw [show ((((W1.setCell ⟨rb, 0, none⟩ (.int .i64 0)).setCell ⟨rb, 1, none⟩ (.bool false)).setCell ⟨rb, 2, none⟩ (.int .i64 0)).setCell ⟨rb, 3, none⟩ (.string { data := #[] })).drew = Wz from hWz.symm]
  obtain ⟨z0, z1, z2, z3⟩ := HZ.cells4y
  clear hWz
  exact bodyPost_ret (v := noBl a0) (by simp [results, Tryz.results167, go_sem, z0, z1, z2, z3, noBl]) rfl ⟨rfl, HBz⟩
end Go.Proofs.YtmlaaammfnboiaaGreatDoor
