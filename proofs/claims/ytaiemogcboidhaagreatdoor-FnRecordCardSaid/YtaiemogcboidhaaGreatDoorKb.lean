/- The model's OpValid, and the law's walk. -/
import Derived.Test.YtaiemogcboidhaaGreatDoorKa
namespace Go.Proofs.YtaiemogcboidhaaGreatDoor
open Go.ChangeShapes Go.WideShapes Go.ChangeAt Go.RowKit Go.Joins
set_option linter.unusedVariables false
set_option linter.unusedSimpArgs false

set_option maxHeartbeats 4000000 in
set_option maxRecDepth 100000 in
theorem c_sOpValid_0 (nm : ByteArray) (f t z : Int) (d : ByteArray) (w : World) (hn : nm.size ≤ 1048576) (hd : d.size ≤ 2000) (hnm : nmB nm = true) :
    Calls Tryz.prog 20 #[.agg #[.int .i64 0, .string nm, .int .i64 f, .int .i64 t, .int .i64 z, .string d]] w fun e w' => e = .returned (.bool (opB 0 nm f t z d)) ∧ Below w.heap.size w w' := by
  have HN := hid (fun v => c_l8Name nm v hn)
  rw [hnm] at HN
  have HO := hid (opB_in 0 nm f t z d (by omega) hnm (r := false) (s := true) (h := true) (by decide) (by decide) (by decide))
  clear hnm hn
  have kS := Blk.new w 24 #[.int .i64 0, .string nm, .int .i64 f, .int .i64 t, .int .i64 z, .string d]
  obtain ⟨y0, y1, y2, y3, y4, y5⟩ := kS.cells6
  have hB0 : Below w.heap.size w (w.alloc (.cells #[.int .i64 0, .string nm, .int .i64 f, .int .i64 t, .int .i64 z, .string d] 24)) := by exact obB
  clear kS
  have HZ := hid (fun v => c_l1In z 1 64 v)
  by_cases hz : 1 ≤ z ∧ z ≤ 64
  · by_cases hf0 : f = 0
    · by_cases ht0 : t = 0
      · rw [show inB z 1 64 = true from inB_iff.2 hz] at HZ
        have HR := hid (show opB 0 nm f t z d = true from by rw [HO.out]; exact (by subst hf0 ht0; exact decide_eq_true ⟨⟨rfl, rfl, rfl, rfl⟩, fun _ => hz, by omega, by omega, by omega, hd⟩))
        subst hf0
        subst ht0
        clear HO
        go_enter Tryz.func20, Tryz.ntmps20
        go_wp2_with fail
        refine (HN.out _).mono ?_
        rintro e w9 ⟨rfl, rfl⟩
        go_wp2_with fail
        refine (HZ.out _).mono ?_
        rintro e w9 ⟨rfl, rfl⟩
        go_wp2_with fail
        go_ret
        exact ⟨ret_bool (by (rw [HR.out]); try simp_all), hB0⟩
      · rw [show inB z 1 64 = true from inB_iff.2 hz] at HZ
        have HR := hid (show opB 0 nm f t z d = false from by rw [HO.out]; exact decide_eq_false (fun e => by exact ht0 e.1.2.1))
        subst hf0
        clear HO
        go_enter Tryz.func20, Tryz.ntmps20
        go_wp2_with fail
        refine (HN.out _).mono ?_
        rintro e w9 ⟨rfl, rfl⟩
        go_wp2_with fail
        refine (HZ.out _).mono ?_
        rintro e w9 ⟨rfl, rfl⟩
        go_wp2_with fail
        go_ret
        exact ⟨ret_bool (by (rw [HR.out]); try simp_all), hB0⟩
    · rw [show inB z 1 64 = true from inB_iff.2 hz] at HZ
      have HR := hid (show opB 0 nm f t z d = false from by rw [HO.out]; exact decide_eq_false (fun e => by exact hf0 e.1.1))
      clear HO
      go_enter Tryz.func20, Tryz.ntmps20
      go_wp2_with fail
      refine (HN.out _).mono ?_
      rintro e w9 ⟨rfl, rfl⟩
      go_wp2_with fail
      refine (HZ.out _).mono ?_
      rintro e w9 ⟨rfl, rfl⟩
      go_wp2_with fail
      go_ret
      exact ⟨ret_bool (by (rw [HR.out]); try simp_all), hB0⟩
  · by_cases hf0 : f = 0
    · by_cases ht0 : t = 0
      · rw [show inB z 1 64 = false from Bool.eq_false_iff.2 (fun e => hz (inB_iff.1 e))] at HZ
        have HR := hid (show opB 0 nm f t z d = false from by rw [HO.out]; exact decide_eq_false (fun e => by exact hz (e.2.1 rfl)))
        subst hf0
        subst ht0
        clear HO
        go_enter Tryz.func20, Tryz.ntmps20
        go_wp2_with fail
        refine (HN.out _).mono ?_
        rintro e w9 ⟨rfl, rfl⟩
        go_wp2_with fail
        refine (HZ.out _).mono ?_
        rintro e w9 ⟨rfl, rfl⟩
        go_wp2_with fail
        go_ret
        exact ⟨ret_bool (by (rw [HR.out]); try simp_all), hB0⟩
      · rw [show inB z 1 64 = false from Bool.eq_false_iff.2 (fun e => hz (inB_iff.1 e))] at HZ
        have HR := hid (show opB 0 nm f t z d = false from by rw [HO.out]; exact decide_eq_false (fun e => by exact hz (e.2.1 rfl)))
        subst hf0
        clear HO
        go_enter Tryz.func20, Tryz.ntmps20
        go_wp2_with fail
        refine (HN.out _).mono ?_
        rintro e w9 ⟨rfl, rfl⟩
        go_wp2_with fail
        refine (HZ.out _).mono ?_
        rintro e w9 ⟨rfl, rfl⟩
        go_wp2_with fail
        go_ret
        exact ⟨ret_bool (by (rw [HR.out]); try simp_all), hB0⟩
    · rw [show inB z 1 64 = false from Bool.eq_false_iff.2 (fun e => hz (inB_iff.1 e))] at HZ
      have HR := hid (show opB 0 nm f t z d = false from by rw [HO.out]; exact decide_eq_false (fun e => by exact hz (e.2.1 rfl)))
      clear HO
      go_enter Tryz.func20, Tryz.ntmps20
      go_wp2_with fail
      refine (HN.out _).mono ?_
      rintro e w9 ⟨rfl, rfl⟩
      go_wp2_with fail
      refine (HZ.out _).mono ?_
      rintro e w9 ⟨rfl, rfl⟩
      go_wp2_with fail
      go_ret
      exact ⟨ret_bool (by (rw [HR.out]); try simp_all), hB0⟩

set_option maxHeartbeats 4000000 in
set_option maxRecDepth 100000 in
theorem c_sOpValid_1 (nm : ByteArray) (f t z : Int) (d : ByteArray) (w : World) (hn : nm.size ≤ 1048576) (hd : d.size ≤ 2000) (hnm : nmB nm = true) :
    Calls Tryz.prog 20 #[.agg #[.int .i64 1, .string nm, .int .i64 f, .int .i64 t, .int .i64 z, .string d]] w fun e w' => e = .returned (.bool (opB 1 nm f t z d)) ∧ Below w.heap.size w w' := by
  have HN := hid (fun v => c_l8Name nm v hn)
  rw [hnm] at HN
  have HO := hid (opB_in 1 nm f t z d (by omega) hnm (r := false) (s := true) (h := true) (by decide) (by decide) (by decide))
  clear hnm hn
  have kS := Blk.new w 24 #[.int .i64 1, .string nm, .int .i64 f, .int .i64 t, .int .i64 z, .string d]
  obtain ⟨y0, y1, y2, y3, y4, y5⟩ := kS.cells6
  have hB0 : Below w.heap.size w (w.alloc (.cells #[.int .i64 1, .string nm, .int .i64 f, .int .i64 t, .int .i64 z, .string d] 24)) := by exact obB
  clear kS
  have HZ := hid (fun v => c_l1In z 1 64 v)
  by_cases hz : 1 ≤ z ∧ z ≤ 64
  · by_cases hf0 : f = 0
    · by_cases ht0 : t = 0
      · rw [show inB z 1 64 = true from inB_iff.2 hz] at HZ
        have HR := hid (show opB 1 nm f t z d = true from by rw [HO.out]; exact (by subst hf0 ht0; exact decide_eq_true ⟨⟨rfl, rfl, rfl, rfl⟩, fun _ => hz, by omega, by omega, by omega, hd⟩))
        subst hf0
        subst ht0
        clear HO
        go_enter Tryz.func20, Tryz.ntmps20
        go_wp2_with fail
        refine (HN.out _).mono ?_
        rintro e w9 ⟨rfl, rfl⟩
        go_wp2_with fail
        refine (HZ.out _).mono ?_
        rintro e w9 ⟨rfl, rfl⟩
        go_wp2_with fail
        go_ret
        exact ⟨ret_bool (by (rw [HR.out]); try simp_all), hB0⟩
      · rw [show inB z 1 64 = true from inB_iff.2 hz] at HZ
        have HR := hid (show opB 1 nm f t z d = false from by rw [HO.out]; exact decide_eq_false (fun e => by exact ht0 e.1.2.1))
        subst hf0
        clear HO
        go_enter Tryz.func20, Tryz.ntmps20
        go_wp2_with fail
        refine (HN.out _).mono ?_
        rintro e w9 ⟨rfl, rfl⟩
        go_wp2_with fail
        refine (HZ.out _).mono ?_
        rintro e w9 ⟨rfl, rfl⟩
        go_wp2_with fail
        go_ret
        exact ⟨ret_bool (by (rw [HR.out]); try simp_all), hB0⟩
    · rw [show inB z 1 64 = true from inB_iff.2 hz] at HZ
      have HR := hid (show opB 1 nm f t z d = false from by rw [HO.out]; exact decide_eq_false (fun e => by exact hf0 e.1.1))
      clear HO
      go_enter Tryz.func20, Tryz.ntmps20
      go_wp2_with fail
      refine (HN.out _).mono ?_
      rintro e w9 ⟨rfl, rfl⟩
      go_wp2_with fail
      refine (HZ.out _).mono ?_
      rintro e w9 ⟨rfl, rfl⟩
      go_wp2_with fail
      go_ret
      exact ⟨ret_bool (by (rw [HR.out]); try simp_all), hB0⟩
  · by_cases hf0 : f = 0
    · by_cases ht0 : t = 0
      · rw [show inB z 1 64 = false from Bool.eq_false_iff.2 (fun e => hz (inB_iff.1 e))] at HZ
        have HR := hid (show opB 1 nm f t z d = false from by rw [HO.out]; exact decide_eq_false (fun e => by exact hz (e.2.1 rfl)))
        subst hf0
        subst ht0
        clear HO
        go_enter Tryz.func20, Tryz.ntmps20
        go_wp2_with fail
        refine (HN.out _).mono ?_
        rintro e w9 ⟨rfl, rfl⟩
        go_wp2_with fail
        refine (HZ.out _).mono ?_
        rintro e w9 ⟨rfl, rfl⟩
        go_wp2_with fail
        go_ret
        exact ⟨ret_bool (by (rw [HR.out]); try simp_all), hB0⟩
      · rw [show inB z 1 64 = false from Bool.eq_false_iff.2 (fun e => hz (inB_iff.1 e))] at HZ
        have HR := hid (show opB 1 nm f t z d = false from by rw [HO.out]; exact decide_eq_false (fun e => by exact hz (e.2.1 rfl)))
        subst hf0
        clear HO
        go_enter Tryz.func20, Tryz.ntmps20
        go_wp2_with fail
        refine (HN.out _).mono ?_
        rintro e w9 ⟨rfl, rfl⟩
        go_wp2_with fail
        refine (HZ.out _).mono ?_
        rintro e w9 ⟨rfl, rfl⟩
        go_wp2_with fail
        go_ret
        exact ⟨ret_bool (by (rw [HR.out]); try simp_all), hB0⟩
    · rw [show inB z 1 64 = false from Bool.eq_false_iff.2 (fun e => hz (inB_iff.1 e))] at HZ
      have HR := hid (show opB 1 nm f t z d = false from by rw [HO.out]; exact decide_eq_false (fun e => by exact hz (e.2.1 rfl)))
      clear HO
      go_enter Tryz.func20, Tryz.ntmps20
      go_wp2_with fail
      refine (HN.out _).mono ?_
      rintro e w9 ⟨rfl, rfl⟩
      go_wp2_with fail
      refine (HZ.out _).mono ?_
      rintro e w9 ⟨rfl, rfl⟩
      go_wp2_with fail
      go_ret
      exact ⟨ret_bool (by (rw [HR.out]); try simp_all), hB0⟩

set_option maxHeartbeats 4000000 in
set_option maxRecDepth 100000 in
theorem c_sOpValid_2 (nm : ByteArray) (f t z : Int) (d : ByteArray) (w : World) (hn : nm.size ≤ 1048576) (hd : d.size ≤ 2000) (hnm : nmB nm = true) :
    Calls Tryz.prog 20 #[.agg #[.int .i64 2, .string nm, .int .i64 f, .int .i64 t, .int .i64 z, .string d]] w fun e w' => e = .returned (.bool (opB 2 nm f t z d)) ∧ Below w.heap.size w w' := by
  have HN := hid (fun v => c_l8Name nm v hn)
  rw [hnm] at HN
  have HO := hid (opB_in 2 nm f t z d (by omega) hnm (r := true) (s := true) (h := true) (by decide) (by decide) (by decide))
  clear hnm hn
  have kS := Blk.new w 24 #[.int .i64 2, .string nm, .int .i64 f, .int .i64 t, .int .i64 z, .string d]
  obtain ⟨y0, y1, y2, y3, y4, y5⟩ := kS.cells6
  have hB0 : Below w.heap.size w (w.alloc (.cells #[.int .i64 2, .string nm, .int .i64 f, .int .i64 t, .int .i64 z, .string d] 24)) := by exact obB
  clear kS
  have HZ := hid (fun v => c_l1In z 1 64 v)
  by_cases hz : 1 ≤ z ∧ z ≤ 64
  · have HG := hid (fun v => c_l6RangeI f t 2000 v)
    by_cases hr : 0 ≤ f ∧ f ≤ t ∧ t ≤ 2000
    · rw [show decide (0 ≤ f ∧ f ≤ t ∧ t ≤ 2000) = true from decide_eq_true hr] at HG
      by_cases hf0 : f = 0
      · by_cases ht0 : t = 0
        · rw [show inB z 1 64 = true from inB_iff.2 hz] at HZ
          have HR := hid (show opB 2 nm f t z d = true from by rw [HO.out]; exact decide_eq_true ⟨⟨rfl, rfl, rfl, rfl⟩, fun _ => hz, by obtain ⟨a, b, c⟩ := hr; exact ⟨a, b, c, hd⟩⟩)
          subst hf0
          subst ht0
          clear hr
          clear HO
          go_enter Tryz.func20, Tryz.ntmps20
          go_wp2_with fail
          refine (HN.out _).mono ?_
          rintro e w9 ⟨rfl, rfl⟩
          go_wp2_with fail
          refine (HZ.out _).mono ?_
          rintro e w9 ⟨rfl, rfl⟩
          go_wp2_with fail
          refine (HG.out _).mono ?_
          rintro e w9 ⟨rfl, rfl⟩
          go_wp2_with fail
          go_ret
          exact ⟨ret_bool (by (rw [HR.out]); try simp_all), hB0⟩
        · rw [show inB z 1 64 = true from inB_iff.2 hz] at HZ
          have HR := hid (show opB 2 nm f t z d = true from by rw [HO.out]; exact decide_eq_true ⟨⟨rfl, rfl, rfl, rfl⟩, fun _ => hz, by obtain ⟨a, b, c⟩ := hr; exact ⟨a, b, c, hd⟩⟩)
          subst hf0
          clear hr
          clear HO
          go_enter Tryz.func20, Tryz.ntmps20
          go_wp2_with fail
          refine (HN.out _).mono ?_
          rintro e w9 ⟨rfl, rfl⟩
          go_wp2_with fail
          refine (HZ.out _).mono ?_
          rintro e w9 ⟨rfl, rfl⟩
          go_wp2_with fail
          refine (HG.out _).mono ?_
          rintro e w9 ⟨rfl, rfl⟩
          go_wp2_with fail
          go_ret
          exact ⟨ret_bool (by (rw [HR.out]); try simp_all), hB0⟩
      · rw [show inB z 1 64 = true from inB_iff.2 hz] at HZ
        have HR := hid (show opB 2 nm f t z d = true from by rw [HO.out]; exact decide_eq_true ⟨⟨rfl, rfl, rfl, rfl⟩, fun _ => hz, by obtain ⟨a, b, c⟩ := hr; exact ⟨a, b, c, hd⟩⟩)
        clear hr
        clear HO
        go_enter Tryz.func20, Tryz.ntmps20
        go_wp2_with fail
        refine (HN.out _).mono ?_
        rintro e w9 ⟨rfl, rfl⟩
        go_wp2_with fail
        refine (HZ.out _).mono ?_
        rintro e w9 ⟨rfl, rfl⟩
        go_wp2_with fail
        refine (HG.out _).mono ?_
        rintro e w9 ⟨rfl, rfl⟩
        go_wp2_with fail
        go_ret
        exact ⟨ret_bool (by (rw [HR.out]); try simp_all), hB0⟩
    · rw [show decide (0 ≤ f ∧ f ≤ t ∧ t ≤ 2000) = false from decide_eq_false hr] at HG
      by_cases hf0 : f = 0
      · by_cases ht0 : t = 0
        · rw [show inB z 1 64 = true from inB_iff.2 hz] at HZ
          have HR := hid (show opB 2 nm f t z d = false from by rw [HO.out]; exact decide_eq_false (fun e => by exact hr ⟨e.2.2.1, e.2.2.2.1, e.2.2.2.2.1⟩))
          subst hf0
          subst ht0
          clear hr
          clear HO
          go_enter Tryz.func20, Tryz.ntmps20
          go_wp2_with fail
          refine (HN.out _).mono ?_
          rintro e w9 ⟨rfl, rfl⟩
          go_wp2_with fail
          refine (HZ.out _).mono ?_
          rintro e w9 ⟨rfl, rfl⟩
          go_wp2_with fail
          refine (HG.out _).mono ?_
          rintro e w9 ⟨rfl, rfl⟩
          go_wp2_with fail
          go_ret
          exact ⟨ret_bool (by (rw [HR.out]); try simp_all), hB0⟩
        · rw [show inB z 1 64 = true from inB_iff.2 hz] at HZ
          have HR := hid (show opB 2 nm f t z d = false from by rw [HO.out]; exact decide_eq_false (fun e => by exact hr ⟨e.2.2.1, e.2.2.2.1, e.2.2.2.2.1⟩))
          subst hf0
          clear hr
          clear HO
          go_enter Tryz.func20, Tryz.ntmps20
          go_wp2_with fail
          refine (HN.out _).mono ?_
          rintro e w9 ⟨rfl, rfl⟩
          go_wp2_with fail
          refine (HZ.out _).mono ?_
          rintro e w9 ⟨rfl, rfl⟩
          go_wp2_with fail
          refine (HG.out _).mono ?_
          rintro e w9 ⟨rfl, rfl⟩
          go_wp2_with fail
          go_ret
          exact ⟨ret_bool (by (rw [HR.out]); try simp_all), hB0⟩
      · rw [show inB z 1 64 = true from inB_iff.2 hz] at HZ
        have HR := hid (show opB 2 nm f t z d = false from by rw [HO.out]; exact decide_eq_false (fun e => by exact hr ⟨e.2.2.1, e.2.2.2.1, e.2.2.2.2.1⟩))
        clear hr
        clear HO
        go_enter Tryz.func20, Tryz.ntmps20
        go_wp2_with fail
        refine (HN.out _).mono ?_
        rintro e w9 ⟨rfl, rfl⟩
        go_wp2_with fail
        refine (HZ.out _).mono ?_
        rintro e w9 ⟨rfl, rfl⟩
        go_wp2_with fail
        refine (HG.out _).mono ?_
        rintro e w9 ⟨rfl, rfl⟩
        go_wp2_with fail
        go_ret
        exact ⟨ret_bool (by (rw [HR.out]); try simp_all), hB0⟩
  · by_cases hf0 : f = 0
    · by_cases ht0 : t = 0
      · rw [show inB z 1 64 = false from Bool.eq_false_iff.2 (fun e => hz (inB_iff.1 e))] at HZ
        have HR := hid (show opB 2 nm f t z d = false from by rw [HO.out]; exact decide_eq_false (fun e => by exact hz (e.2.1 rfl)))
        subst hf0
        subst ht0
        clear HO
        go_enter Tryz.func20, Tryz.ntmps20
        go_wp2_with fail
        refine (HN.out _).mono ?_
        rintro e w9 ⟨rfl, rfl⟩
        go_wp2_with fail
        refine (HZ.out _).mono ?_
        rintro e w9 ⟨rfl, rfl⟩
        go_wp2_with fail
        go_ret
        exact ⟨ret_bool (by (rw [HR.out]); try simp_all), hB0⟩
      · rw [show inB z 1 64 = false from Bool.eq_false_iff.2 (fun e => hz (inB_iff.1 e))] at HZ
        have HR := hid (show opB 2 nm f t z d = false from by rw [HO.out]; exact decide_eq_false (fun e => by exact hz (e.2.1 rfl)))
        subst hf0
        clear HO
        go_enter Tryz.func20, Tryz.ntmps20
        go_wp2_with fail
        refine (HN.out _).mono ?_
        rintro e w9 ⟨rfl, rfl⟩
        go_wp2_with fail
        refine (HZ.out _).mono ?_
        rintro e w9 ⟨rfl, rfl⟩
        go_wp2_with fail
        go_ret
        exact ⟨ret_bool (by (rw [HR.out]); try simp_all), hB0⟩
    · rw [show inB z 1 64 = false from Bool.eq_false_iff.2 (fun e => hz (inB_iff.1 e))] at HZ
      have HR := hid (show opB 2 nm f t z d = false from by rw [HO.out]; exact decide_eq_false (fun e => by exact hz (e.2.1 rfl)))
      clear HO
      go_enter Tryz.func20, Tryz.ntmps20
      go_wp2_with fail
      refine (HN.out _).mono ?_
      rintro e w9 ⟨rfl, rfl⟩
      go_wp2_with fail
      refine (HZ.out _).mono ?_
      rintro e w9 ⟨rfl, rfl⟩
      go_wp2_with fail
      go_ret
      exact ⟨ret_bool (by (rw [HR.out]); try simp_all), hB0⟩

set_option maxHeartbeats 4000000 in
set_option maxRecDepth 100000 in
theorem c_sOpValid_3 (nm : ByteArray) (f t z : Int) (d : ByteArray) (w : World) (hn : nm.size ≤ 1048576) (hd : d.size ≤ 2000) (hnm : nmB nm = true) :
    Calls Tryz.prog 20 #[.agg #[.int .i64 3, .string nm, .int .i64 f, .int .i64 t, .int .i64 z, .string d]] w fun e w' => e = .returned (.bool (opB 3 nm f t z d)) ∧ Below w.heap.size w w' := by
  have HN := hid (fun v => c_l8Name nm v hn)
  rw [hnm] at HN
  have HO := hid (opB_in 3 nm f t z d (by omega) hnm (r := false) (s := true) (h := false) (by decide) (by decide) (by decide))
  clear hnm hn
  have kS := Blk.new w 24 #[.int .i64 3, .string nm, .int .i64 f, .int .i64 t, .int .i64 z, .string d]
  obtain ⟨y0, y1, y2, y3, y4, y5⟩ := kS.cells6
  have hB0 : Below w.heap.size w (w.alloc (.cells #[.int .i64 3, .string nm, .int .i64 f, .int .i64 t, .int .i64 z, .string d] 24)) := by exact obB
  clear kS
  have HZ := hid (fun v => c_l1In z 1 64 v)
  by_cases hz : 1 ≤ z ∧ z ≤ 64
  · by_cases hf0 : f = 0
    · by_cases ht0 : t = 0
      · by_cases hd0 : d = ⟨#[]⟩
        · rw [show inB z 1 64 = true from inB_iff.2 hz] at HZ
          have HR := hid (show opB 3 nm f t z d = true from by rw [HO.out]; exact (by subst hf0 ht0 hd0; exact decide_eq_true ⟨⟨rfl, rfl, rfl, rfl⟩, (fun _ => hz), by decide, by decide, by decide, by decide⟩))
          subst hf0
          subst ht0
          subst hd0
          clear HO
          go_enter Tryz.func20, Tryz.ntmps20
          go_wp2_with fail
          refine (HN.out _).mono ?_
          rintro e w9 ⟨rfl, rfl⟩
          go_wp2_with fail
          refine (HZ.out _).mono ?_
          rintro e w9 ⟨rfl, rfl⟩
          go_wp2_with fail
          go_ret
          exact ⟨ret_bool (by (rw [HR.out]); try simp_all), hB0⟩
        · rw [show inB z 1 64 = true from inB_iff.2 hz] at HZ
          have HR := hid (show opB 3 nm f t z d = false from by rw [HO.out]; exact decide_eq_false (fun e => by exact hd0 e.1.2.2.2))
          subst hf0
          subst ht0
          have hd1 : ¬ d.toList = [] := fun e => hd0 (bytes_inj (by rw [ByteArray.toList_eq] at e; exact e))
          clear HO
          go_enter Tryz.func20, Tryz.ntmps20
          go_wp2_with fail
          refine (HN.out _).mono ?_
          rintro e w9 ⟨rfl, rfl⟩
          go_wp2_with fail
          refine (HZ.out _).mono ?_
          rintro e w9 ⟨rfl, rfl⟩
          go_wp2_with fail
          go_ret
          exact ⟨ret_bool (by (rw [HR.out]); try simp_all), hB0⟩
      · by_cases hd0 : d = ⟨#[]⟩
        · rw [show inB z 1 64 = true from inB_iff.2 hz] at HZ
          have HR := hid (show opB 3 nm f t z d = false from by rw [HO.out]; exact decide_eq_false (fun e => by exact ht0 e.1.2.1))
          subst hf0
          subst hd0
          clear HO
          go_enter Tryz.func20, Tryz.ntmps20
          go_wp2_with fail
          refine (HN.out _).mono ?_
          rintro e w9 ⟨rfl, rfl⟩
          go_wp2_with fail
          refine (HZ.out _).mono ?_
          rintro e w9 ⟨rfl, rfl⟩
          go_wp2_with fail
          go_ret
          exact ⟨ret_bool (by (rw [HR.out]); try simp_all), hB0⟩
        · rw [show inB z 1 64 = true from inB_iff.2 hz] at HZ
          have HR := hid (show opB 3 nm f t z d = false from by rw [HO.out]; exact decide_eq_false (fun e => by exact ht0 e.1.2.1))
          subst hf0
          have hd1 : ¬ d.toList = [] := fun e => hd0 (bytes_inj (by rw [ByteArray.toList_eq] at e; exact e))
          clear HO
          go_enter Tryz.func20, Tryz.ntmps20
          go_wp2_with fail
          refine (HN.out _).mono ?_
          rintro e w9 ⟨rfl, rfl⟩
          go_wp2_with fail
          refine (HZ.out _).mono ?_
          rintro e w9 ⟨rfl, rfl⟩
          go_wp2_with fail
          go_ret
          exact ⟨ret_bool (by (rw [HR.out]); try simp_all), hB0⟩
    · by_cases hd0 : d = ⟨#[]⟩
      · rw [show inB z 1 64 = true from inB_iff.2 hz] at HZ
        have HR := hid (show opB 3 nm f t z d = false from by rw [HO.out]; exact decide_eq_false (fun e => by exact hf0 e.1.1))
        subst hd0
        clear HO
        go_enter Tryz.func20, Tryz.ntmps20
        go_wp2_with fail
        refine (HN.out _).mono ?_
        rintro e w9 ⟨rfl, rfl⟩
        go_wp2_with fail
        refine (HZ.out _).mono ?_
        rintro e w9 ⟨rfl, rfl⟩
        go_wp2_with fail
        go_ret
        exact ⟨ret_bool (by (rw [HR.out]); try simp_all), hB0⟩
      · rw [show inB z 1 64 = true from inB_iff.2 hz] at HZ
        have HR := hid (show opB 3 nm f t z d = false from by rw [HO.out]; exact decide_eq_false (fun e => by exact hf0 e.1.1))
        have hd1 : ¬ d.toList = [] := fun e => hd0 (bytes_inj (by rw [ByteArray.toList_eq] at e; exact e))
        clear HO
        go_enter Tryz.func20, Tryz.ntmps20
        go_wp2_with fail
        refine (HN.out _).mono ?_
        rintro e w9 ⟨rfl, rfl⟩
        go_wp2_with fail
        refine (HZ.out _).mono ?_
        rintro e w9 ⟨rfl, rfl⟩
        go_wp2_with fail
        go_ret
        exact ⟨ret_bool (by (rw [HR.out]); try simp_all), hB0⟩
  · by_cases hf0 : f = 0
    · by_cases ht0 : t = 0
      · by_cases hd0 : d = ⟨#[]⟩
        · rw [show inB z 1 64 = false from Bool.eq_false_iff.2 (fun e => hz (inB_iff.1 e))] at HZ
          have HR := hid (show opB 3 nm f t z d = false from by rw [HO.out]; exact decide_eq_false (fun e => by exact hz (e.2.1 rfl)))
          subst hf0
          subst ht0
          subst hd0
          clear HO
          go_enter Tryz.func20, Tryz.ntmps20
          go_wp2_with fail
          refine (HN.out _).mono ?_
          rintro e w9 ⟨rfl, rfl⟩
          go_wp2_with fail
          refine (HZ.out _).mono ?_
          rintro e w9 ⟨rfl, rfl⟩
          go_wp2_with fail
          go_ret
          exact ⟨ret_bool (by (rw [HR.out]); try simp_all), hB0⟩
        · rw [show inB z 1 64 = false from Bool.eq_false_iff.2 (fun e => hz (inB_iff.1 e))] at HZ
          have HR := hid (show opB 3 nm f t z d = false from by rw [HO.out]; exact decide_eq_false (fun e => by exact hz (e.2.1 rfl)))
          subst hf0
          subst ht0
          have hd1 : ¬ d.toList = [] := fun e => hd0 (bytes_inj (by rw [ByteArray.toList_eq] at e; exact e))
          clear HO
          go_enter Tryz.func20, Tryz.ntmps20
          go_wp2_with fail
          refine (HN.out _).mono ?_
          rintro e w9 ⟨rfl, rfl⟩
          go_wp2_with fail
          refine (HZ.out _).mono ?_
          rintro e w9 ⟨rfl, rfl⟩
          go_wp2_with fail
          go_ret
          exact ⟨ret_bool (by (rw [HR.out]); try simp_all), hB0⟩
      · by_cases hd0 : d = ⟨#[]⟩
        · rw [show inB z 1 64 = false from Bool.eq_false_iff.2 (fun e => hz (inB_iff.1 e))] at HZ
          have HR := hid (show opB 3 nm f t z d = false from by rw [HO.out]; exact decide_eq_false (fun e => by exact hz (e.2.1 rfl)))
          subst hf0
          subst hd0
          clear HO
          go_enter Tryz.func20, Tryz.ntmps20
          go_wp2_with fail
          refine (HN.out _).mono ?_
          rintro e w9 ⟨rfl, rfl⟩
          go_wp2_with fail
          refine (HZ.out _).mono ?_
          rintro e w9 ⟨rfl, rfl⟩
          go_wp2_with fail
          go_ret
          exact ⟨ret_bool (by (rw [HR.out]); try simp_all), hB0⟩
        · rw [show inB z 1 64 = false from Bool.eq_false_iff.2 (fun e => hz (inB_iff.1 e))] at HZ
          have HR := hid (show opB 3 nm f t z d = false from by rw [HO.out]; exact decide_eq_false (fun e => by exact hz (e.2.1 rfl)))
          subst hf0
          have hd1 : ¬ d.toList = [] := fun e => hd0 (bytes_inj (by rw [ByteArray.toList_eq] at e; exact e))
          clear HO
          go_enter Tryz.func20, Tryz.ntmps20
          go_wp2_with fail
          refine (HN.out _).mono ?_
          rintro e w9 ⟨rfl, rfl⟩
          go_wp2_with fail
          refine (HZ.out _).mono ?_
          rintro e w9 ⟨rfl, rfl⟩
          go_wp2_with fail
          go_ret
          exact ⟨ret_bool (by (rw [HR.out]); try simp_all), hB0⟩
    · by_cases hd0 : d = ⟨#[]⟩
      · rw [show inB z 1 64 = false from Bool.eq_false_iff.2 (fun e => hz (inB_iff.1 e))] at HZ
        have HR := hid (show opB 3 nm f t z d = false from by rw [HO.out]; exact decide_eq_false (fun e => by exact hz (e.2.1 rfl)))
        subst hd0
        clear HO
        go_enter Tryz.func20, Tryz.ntmps20
        go_wp2_with fail
        refine (HN.out _).mono ?_
        rintro e w9 ⟨rfl, rfl⟩
        go_wp2_with fail
        refine (HZ.out _).mono ?_
        rintro e w9 ⟨rfl, rfl⟩
        go_wp2_with fail
        go_ret
        exact ⟨ret_bool (by (rw [HR.out]); try simp_all), hB0⟩
      · rw [show inB z 1 64 = false from Bool.eq_false_iff.2 (fun e => hz (inB_iff.1 e))] at HZ
        have HR := hid (show opB 3 nm f t z d = false from by rw [HO.out]; exact decide_eq_false (fun e => by exact hz (e.2.1 rfl)))
        have hd1 : ¬ d.toList = [] := fun e => hd0 (bytes_inj (by rw [ByteArray.toList_eq] at e; exact e))
        clear HO
        go_enter Tryz.func20, Tryz.ntmps20
        go_wp2_with fail
        refine (HN.out _).mono ?_
        rintro e w9 ⟨rfl, rfl⟩
        go_wp2_with fail
        refine (HZ.out _).mono ?_
        rintro e w9 ⟨rfl, rfl⟩
        go_wp2_with fail
        go_ret
        exact ⟨ret_bool (by (rw [HR.out]); try simp_all), hB0⟩

set_option maxHeartbeats 4000000 in
set_option maxRecDepth 100000 in
theorem c_sOpValid_4 (nm : ByteArray) (f t z : Int) (d : ByteArray) (w : World) (hn : nm.size ≤ 1048576) (hd : d.size ≤ 2000) (hnm : nmB nm = true) :
    Calls Tryz.prog 20 #[.agg #[.int .i64 4, .string nm, .int .i64 f, .int .i64 t, .int .i64 z, .string d]] w fun e w' => e = .returned (.bool (opB 4 nm f t z d)) ∧ Below w.heap.size w w' := by
  have HN := hid (fun v => c_l8Name nm v hn)
  rw [hnm] at HN
  have HO := hid (opB_in 4 nm f t z d (by omega) hnm (r := false) (s := false) (h := false) (by decide) (by decide) (by decide))
  clear hnm hn
  have kS := Blk.new w 24 #[.int .i64 4, .string nm, .int .i64 f, .int .i64 t, .int .i64 z, .string d]
  obtain ⟨y0, y1, y2, y3, y4, y5⟩ := kS.cells6
  have hB0 : Below w.heap.size w (w.alloc (.cells #[.int .i64 4, .string nm, .int .i64 f, .int .i64 t, .int .i64 z, .string d] 24)) := by exact obB
  clear kS
  obtain ⟨iz, hiz⟩ : ∃ q, q = inB z 1 64 := ⟨_, rfl⟩
  have HZ := hid (fun v => c_l1In z 1 64 v)
  rw [← hiz] at HZ
  clear hiz
  by_cases hz : z = 0
  · by_cases hf0 : f = 0
    · by_cases ht0 : t = 0
      · by_cases hd0 : d = ⟨#[]⟩
        · have HR := hid (show opB 4 nm f t z d = true from by rw [HO.out]; exact (by subst hf0 ht0 hz hd0; exact decide_eq_true ⟨⟨rfl, rfl, rfl, rfl⟩, (fun e => by cases e), by decide, by decide, by decide, by decide⟩))
          subst hz
          subst hf0
          subst ht0
          subst hd0
          clear HO
          go_enter Tryz.func20, Tryz.ntmps20
          go_wp2_with fail
          refine (HN.out _).mono ?_
          rintro e w9 ⟨rfl, rfl⟩
          go_wp2_with fail
          refine (HZ.out _).mono ?_
          rintro e w9 ⟨rfl, rfl⟩
          go_wp2_with fail
          go_ret
          exact ⟨ret_bool (by (rw [HR.out]); try simp_all), hB0⟩
        · have HR := hid (show opB 4 nm f t z d = false from by rw [HO.out]; exact decide_eq_false (fun e => by exact hd0 e.1.2.2.2))
          subst hz
          subst hf0
          subst ht0
          have hd1 : ¬ d.toList = [] := fun e => hd0 (bytes_inj (by rw [ByteArray.toList_eq] at e; exact e))
          clear HO
          go_enter Tryz.func20, Tryz.ntmps20
          go_wp2_with fail
          refine (HN.out _).mono ?_
          rintro e w9 ⟨rfl, rfl⟩
          go_wp2_with fail
          refine (HZ.out _).mono ?_
          rintro e w9 ⟨rfl, rfl⟩
          go_wp2_with fail
          go_ret
          exact ⟨ret_bool (by (rw [HR.out]); try simp_all), hB0⟩
      · by_cases hd0 : d = ⟨#[]⟩
        · have HR := hid (show opB 4 nm f t z d = false from by rw [HO.out]; exact decide_eq_false (fun e => by exact ht0 e.1.2.1))
          subst hz
          subst hf0
          subst hd0
          clear HO
          go_enter Tryz.func20, Tryz.ntmps20
          go_wp2_with fail
          refine (HN.out _).mono ?_
          rintro e w9 ⟨rfl, rfl⟩
          go_wp2_with fail
          refine (HZ.out _).mono ?_
          rintro e w9 ⟨rfl, rfl⟩
          go_wp2_with fail
          go_ret
          exact ⟨ret_bool (by (rw [HR.out]); try simp_all), hB0⟩
        · have HR := hid (show opB 4 nm f t z d = false from by rw [HO.out]; exact decide_eq_false (fun e => by exact ht0 e.1.2.1))
          subst hz
          subst hf0
          have hd1 : ¬ d.toList = [] := fun e => hd0 (bytes_inj (by rw [ByteArray.toList_eq] at e; exact e))
          clear HO
          go_enter Tryz.func20, Tryz.ntmps20
          go_wp2_with fail
          refine (HN.out _).mono ?_
          rintro e w9 ⟨rfl, rfl⟩
          go_wp2_with fail
          refine (HZ.out _).mono ?_
          rintro e w9 ⟨rfl, rfl⟩
          go_wp2_with fail
          go_ret
          exact ⟨ret_bool (by (rw [HR.out]); try simp_all), hB0⟩
    · by_cases hd0 : d = ⟨#[]⟩
      · have HR := hid (show opB 4 nm f t z d = false from by rw [HO.out]; exact decide_eq_false (fun e => by exact hf0 e.1.1))
        subst hz
        subst hd0
        clear HO
        go_enter Tryz.func20, Tryz.ntmps20
        go_wp2_with fail
        refine (HN.out _).mono ?_
        rintro e w9 ⟨rfl, rfl⟩
        go_wp2_with fail
        refine (HZ.out _).mono ?_
        rintro e w9 ⟨rfl, rfl⟩
        go_wp2_with fail
        go_ret
        exact ⟨ret_bool (by (rw [HR.out]); try simp_all), hB0⟩
      · have HR := hid (show opB 4 nm f t z d = false from by rw [HO.out]; exact decide_eq_false (fun e => by exact hf0 e.1.1))
        subst hz
        have hd1 : ¬ d.toList = [] := fun e => hd0 (bytes_inj (by rw [ByteArray.toList_eq] at e; exact e))
        clear HO
        go_enter Tryz.func20, Tryz.ntmps20
        go_wp2_with fail
        refine (HN.out _).mono ?_
        rintro e w9 ⟨rfl, rfl⟩
        go_wp2_with fail
        refine (HZ.out _).mono ?_
        rintro e w9 ⟨rfl, rfl⟩
        go_wp2_with fail
        go_ret
        exact ⟨ret_bool (by (rw [HR.out]); try simp_all), hB0⟩
  · by_cases hf0 : f = 0
    · by_cases ht0 : t = 0
      · by_cases hd0 : d = ⟨#[]⟩
        · have HR := hid (show opB 4 nm f t z d = false from by rw [HO.out]; exact decide_eq_false (fun e => by exact hz e.1.2.2.1))
          subst hf0
          subst ht0
          subst hd0
          clear HO
          go_enter Tryz.func20, Tryz.ntmps20
          go_wp2_with fail
          refine (HN.out _).mono ?_
          rintro e w9 ⟨rfl, rfl⟩
          go_wp2_with fail
          refine (HZ.out _).mono ?_
          rintro e w9 ⟨rfl, rfl⟩
          go_wp2_with fail
          go_ret
          exact ⟨ret_bool (by (rw [HR.out]); try simp_all), hB0⟩
        · have HR := hid (show opB 4 nm f t z d = false from by rw [HO.out]; exact decide_eq_false (fun e => by exact hz e.1.2.2.1))
          subst hf0
          subst ht0
          have hd1 : ¬ d.toList = [] := fun e => hd0 (bytes_inj (by rw [ByteArray.toList_eq] at e; exact e))
          clear HO
          go_enter Tryz.func20, Tryz.ntmps20
          go_wp2_with fail
          refine (HN.out _).mono ?_
          rintro e w9 ⟨rfl, rfl⟩
          go_wp2_with fail
          refine (HZ.out _).mono ?_
          rintro e w9 ⟨rfl, rfl⟩
          go_wp2_with fail
          go_ret
          exact ⟨ret_bool (by (rw [HR.out]); try simp_all), hB0⟩
      · by_cases hd0 : d = ⟨#[]⟩
        · have HR := hid (show opB 4 nm f t z d = false from by rw [HO.out]; exact decide_eq_false (fun e => by exact hz e.1.2.2.1))
          subst hf0
          subst hd0
          clear HO
          go_enter Tryz.func20, Tryz.ntmps20
          go_wp2_with fail
          refine (HN.out _).mono ?_
          rintro e w9 ⟨rfl, rfl⟩
          go_wp2_with fail
          refine (HZ.out _).mono ?_
          rintro e w9 ⟨rfl, rfl⟩
          go_wp2_with fail
          go_ret
          exact ⟨ret_bool (by (rw [HR.out]); try simp_all), hB0⟩
        · have HR := hid (show opB 4 nm f t z d = false from by rw [HO.out]; exact decide_eq_false (fun e => by exact hz e.1.2.2.1))
          subst hf0
          have hd1 : ¬ d.toList = [] := fun e => hd0 (bytes_inj (by rw [ByteArray.toList_eq] at e; exact e))
          clear HO
          go_enter Tryz.func20, Tryz.ntmps20
          go_wp2_with fail
          refine (HN.out _).mono ?_
          rintro e w9 ⟨rfl, rfl⟩
          go_wp2_with fail
          refine (HZ.out _).mono ?_
          rintro e w9 ⟨rfl, rfl⟩
          go_wp2_with fail
          go_ret
          exact ⟨ret_bool (by (rw [HR.out]); try simp_all), hB0⟩
    · by_cases hd0 : d = ⟨#[]⟩
      · have HR := hid (show opB 4 nm f t z d = false from by rw [HO.out]; exact decide_eq_false (fun e => by exact hz e.1.2.2.1))
        subst hd0
        clear HO
        go_enter Tryz.func20, Tryz.ntmps20
        go_wp2_with fail
        refine (HN.out _).mono ?_
        rintro e w9 ⟨rfl, rfl⟩
        go_wp2_with fail
        refine (HZ.out _).mono ?_
        rintro e w9 ⟨rfl, rfl⟩
        go_wp2_with fail
        go_ret
        exact ⟨ret_bool (by (rw [HR.out]); try simp_all), hB0⟩
      · have HR := hid (show opB 4 nm f t z d = false from by rw [HO.out]; exact decide_eq_false (fun e => by exact hz e.1.2.2.1))
        have hd1 : ¬ d.toList = [] := fun e => hd0 (bytes_inj (by rw [ByteArray.toList_eq] at e; exact e))
        clear HO
        go_enter Tryz.func20, Tryz.ntmps20
        go_wp2_with fail
        refine (HN.out _).mono ?_
        rintro e w9 ⟨rfl, rfl⟩
        go_wp2_with fail
        refine (HZ.out _).mono ?_
        rintro e w9 ⟨rfl, rfl⟩
        go_wp2_with fail
        go_ret
        exact ⟨ret_bool (by (rw [HR.out]); try simp_all), hB0⟩

set_option maxHeartbeats 4000000 in
set_option maxRecDepth 100000 in
theorem c_sOpValid_nm (k : Int) (nm : ByteArray) (f t z : Int) (d : ByteArray) (w : World) (hn : nm.size ≤ 1048576) (hnm : nmB nm = false) :
    Calls Tryz.prog 20 #[.agg #[.int .i64 k, .string nm, .int .i64 f, .int .i64 t, .int .i64 z, .string d]] w fun e w' => e = .returned (.bool false) ∧ Below w.heap.size w w' := by
  have HN := hid (fun v => c_l8Name nm v hn)
  rw [hnm] at HN
  clear hnm hn
  have kS := Blk.new w 24 #[.int .i64 k, .string nm, .int .i64 f, .int .i64 t, .int .i64 z, .string d]
  obtain ⟨y0, y1, y2, y3, y4, y5⟩ := kS.cells6
  have hB0 : Below w.heap.size w (w.alloc (.cells #[.int .i64 k, .string nm, .int .i64 f, .int .i64 t, .int .i64 z, .string d] 24)) := by exact obB
  clear kS
  go_enter Tryz.func20, Tryz.ntmps20
  go_wp2_with fail
  refine (HN.out _).mono ?_
  rintro e w9 ⟨rfl, rfl⟩
  go_wp2_with fail
  go_ret
  exact ⟨rfl, hB0⟩

set_option maxHeartbeats 4000000 in
set_option maxRecDepth 100000 in
theorem c_sOpValid_big (k : Int) (nm : ByteArray) (f t z : Int) (d : ByteArray) (w : World) (hn : nm.size ≤ 1048576) (hd : d.size ≤ 1048576) (hd2 : 2000 < (d.size : Int)) (hnm : nmB nm = true) :
    Calls Tryz.prog 20 #[.agg #[.int .i64 k, .string nm, .int .i64 f, .int .i64 t, .int .i64 z, .string d]] w fun e w' => e = .returned (.bool false) ∧ Below w.heap.size w w' := by
  have HN := hid (fun v => c_l8Name nm v hn)
  rw [hnm] at HN
  clear hnm hn
  have kS := Blk.new w 24 #[.int .i64 k, .string nm, .int .i64 f, .int .i64 t, .int .i64 z, .string d]
  obtain ⟨y0, y1, y2, y3, y4, y5⟩ := kS.cells6
  have hB0 : Below w.heap.size w (w.alloc (.cells #[.int .i64 k, .string nm, .int .i64 f, .int .i64 t, .int .i64 z, .string d] 24)) := by exact obB
  clear kS
  go_enter Tryz.func20, Tryz.ntmps20
  go_wp2_with fail
  refine (HN.out _).mono ?_
  rintro e w9 ⟨rfl, rfl⟩
  go_wp2_with fail
  go_ret
  exact ⟨rfl, hB0⟩

set_option maxHeartbeats 4000000 in
set_option maxRecDepth 100000 in
theorem c_sOpValid_kind (k : Int) (nm : ByteArray) (f t z : Int) (d : ByteArray) (w : World) (hn : nm.size ≤ 1048576) (hd : d.size ≤ 2000) (hnm : nmB nm = true) (k0 : ¬ k = 0) (k1 : ¬ k = 1) (k2 : ¬ k = 2) (k3 : ¬ k = 3) (k4 : ¬ k = 4) :
    Calls Tryz.prog 20 #[.agg #[.int .i64 k, .string nm, .int .i64 f, .int .i64 t, .int .i64 z, .string d]] w fun e w' => e = .returned (.bool false) ∧ Below w.heap.size w w' := by
  have HN := hid (fun v => c_l8Name nm v hn)
  rw [hnm] at HN
  clear hnm hn
  obtain ⟨iz, hiz⟩ : ∃ q, q = inB z 1 64 := ⟨_, rfl⟩
  have HZ := hid (fun v => c_l1In z 1 64 v)
  rw [← hiz] at HZ
  clear hiz
  have kS := Blk.new w 24 #[.int .i64 k, .string nm, .int .i64 f, .int .i64 t, .int .i64 z, .string d]
  obtain ⟨y0, y1, y2, y3, y4, y5⟩ := kS.cells6
  have hB0 : Below w.heap.size w (w.alloc (.cells #[.int .i64 k, .string nm, .int .i64 f, .int .i64 t, .int .i64 z, .string d] 24)) := by exact obB
  clear kS
  by_cases hf0 : f = 0
  · subst hf0
    go_enter Tryz.func20, Tryz.ntmps20
    go_wp2_with fail
    refine (HN.out _).mono ?_
    rintro e w9 ⟨rfl, rfl⟩
    go_wp2_with fail
    refine (HZ.out _).mono ?_
    rintro e w9 ⟨rfl, rfl⟩
    go_wp2_with fail
    go_ret
    exact ⟨rfl, hB0⟩
  · go_enter Tryz.func20, Tryz.ntmps20
    go_wp2_with fail
    refine (HN.out _).mono ?_
    rintro e w9 ⟨rfl, rfl⟩
    go_wp2_with fail
    refine (HZ.out _).mono ?_
    rintro e w9 ⟨rfl, rfl⟩
    go_wp2_with fail
    go_ret
    exact ⟨rfl, hB0⟩

theorem c_sOpValid (k : Int) (nm : ByteArray) (f t z : Int) (d : ByteArray) (w : World) (hn : nm.size ≤ 1048576) (hd : d.size ≤ 1048576) :
    Calls Tryz.prog 20 #[.agg #[.int .i64 k, .string nm, .int .i64 f, .int .i64 t, .int .i64 z, .string d]] w fun e w' => e = .returned (.bool (opB k nm f t z d)) ∧ Below w.heap.size w w' := by
  by_cases hnm : nmB nm = true
  · by_cases hd2 : 2000 < (d.size : Int)
    · rw [show opB k nm f t z d = false from decide_eq_false fun e => by have := e.2.2.2.2.2.2.2; omega]
      exact c_sOpValid_big k nm f t z d w hn hd hd2 hnm
    · by_cases k0 : k = 0
      · subst k0; exact c_sOpValid_0 nm f t z d w hn (by omega) hnm
      by_cases k1 : k = 1
      · subst k1; exact c_sOpValid_1 nm f t z d w hn (by omega) hnm
      by_cases k2 : k = 2
      · subst k2; exact c_sOpValid_2 nm f t z d w hn (by omega) hnm
      by_cases k3 : k = 3
      · subst k3; exact c_sOpValid_3 nm f t z d w hn (by omega) hnm
      by_cases k4 : k = 4
      · subst k4; exact c_sOpValid_4 nm f t z d w hn (by omega) hnm
      rw [show opB k nm f t z d = false from decide_eq_false fun e => by omega]
      exact c_sOpValid_kind k nm f t z d w hn (by omega) hnm k0 k1 k2 k3 k4
  · rw [show opB k nm f t z d = false from decide_eq_false fun e => hnm e.2.1]
    exact c_sOpValid_nm k nm f t z d w hn (Bool.eq_false_iff.2 hnm)
end Go.Proofs.YtaiemogcboidhaaGreatDoor
