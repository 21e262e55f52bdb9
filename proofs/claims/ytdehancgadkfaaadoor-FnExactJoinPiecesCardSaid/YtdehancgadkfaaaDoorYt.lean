/- Contracts: the two bytes of a number, a block's header, its bytes, whether it is one; in both programs. The layout of the header is as the program's text lays it. -/
import Derived.Test.YtdehancgadkfaaaDoorYm
import Derived.Test.YtdehancgadkfaaaDoorSc
import Derived.Test.YtdehancgadkfaaaDoorBb
import Derived.Test.YtdehancgadkfaaaDoorGo
import Derived.Test.YtdehancgadkfaaaDoorYo
import Derived.Deep.QuietTactic
import Derived.BigQuiet
import Derived.LoopN
import Derived.WalkLawsBesides
namespace Go.Proofs.YtdehancgadkfaaaDoor
open Go.ChangeShapes Go.WideShapes Go.ChangeAt Go.RowKit Go.Joins
set_option linter.unusedVariables false
set_option linter.unusedSimpArgs false

theorem run_two {P : Program} {e src dst : TypeId} (hs : P.underlying src = some (.slice e)) (he : P.underlying e = some (.int .u8)) (hd : P.underlying dst = some .string) (n : Nat) (w : World) :
    (convert src dst (.slice (some ⟨w.heap.size, 0, none⟩) 2 2)).run P (w.alloc (.cells #[.int .u8 ((n : Int) / 256 % 256), .int .u8 ((n : Int) % 256)] e)) = .ok (.string (str (two n))) (w.alloc (.cells #[.int .u8 ((n : Int) / 256 % 256), .int .u8 ((n : Int) % 256)] e)) := by
  refine run_convert_bytes_back (l := two n) _ src dst e ⟨w.heap.size, 0, none⟩ 2 hs he hd ?_
  intro j hj
  have h0 : (((UInt8.ofNat (n / 256)).toNat : Nat) : Int) = (n : Int) / 256 % 256 := by rw [UInt8.toNat_ofNat']; omega
  have h1 : (((UInt8.ofNat n).toNat : Nat) : Int) = (n : Int) % 256 := by rw [UInt8.toNat_ofNat']; omega
  refine two_new w _ _ e j _ ?_
  match j, hj with
  | 0, _ => simp only [two, List.getElem_cons_zero, h0]; rfl
  | 1, _ => simp only [two, List.getElem_cons_succ, List.getElem_cons_zero, h1]; rfl

set_option maxRecDepth 100000 in
theorem c_l4Two (n : Nat) (w : World) (h : n ≤ 9223372036854775807) : Calls Tryd.prog 50 #[.int .i64 (n : Int)] w fun e w' => e = .returned (.string (str (two n))) ∧ Below w.heap.size w w' := by
  have hc := run_two Tryd.underlying54 Tryd.underlying5 Tryd.underlying9 n
  go_enter Tryd.func50, Tryd.ntmps50
  go_wp2
  go_ret
  exact ⟨rfl, by (repeat (first | with_reducible (first | assumption | exact Below.refl _ _ | refine bel_alloc ?_ _ | refine bel_drew ?_ | refine bel_drewN ?_ _ | refine bel_set ?_ (by first | omega | (simp; done) | (simp; omega)) _ | refine bel_trans ?_ (by assumption)) | assumption | refine bel_trans ?_ (by assumption)))⟩

set_option maxRecDepth 100000 in
theorem c_twoBytes (n : Nat) (w : World) (h : n ≤ 9223372036854775807) : Calls Tryd.prog 57 #[.int .i64 (n : Int)] w fun e w' => e = .returned (.string (str (two n))) ∧ Below w.heap.size w w' := by
  have hc := run_two Tryd.underlying54 Tryd.underlying5 Tryd.underlying9 n
  go_enter Tryd.func57, Tryd.ntmps57
  go_wp2
  go_ret
  exact ⟨rfl, by (repeat (first | with_reducible (first | assumption | exact Below.refl _ _ | refine bel_alloc ?_ _ | refine bel_drew ?_ | refine bel_drewN ?_ _ | refine bel_set ?_ (by first | omega | (simp; done) | (simp; omega)) _ | refine bel_trans ?_ (by assumption)) | assumption | refine bel_trans ?_ (by assumption)))⟩

theorem c_headerOf (b : Bl) (w : World) : Calls Tryd.prog 55 #[.agg #[.int .i64 b.n, .bool b.raw, .int .i64 b.z, .string b.body]] w fun e w' => e = .returned (.agg #[.int .i64 181, .int .i64 (b.kind.toNat : Int), .int .i64 b.n, .int .i64 b.z, .int .i64 (b.body.size : Int)]) ∧ Below w.heap.size w w' := by
  have h0 : b.raw = false → (b.kind.toNat : Int) = 1 := fun h => by simp [Bl.kind, h]
  have h1 : b.raw = true → (b.kind.toNat : Int) = 0 := fun h => by simp [Bl.kind, h]
  have H0 := hid h0
  have H1 := hid h1
  clear h0 h1
  go_enter Tryd.func55, Tryd.ntmps55
  go_wp2_with fail
  · rename_i hr
    rw [H1.out hr]
    exact bodyPost_ret (v := .agg #[.int .i64 181, .int .i64 0, .int .i64 b.n, .int .i64 b.z, .int .i64 (b.body.size : Int)]) (by simp [results, Tryd.results55, go_sem]) rfl ⟨rfl, by (repeat (first | with_reducible (first | assumption | exact Below.refl _ _ | refine bel_alloc ?_ _ | refine bel_drew ?_ | refine bel_drewN ?_ _ | refine bel_set ?_ (by first | omega | (simp; done) | (simp; omega)) _ | refine bel_trans ?_ (by assumption)) | assumption | refine bel_trans ?_ (by assumption)))⟩
  · rename_i hr
    rw [H0.out hr]
    exact bodyPost_ret (v := .agg #[.int .i64 181, .int .i64 1, .int .i64 b.n, .int .i64 b.z, .int .i64 (b.body.size : Int)]) (by simp [results, Tryd.results55, go_sem]) rfl ⟨rfl, by (repeat (first | with_reducible (first | assumption | exact Below.refl _ _ | refine bel_alloc ?_ _ | refine bel_drew ?_ | refine bel_drewN ?_ _ | refine bel_set ?_ (by first | omega | (simp; done) | (simp; omega)) _ | refine bel_trans ?_ (by assumption)) | assumption | refine bel_trans ?_ (by assumption)))⟩

/-- the layout of a header, as the program's text lays it -/
def Lay (w : World) : Prop := ∃ t, w.heap[ 0 ]? = some (.cells #[.int .i64 1, .int .i64 181, .int .i64 181, .int .i64 1, .int .i64 0, .int .i64 1, .int .i64 2, .int .i64 0, .int .i64 39, .int .i64 2, .int .i64 1, .int .i64 64, .int .i64 2, .int .i64 1, .int .i64 64] t (0, 0))

theorem Lay.on {w w' : World} (h : Lay w) (hb : Below w.heap.size w w') : Lay w' := by
  obtain ⟨t, h⟩ := h
  exact ⟨t, (Blk.on (t := t) h hb)⟩

/-- a byte that is a number's lowest one -/
theorem u8_low (X : Int) (h : 0 ≤ X) : X % 256 = ((UInt8.ofNat X.toNat).toNat : Int) := by
  rw [UInt8.toNat_ofNat']; omega

set_option maxHeartbeats 4000000 in
set_option maxRecDepth 100000 in
theorem c_appendTo (k n z m : Nat) (w : World) (hL : Lay w) (hk : k ≤ 1) (hn : n ≤ 39) (hz : z ≤ 64) (hm : m ≤ 64) : Calls Tryd.prog 56 #[.agg #[.int .i64 181, .int .i64 (k : Int), .int .i64 (n : Int), .int .i64 (z : Int), .int .i64 (m : Int)], .slice none 0 0] w fun e w' => ∃ v, e = .returned v ∧ w'.ownsRow w.heap.size 5 1 v 8 ((181 :: UInt8.ofNat k :: (two n ++ two z ++ two m)).map vb) ∧ Below w.heap.size w w' := by
  obtain ⟨tt, hg⟩ := hL.on (bel_alloc (Below.refl _ w) (.cells #[.int .i64 181, .int .i64 (k : Int), .int .i64 (n : Int), .int .i64 (z : Int), .int .i64 (m : Int)] 97))
  have i0 : ∀ W : World, (Instr.index 57 (.agg #[.int .i64 1, .int .i64 181, .int .i64 181, .int .i64 1, .int .i64 0, .int .i64 1, .int .i64 2, .int .i64 0, .int .i64 39, .int .i64 2, .int .i64 1, .int .i64 64, .int .i64 2, .int .i64 1, .int .i64 64]) (.int .i64 0)).run Tryd.prog W = .ok (.agg #[.int .i64 1, .int .i64 181, .int .i64 181]) W := fun _ => by kernel_rfl
  have i1 : ∀ W : World, (Instr.index 57 (.agg #[.int .i64 1, .int .i64 181, .int .i64 181, .int .i64 1, .int .i64 0, .int .i64 1, .int .i64 2, .int .i64 0, .int .i64 39, .int .i64 2, .int .i64 1, .int .i64 64, .int .i64 2, .int .i64 1, .int .i64 64]) (.int .i64 1)).run Tryd.prog W = .ok (.agg #[.int .i64 1, .int .i64 0, .int .i64 1]) W := fun _ => by kernel_rfl
  have i2 : ∀ W : World, (Instr.index 57 (.agg #[.int .i64 1, .int .i64 181, .int .i64 181, .int .i64 1, .int .i64 0, .int .i64 1, .int .i64 2, .int .i64 0, .int .i64 39, .int .i64 2, .int .i64 1, .int .i64 64, .int .i64 2, .int .i64 1, .int .i64 64]) (.int .i64 2)).run Tryd.prog W = .ok (.agg #[.int .i64 2, .int .i64 0, .int .i64 39]) W := fun _ => by kernel_rfl
  have i3 : ∀ W : World, (Instr.index 57 (.agg #[.int .i64 1, .int .i64 181, .int .i64 181, .int .i64 1, .int .i64 0, .int .i64 1, .int .i64 2, .int .i64 0, .int .i64 39, .int .i64 2, .int .i64 1, .int .i64 64, .int .i64 2, .int .i64 1, .int .i64 64]) (.int .i64 3)).run Tryd.prog W = .ok (.agg #[.int .i64 2, .int .i64 1, .int .i64 64]) W := fun _ => by kernel_rfl
  have i4 : ∀ W : World, (Instr.index 57 (.agg #[.int .i64 1, .int .i64 181, .int .i64 181, .int .i64 1, .int .i64 0, .int .i64 1, .int .i64 2, .int .i64 0, .int .i64 39, .int .i64 2, .int .i64 1, .int .i64 64, .int .i64 2, .int .i64 1, .int .i64 64]) (.int .i64 4)).run Tryd.prog W = .ok (.agg #[.int .i64 2, .int .i64 1, .int .i64 64]) W := fun _ => by kernel_rfl
  go_enter Tryd.func56, Tryd.ntmps56
  go_wp2_with (refine wpList_load_row rfl 57 _ rfl 0 rfl tt _ _ _ hg Tryd.underlying57 rfl (by kernel_rfl) ?_)
  clear hg
  obtain ⟨W, hW⟩ : ∃ W, W = w.alloc (.cells #[.int .i64 181, .int .i64 (k : Int), .int .i64 (n : Int), .int .i64 (z : Int), .int .i64 (m : Int)] 97) := ⟨_, rfl⟩
  have HH : Blk W w.heap.size 97 #[.int .i64 181, .int .i64 (k : Int), .int .i64 (n : Int), .int .i64 (z : Int), .int .i64 (m : Int)] := by rw [hW]; exact Blk.new w _ _
  have hbel : Below w.heap.size w W := by rw [hW]; exact bel_alloc (Below.refl _ w) _
  have HO : W.ownsRow w.heap.size 5 1 (.slice none 0 0) 0 (([] : List UInt8).map vb) := own_nil _ _ _
  rw [← hW]
  obtain ⟨B, hBe⟩ : ∃ B, B = w.heap.size := ⟨_, rfl⟩
  rw [← hBe] at HH HO ⊢
  have HBel := hid (show Below w.heap.size w W from hbel)
  have hlt : B < W.heap.size := HH.lt
  have hBe2 := hid hBe
  clear hW hbel hBe
  refine wp_loop_rounds 6 ?_
  obtain ⟨q0, q1, q2, q3, q4⟩ := HH.cells5y
  rw [rounds_succ]
  go_wp2_with fail
  have HF := Blk.new W 56 #[.int .i64 1, .int .i64 181, .int .i64 181]
  have HH2 := HH.alloc (.cells #[.int .i64 1, .int .i64 181, .int .i64 181] 56)
  have HO2 := HO.alloc (.cells #[.int .i64 1, .int .i64 181, .int .i64 181] 56)
  have HBel2 := hid (bel_alloc HBel.out (.cells #[.int .i64 1, .int .i64 181, .int .i64 181] 56))
  obtain ⟨fb0, hfb⟩ : ∃ fb, fb = W.heap.size := ⟨_, rfl⟩
  obtain ⟨Wf0, hWf0⟩ : ∃ Wf0, Wf0 = W.alloc (.cells #[.int .i64 1, .int .i64 181, .int .i64 181] 56) := ⟨_, rfl⟩
  rw [← hWf0, ← hfb] at HF
  rw [← hWf0] at HH2 HO2 HBel2
  rw [← hWf0, ← hfb]
  have hlt2 : B < Wf0.heap.size := HH2.lt
  have hltf : fb0 < Wf0.heap.size := HF.lt
  clear q0 q1 q2 q3 q4 HH HO HBel hlt hfb hWf0
  refine wp_loop_rounds 2 ?_
  obtain ⟨q0, q1, q2, q3, q4⟩ := HH2.cells5y
  obtain ⟨y0, y1, y2⟩ := HF.cells3
  rw [rounds_succ]
  go_wp2_with (at_builtin; refine app_byte rfl _ _ 54 rfl B 5 Tryd.underlying54 Tryd.info_u8y _ 0 [] rfl HO2 181 _ (by rfl) 1 rfl (by omega) (by omega) ?_; intro v0 W0 hown hbb hgg; have HH3 := y_box HH2 HO2 (by decide) hgg; have HF3 := y_box HF HO2 (by decide) hgg; have HBel3 := hid (y_bel HBel2.out HO2 (by have := hBe2.out; omega) hgg); clear q0 q1 q2 q3 q4 y0 y1 y2 hlt2 hltf hbb hgg HO2 HH2 HF HBel2; rename W0.ownsRow _ _ _ _ _ _ => HO2; rename Blk W0 B _ _ => HH2; rename Blk W0 fb0 _ _ => HF; rename Hid (Below _ _ W0) => HBel2; have hlt2 : B < W0.heap.size := HH2.lt; have hltf : fb0 < W0.heap.size := HF.lt)
  obtain ⟨q0, q1, q2, q3, q4⟩ := HH2.cells5y
  obtain ⟨y0, y1, y2⟩ := HF.cells3
  rw [rounds_succ]
  go_wp2_with fail
  clear q0 q1 q2 q3 q4 y0 y1 y2 HF hltf hlt2
  rename Blk W0 B _ _ => HH
  rename W0.ownsRow _ _ _ _ _ _ => HO
  rename Hid (Below _ _ W0) => HBel
  have hlt : B < W0.heap.size := HH.lt
  obtain ⟨q0, q1, q2, q3, q4⟩ := HH.cells5y
  rw [rounds_succ]
  go_wp2_with fail
  have HF := Blk.new W0 56 #[.int .i64 1, .int .i64 0, .int .i64 1]
  have HH2 := HH.alloc (.cells #[.int .i64 1, .int .i64 0, .int .i64 1] 56)
  have HO2 := HO.alloc (.cells #[.int .i64 1, .int .i64 0, .int .i64 1] 56)
  have HBel2 := hid (bel_alloc HBel.out (.cells #[.int .i64 1, .int .i64 0, .int .i64 1] 56))
  obtain ⟨fb1, hfb⟩ : ∃ fb, fb = W0.heap.size := ⟨_, rfl⟩
  obtain ⟨Wf1, hWf1⟩ : ∃ Wf1, Wf1 = W0.alloc (.cells #[.int .i64 1, .int .i64 0, .int .i64 1] 56) := ⟨_, rfl⟩
  rw [← hWf1, ← hfb] at HF
  rw [← hWf1] at HH2 HO2 HBel2
  rw [← hWf1, ← hfb]
  have hlt2 : B < Wf1.heap.size := HH2.lt
  have hltf : fb1 < Wf1.heap.size := HF.lt
  clear q0 q1 q2 q3 q4 HH HO HBel hlt hfb hWf1
  refine wp_loop_rounds 2 ?_
  obtain ⟨q0, q1, q2, q3, q4⟩ := HH2.cells5y
  obtain ⟨y0, y1, y2⟩ := HF.cells3
  rw [rounds_succ]
  go_wp2_with (at_builtin; refine app_byte rfl _ _ 54 rfl B 5 Tryd.underlying54 Tryd.info_u8y _ 1 [181] rfl HO2 (UInt8.ofNat k) _ (by rw [UInt8.toNat_ofNat']; omega) 1 rfl (by omega) (by omega) ?_; intro v1 W1 hown hbb hgg; have HH3 := y_box HH2 HO2 (by decide) hgg; have HF3 := y_box HF HO2 (by decide) hgg; have HBel3 := hid (y_bel HBel2.out HO2 (by have := hBe2.out; omega) hgg); clear q0 q1 q2 q3 q4 y0 y1 y2 hlt2 hltf hbb hgg HO2 HH2 HF HBel2; rename W1.ownsRow _ _ _ _ _ _ => HO2; rename Blk W1 B _ _ => HH2; rename Blk W1 fb1 _ _ => HF; rename Hid (Below _ _ W1) => HBel2; have hlt2 : B < W1.heap.size := HH2.lt; have hltf : fb1 < W1.heap.size := HF.lt)
  obtain ⟨q0, q1, q2, q3, q4⟩ := HH2.cells5y
  obtain ⟨y0, y1, y2⟩ := HF.cells3
  rw [rounds_succ]
  go_wp2_with fail
  clear q0 q1 q2 q3 q4 y0 y1 y2 HF hltf hlt2
  rename Blk W1 B _ _ => HH
  rename W1.ownsRow _ _ _ _ _ _ => HO
  rename Hid (Below _ _ W1) => HBel
  have hlt : B < W1.heap.size := HH.lt
  obtain ⟨q0, q1, q2, q3, q4⟩ := HH.cells5y
  rw [rounds_succ]
  go_wp2_with fail
  have HF := Blk.new W1 56 #[.int .i64 2, .int .i64 0, .int .i64 39]
  have HH2 := HH.alloc (.cells #[.int .i64 2, .int .i64 0, .int .i64 39] 56)
  have HO2 := HO.alloc (.cells #[.int .i64 2, .int .i64 0, .int .i64 39] 56)
  have HBel2 := hid (bel_alloc HBel.out (.cells #[.int .i64 2, .int .i64 0, .int .i64 39] 56))
  obtain ⟨fb2, hfb⟩ : ∃ fb, fb = W1.heap.size := ⟨_, rfl⟩
  obtain ⟨Wf2, hWf2⟩ : ∃ Wf2, Wf2 = W1.alloc (.cells #[.int .i64 2, .int .i64 0, .int .i64 39] 56) := ⟨_, rfl⟩
  rw [← hWf2, ← hfb] at HF
  rw [← hWf2] at HH2 HO2 HBel2
  rw [← hWf2, ← hfb]
  have hlt2 : B < Wf2.heap.size := HH2.lt
  have hltf : fb2 < Wf2.heap.size := HF.lt
  clear q0 q1 q2 q3 q4 HH HO HBel hlt hfb hWf2
  refine wp_loop_rounds 3 ?_
  obtain ⟨q0, q1, q2, q3, q4⟩ := HH2.cells5y
  obtain ⟨y0, y1, y2⟩ := HF.cells3
  rw [rounds_succ]
  go_wp2_with (at_builtin; refine app_byte rfl _ _ 54 rfl B 5 Tryd.underlying54 Tryd.info_u8y _ 2 [181, (UInt8.ofNat k)] rfl HO2 (UInt8.ofNat (n / 256)) _ (by rw [UInt8.toNat_ofNat']; omega) 1 rfl (by omega) (by omega) ?_; intro v2 W2 hown hbb hgg; have HH3 := y_box HH2 HO2 (by decide) hgg; have HF3 := y_box HF HO2 (by decide) hgg; have HBel3 := hid (y_bel HBel2.out HO2 (by have := hBe2.out; omega) hgg); clear q0 q1 q2 q3 q4 y0 y1 y2 hlt2 hltf hbb hgg HO2 HH2 HF HBel2; rename W2.ownsRow _ _ _ _ _ _ => HO2; rename Blk W2 B _ _ => HH2; rename Blk W2 fb2 _ _ => HF; rename Hid (Below _ _ W2) => HBel2; have hlt2 : B < W2.heap.size := HH2.lt; have hltf : fb2 < W2.heap.size := HF.lt)
  obtain ⟨q0, q1, q2, q3, q4⟩ := HH2.cells5y
  obtain ⟨y0, y1, y2⟩ := HF.cells3
  rw [rounds_succ]
  go_wp2_with (at_builtin; refine app_byte rfl _ _ 54 rfl B 5 Tryd.underlying54 Tryd.info_u8y _ 3 [181, (UInt8.ofNat k), (UInt8.ofNat (n / 256))] rfl HO2 (UInt8.ofNat n) _ (by rw [UInt8.toNat_ofNat']; omega) 1 rfl (by omega) (by omega) ?_; intro v3 W3 hown hbb hgg; have HH3 := y_box HH2 HO2 (by decide) hgg; have HF3 := y_box HF HO2 (by decide) hgg; have HBel3 := hid (y_bel HBel2.out HO2 (by have := hBe2.out; omega) hgg); clear q0 q1 q2 q3 q4 y0 y1 y2 hlt2 hltf hbb hgg HO2 HH2 HF HBel2; rename W3.ownsRow _ _ _ _ _ _ => HO2; rename Blk W3 B _ _ => HH2; rename Blk W3 fb2 _ _ => HF; rename Hid (Below _ _ W3) => HBel2; have hlt2 : B < W3.heap.size := HH2.lt; have hltf : fb2 < W3.heap.size := HF.lt)
  obtain ⟨q0, q1, q2, q3, q4⟩ := HH2.cells5y
  obtain ⟨y0, y1, y2⟩ := HF.cells3
  rw [rounds_succ]
  go_wp2_with fail
  clear q0 q1 q2 q3 q4 y0 y1 y2 HF hltf hlt2
  rename Blk W3 B _ _ => HH
  rename W3.ownsRow _ _ _ _ _ _ => HO
  rename Hid (Below _ _ W3) => HBel
  have hlt : B < W3.heap.size := HH.lt
  obtain ⟨q0, q1, q2, q3, q4⟩ := HH.cells5y
  rw [rounds_succ]
  go_wp2_with fail
  have HF := Blk.new W3 56 #[.int .i64 2, .int .i64 1, .int .i64 64]
  have HH2 := HH.alloc (.cells #[.int .i64 2, .int .i64 1, .int .i64 64] 56)
  have HO2 := HO.alloc (.cells #[.int .i64 2, .int .i64 1, .int .i64 64] 56)
  have HBel2 := hid (bel_alloc HBel.out (.cells #[.int .i64 2, .int .i64 1, .int .i64 64] 56))
  obtain ⟨fb3, hfb⟩ : ∃ fb, fb = W3.heap.size := ⟨_, rfl⟩
  obtain ⟨Wf3, hWf3⟩ : ∃ Wf3, Wf3 = W3.alloc (.cells #[.int .i64 2, .int .i64 1, .int .i64 64] 56) := ⟨_, rfl⟩
  rw [← hWf3, ← hfb] at HF
  rw [← hWf3] at HH2 HO2 HBel2
  rw [← hWf3, ← hfb]
  have hlt2 : B < Wf3.heap.size := HH2.lt
  have hltf : fb3 < Wf3.heap.size := HF.lt
  clear q0 q1 q2 q3 q4 HH HO HBel hlt hfb hWf3
  refine wp_loop_rounds 3 ?_
  obtain ⟨q0, q1, q2, q3, q4⟩ := HH2.cells5y
  obtain ⟨y0, y1, y2⟩ := HF.cells3
  rw [rounds_succ]
  go_wp2_with (at_builtin; refine app_byte rfl _ _ 54 rfl B 5 Tryd.underlying54 Tryd.info_u8y _ 4 [181, (UInt8.ofNat k), (UInt8.ofNat (n / 256)), (UInt8.ofNat n)] rfl HO2 (UInt8.ofNat (z / 256)) _ (by rw [UInt8.toNat_ofNat']; omega) 1 rfl (by omega) (by omega) ?_; intro v4 W4 hown hbb hgg; have HH3 := y_box HH2 HO2 (by decide) hgg; have HF3 := y_box HF HO2 (by decide) hgg; have HBel3 := hid (y_bel HBel2.out HO2 (by have := hBe2.out; omega) hgg); clear q0 q1 q2 q3 q4 y0 y1 y2 hlt2 hltf hbb hgg HO2 HH2 HF HBel2; rename W4.ownsRow _ _ _ _ _ _ => HO2; rename Blk W4 B _ _ => HH2; rename Blk W4 fb3 _ _ => HF; rename Hid (Below _ _ W4) => HBel2; have hlt2 : B < W4.heap.size := HH2.lt; have hltf : fb3 < W4.heap.size := HF.lt)
  obtain ⟨q0, q1, q2, q3, q4⟩ := HH2.cells5y
  obtain ⟨y0, y1, y2⟩ := HF.cells3
  rw [rounds_succ]
  go_wp2_with (at_builtin; refine app_byte rfl _ _ 54 rfl B 5 Tryd.underlying54 Tryd.info_u8y _ 5 [181, (UInt8.ofNat k), (UInt8.ofNat (n / 256)), (UInt8.ofNat n), (UInt8.ofNat (z / 256))] rfl HO2 (UInt8.ofNat z) _ (by rw [UInt8.toNat_ofNat']; omega) 1 rfl (by omega) (by omega) ?_; intro v5 W5 hown hbb hgg; have HH3 := y_box HH2 HO2 (by decide) hgg; have HF3 := y_box HF HO2 (by decide) hgg; have HBel3 := hid (y_bel HBel2.out HO2 (by have := hBe2.out; omega) hgg); clear q0 q1 q2 q3 q4 y0 y1 y2 hlt2 hltf hbb hgg HO2 HH2 HF HBel2; rename W5.ownsRow _ _ _ _ _ _ => HO2; rename Blk W5 B _ _ => HH2; rename Blk W5 fb3 _ _ => HF; rename Hid (Below _ _ W5) => HBel2; have hlt2 : B < W5.heap.size := HH2.lt; have hltf : fb3 < W5.heap.size := HF.lt)
  obtain ⟨q0, q1, q2, q3, q4⟩ := HH2.cells5y
  obtain ⟨y0, y1, y2⟩ := HF.cells3
  rw [rounds_succ]
  go_wp2_with fail
  clear q0 q1 q2 q3 q4 y0 y1 y2 HF hltf hlt2
  rename Blk W5 B _ _ => HH
  rename W5.ownsRow _ _ _ _ _ _ => HO
  rename Hid (Below _ _ W5) => HBel
  have hlt : B < W5.heap.size := HH.lt
  obtain ⟨q0, q1, q2, q3, q4⟩ := HH.cells5y
  rw [rounds_succ]
  go_wp2_with fail
  have HF := Blk.new W5 56 #[.int .i64 2, .int .i64 1, .int .i64 64]
  have HH2 := HH.alloc (.cells #[.int .i64 2, .int .i64 1, .int .i64 64] 56)
  have HO2 := HO.alloc (.cells #[.int .i64 2, .int .i64 1, .int .i64 64] 56)
  have HBel2 := hid (bel_alloc HBel.out (.cells #[.int .i64 2, .int .i64 1, .int .i64 64] 56))
  obtain ⟨fb4, hfb⟩ : ∃ fb, fb = W5.heap.size := ⟨_, rfl⟩
  obtain ⟨Wf4, hWf4⟩ : ∃ Wf4, Wf4 = W5.alloc (.cells #[.int .i64 2, .int .i64 1, .int .i64 64] 56) := ⟨_, rfl⟩
  rw [← hWf4, ← hfb] at HF
  rw [← hWf4] at HH2 HO2 HBel2
  rw [← hWf4, ← hfb]
  have hlt2 : B < Wf4.heap.size := HH2.lt
  have hltf : fb4 < Wf4.heap.size := HF.lt
  clear q0 q1 q2 q3 q4 HH HO HBel hlt hfb hWf4
  refine wp_loop_rounds 3 ?_
  obtain ⟨q0, q1, q2, q3, q4⟩ := HH2.cells5y
  obtain ⟨y0, y1, y2⟩ := HF.cells3
  rw [rounds_succ]
  go_wp2_with (at_builtin; refine app_byte rfl _ _ 54 rfl B 5 Tryd.underlying54 Tryd.info_u8y _ 6 [181, (UInt8.ofNat k), (UInt8.ofNat (n / 256)), (UInt8.ofNat n), (UInt8.ofNat (z / 256)), (UInt8.ofNat z)] rfl HO2 (UInt8.ofNat (m / 256)) _ (by rw [UInt8.toNat_ofNat']; omega) 1 rfl (by omega) (by omega) ?_; intro v6 W6 hown hbb hgg; have HH3 := y_box HH2 HO2 (by decide) hgg; have HF3 := y_box HF HO2 (by decide) hgg; have HBel3 := hid (y_bel HBel2.out HO2 (by have := hBe2.out; omega) hgg); clear q0 q1 q2 q3 q4 y0 y1 y2 hlt2 hltf hbb hgg HO2 HH2 HF HBel2; rename W6.ownsRow _ _ _ _ _ _ => HO2; rename Blk W6 B _ _ => HH2; rename Blk W6 fb4 _ _ => HF; rename Hid (Below _ _ W6) => HBel2; have hlt2 : B < W6.heap.size := HH2.lt; have hltf : fb4 < W6.heap.size := HF.lt)
  obtain ⟨q0, q1, q2, q3, q4⟩ := HH2.cells5y
  obtain ⟨y0, y1, y2⟩ := HF.cells3
  rw [rounds_succ]
  go_wp2_with (at_builtin; refine app_byte rfl _ _ 54 rfl B 5 Tryd.underlying54 Tryd.info_u8y _ 7 [181, (UInt8.ofNat k), (UInt8.ofNat (n / 256)), (UInt8.ofNat n), (UInt8.ofNat (z / 256)), (UInt8.ofNat z), (UInt8.ofNat (m / 256))] rfl HO2 (UInt8.ofNat m) _ (by rw [UInt8.toNat_ofNat']; omega) 1 rfl (by omega) (by omega) ?_; intro v7 W7 hown hbb hgg; have HH3 := y_box HH2 HO2 (by decide) hgg; have HF3 := y_box HF HO2 (by decide) hgg; have HBel3 := hid (y_bel HBel2.out HO2 (by have := hBe2.out; omega) hgg); clear q0 q1 q2 q3 q4 y0 y1 y2 hlt2 hltf hbb hgg HO2 HH2 HF HBel2; rename W7.ownsRow _ _ _ _ _ _ => HO2; rename Blk W7 B _ _ => HH2; rename Blk W7 fb4 _ _ => HF; rename Hid (Below _ _ W7) => HBel2; have hlt2 : B < W7.heap.size := HH2.lt; have hltf : fb4 < W7.heap.size := HF.lt)
  obtain ⟨q0, q1, q2, q3, q4⟩ := HH2.cells5y
  obtain ⟨y0, y1, y2⟩ := HF.cells3
  rw [rounds_succ]
  go_wp2_with fail
  clear q0 q1 q2 q3 q4 y0 y1 y2 HF hltf hlt2
  rename Blk W7 B _ _ => HH
  rename W7.ownsRow _ _ _ _ _ _ => HO
  rename Hid (Below _ _ W7) => HBel
  have hlt : B < W7.heap.size := HH.lt
  rw [rounds_succ]
  go_wp2_with fail
  go_ret
  exact ⟨_, rfl, by have := hBe2.out; subst this; exact HO, by have := hBe2.out; subst this; exact HBel.out⟩

theorem c_allows (c lo hi n : Int) (w : World) : Calls Tryd.prog 31 #[.agg #[.int .i64 c, .int .i64 lo, .int .i64 hi], .int .i64 n] w fun e w' => e = .returned (.bool (inB n lo hi)) ∧ Below w.heap.size w w' := by
  by_cases h1 : lo ≤ n
  · by_cases h2 : n ≤ hi
    all_goals
      go_enter Tryd.func31, Tryd.ntmps31
      go_wp2
      go_ret
      exact ⟨ret_bool (by simp [inB]; omega), by (repeat (first | with_reducible (first | assumption | exact Below.refl _ _ | refine bel_alloc ?_ _ | refine bel_drew ?_ | refine bel_drewN ?_ _ | refine bel_set ?_ (by first | omega | (simp; done) | (simp; omega)) _ | refine bel_trans ?_ (by assumption)) | assumption | refine bel_trans ?_ (by assumption)))⟩
  · go_enter Tryd.func31, Tryd.ntmps31
    go_wp2
    go_ret
    exact ⟨ret_bool (by simp [inB]; omega), by (repeat (first | with_reducible (first | assumption | exact Below.refl _ _ | refine bel_alloc ?_ _ | refine bel_drew ?_ | refine bel_drewN ?_ _ | refine bel_set ?_ (by first | omega | (simp; done) | (simp; omega)) _ | refine bel_trans ?_ (by assumption)) | assumption | refine bel_trans ?_ (by assumption)))⟩

theorem c_l5Number (n : Int) (w : World) : Calls Tryd.prog 73 #[.int .i64 n] w (Same (.bool (inB n 0 39)) w) := by
  go_enter Tryd.func73, Tryd.ntmps73
  go_wp2_with ((go_at_call 29; refine (c_l1In _ _ _ _).mono ?_; rintro e w' ⟨rfl, rfl⟩))
  go_ret
  exact ⟨rfl, rfl⟩

theorem Lay.cells {w : World} (h : Lay w) : w.cell? ⟨0, 0, none⟩ = some (.int .i64 1) ∧ w.cell? ⟨0, 1, none⟩ = some (.int .i64 181) ∧ w.cell? ⟨0, 2, none⟩ = some (.int .i64 181) ∧ w.cell? ⟨0, 3, none⟩ = some (.int .i64 1) ∧ w.cell? ⟨0, 4, none⟩ = some (.int .i64 0) ∧ w.cell? ⟨0, 5, none⟩ = some (.int .i64 1) ∧ w.cell? ⟨0, 6, none⟩ = some (.int .i64 2) ∧ w.cell? ⟨0, 7, none⟩ = some (.int .i64 0) ∧ w.cell? ⟨0, 8, none⟩ = some (.int .i64 39) ∧ w.cell? ⟨0, 9, none⟩ = some (.int .i64 2) ∧ w.cell? ⟨0, 10, none⟩ = some (.int .i64 1) ∧ w.cell? ⟨0, 11, none⟩ = some (.int .i64 64) ∧ w.cell? ⟨0, 12, none⟩ = some (.int .i64 2) ∧ w.cell? ⟨0, 13, none⟩ = some (.int .i64 1) ∧ w.cell? ⟨0, 14, none⟩ = some (.int .i64 64) ∧ 0 < w.heap.size := by
  obtain ⟨t, h⟩ := h
  have c := fun i => cell_of_row w 0 i _ t (0, 0) h
  exact ⟨c 0, c 1, c 2, c 3, c 4, c 5, c 6, c 7, c 8, c 9, c 10, c 11, c 12, c 13, c 14, Blk.lt (t := t) h⟩

set_option maxRecDepth 100000 in
theorem c_l5Kind (b : Bl) (w : World) : Calls Tryd.prog 68 #[.agg #[.int .i64 b.n, .bool b.raw, .int .i64 b.z, .string b.body]] w fun e w' => e = .returned (.string (str [b.kind])) ∧ Below w.heap.size w w' := by
  obtain ⟨n, raw, z, body⟩ := b
  cases raw with
  | true =>
    have h0 := run_one (P := Tryd.prog) (w := w.alloc (.cells #[.int .i64 n, .bool true, .int .i64 z, .string body] 78)) Tryd.underlying54 Tryd.underlying5 Tryd.underlying9 (X := 0) (c := 0) rfl
    rw [World.size_alloc] at h0
    show Calls _ _ _ _ fun e w' => e = .returned (.string (str [0])) ∧ _
    obtain ⟨K0, hK0⟩ : ∃ K0, K0 = str [0] := ⟨_, rfl⟩
    rw [← hK0] at h0 ⊢
    clear hK0
    go_enter Tryd.func68, Tryd.ntmps68
    go_wp2
    go_ret
    exact ⟨rfl, by (repeat (first | with_reducible (first | assumption | exact Below.refl _ _ | refine bel_alloc ?_ _ | refine bel_drew ?_ | refine bel_drewN ?_ _ | refine bel_set ?_ (by first | omega | (simp; done) | (simp; omega)) _ | refine bel_trans ?_ (by assumption)) | assumption | refine bel_trans ?_ (by assumption)))⟩
  | false =>
    have h0 := run_one (P := Tryd.prog) (w := w.alloc (.cells #[.int .i64 n, .bool false, .int .i64 z, .string body] 78)) Tryd.underlying54 Tryd.underlying5 Tryd.underlying9 (X := 1) (c := 1) rfl
    rw [World.size_alloc] at h0
    show Calls _ _ _ _ fun e w' => e = .returned (.string (str [1])) ∧ _
    obtain ⟨K0, hK0⟩ : ∃ K0, K0 = str [1] := ⟨_, rfl⟩
    rw [← hK0] at h0 ⊢
    clear hK0
    go_enter Tryd.func68, Tryd.ntmps68
    go_wp2
    go_ret
    exact ⟨rfl, by (repeat (first | with_reducible (first | assumption | exact Below.refl _ _ | refine bel_alloc ?_ _ | refine bel_drew ?_ | refine bel_drewN ?_ _ | refine bel_set ?_ (by first | omega | (simp; done) | (simp; omega)) _ | refine bel_trans ?_ (by assumption)) | assumption | refine bel_trans ?_ (by assumption)))⟩

/-- a string of one byte that stands in memory -/
theorem run_oney {P : Program} {w : World} {g : Nat} {e src dst : TypeId} (hs : P.underlying src = some (.slice e)) (he : P.underlying e = some (.int .u8)) (hd : P.underlying dst = some .string) {c : UInt8} (hc : w.cell? ⟨g, 0, none⟩ = some (.int .u8 (c.toNat : Int))) :
    (convert src dst (.slice (some ⟨g, 0, none⟩) 1 1)).run P w = .ok (.string (str [c])) w := by
  refine run_convert_bytes_back (l := [c]) _ src dst e ⟨g, 0, none⟩ 1 hs he hd ?_
  intro j hj
  have : j = 0 := by simpa using hj
  subst this
  have e0 : ((⟨g, 0, none⟩ : Addr).add 0) = ⟨g, 0, none⟩ := by simp [Addr.add]
  rw [e0, hc]
  rfl

theorem Bl.inner_str (b : Bl) : str [b.kind] ++ str (two b.n.toNat) ++ str (two b.z.toNat) ++ str (two b.body.size) ++ b.body = str b.inner := by
  rw [← str_self b.body]
  simp only [str_append, str_size, len_toList, Bl.inner]
  simp [str_list, str_size, len_toList]

theorem Bl.text_str (b : Bl) : str [181] ++ str b.inner ++ str (two (M.ck b.inner)) = str b.text := by
  simp only [str_append, Bl.text]
  simp

set_option maxHeartbeats 4000000 in
set_option maxRecDepth 100000 in
theorem c_l5Text (b : Bl) (w : World) (hb : b.ok) : Calls Tryd.prog 52 #[.agg #[.int .i64 b.n, .bool b.raw, .int .i64 b.z, .string b.body]] w fun e w' => e = .returned (.string (str b.text)) ∧ Below w.heap.size w w' := by
  have hl := b.len hb
  obtain ⟨⟨h1, h2⟩, ⟨h3, h4⟩, _⟩ := id hb
  have HK := hid (fun (v : World) => c_l5Kind b v)
  have HN := hid (fun (v : World) => c_l4Two b.n.toNat v (by omega))
  have HZ := hid (fun (v : World) => c_l4Two b.z.toNat v (by omega))
  have HM := hid (fun (v : World) => c_l4Two b.body.size v (by omega))
  rw [show ((b.n.toNat : Nat) : Int) = b.n from by omega] at HN
  rw [show ((b.z.toNat : Nat) : Int) = b.z from by omega] at HZ
  obtain ⟨I, hI⟩ : ∃ I, I = str b.inner := ⟨_, rfl⟩
  have hIs : I.size = 7 + b.body.size := by rw [hI, str_size, b.inner_len]
  have HS := hid (fun (v : World) => c_sSumOf I v (by unfold maxLen; omega))
  have HC := hid (fun (v : World) => c_l4Two (M.ck I.data.toList) v (by have := M.ck_le I.data.toList; omega))
  have e1 := b.inner_str
  have e2 := b.text_str
  rw [show M.ck b.inner = M.ck I.data.toList from by rw [hI, str_list], ← hI] at e2
  rw [← hI] at e1
  obtain ⟨K, hK⟩ : ∃ K, K = str [b.kind] := ⟨_, rfl⟩
  obtain ⟨N2, hN2⟩ : ∃ N2, N2 = str (two b.n.toNat) := ⟨_, rfl⟩
  obtain ⟨Z2, hZ2⟩ : ∃ Z2, Z2 = str (two b.z.toNat) := ⟨_, rfl⟩
  obtain ⟨M2, hM2⟩ : ∃ M2, M2 = str (two b.body.size) := ⟨_, rfl⟩
  obtain ⟨C2, hC2⟩ : ∃ C2, C2 = str (two (M.ck I.data.toList)) := ⟨_, rfl⟩
  obtain ⟨P, hP⟩ : ∃ P, P = str [181] := ⟨_, rfl⟩
  have zK : K.size = 1 := by rw [hK, str_size]; rfl
  have zN : N2.size = 2 := by rw [hN2, str_size]; rfl
  have zZ : Z2.size = 2 := by rw [hZ2, str_size]; rfl
  have zM : M2.size = 2 := by rw [hM2, str_size]; rfl
  have zC : C2.size = 2 := by rw [hC2, str_size]; rfl
  have zP : P.size = 1 := by rw [hP, str_size]; rfl
  have HP2 := hid (fun (v : World) (g : Nat) (hc : v.cell? ⟨g, 0, none⟩ = some (.int .u8 181)) => (run_oney (P := Tryd.prog) Tryd.underlying54 Tryd.underlying5 Tryd.underlying9 (c := 181) hc))
  rw [← hK] at HK e1
  rw [← hN2] at HN e1
  rw [← hZ2] at HZ e1
  rw [← hM2] at HM e1
  rw [← hC2] at HC e2
  rw [← hP] at HP2 e2
  obtain ⟨S1, hS1⟩ : ∃ S1, S1 = K ++ N2 := ⟨_, rfl⟩
  obtain ⟨S2, hS2⟩ : ∃ S2, S2 = S1 ++ Z2 := ⟨_, rfl⟩
  obtain ⟨S3, hS3⟩ : ∃ S3, S3 = S2 ++ M2 := ⟨_, rfl⟩
  obtain ⟨T1, hT1⟩ : ∃ T1, T1 = P ++ I := ⟨_, rfl⟩
  obtain ⟨R, hR⟩ : ∃ R, R = str b.text := ⟨_, rfl⟩
  rw [← hS1, ← hS2, ← hS3] at e1
  rw [← hT1, ← hR] at e2
  have z1 : S1.size = K.size + N2.size := by rw [hS1, ByteArray.size_append]
  have z2 : S2.size = S1.size + Z2.size := by rw [hS2, ByteArray.size_append]
  have z3 : S3.size = S2.size + M2.size := by rw [hS3, ByteArray.size_append]
  have zT : T1.size = P.size + I.size := by rw [hT1, ByteArray.size_append]
  have a1 : ∀ W, (Op.stringOp .add K N2).run Tryd.prog W = .ok (.string S1) W := fun W => by rw [run_string_add_sum W _ _ (by omega), hS1]
  have a2 : ∀ W, (Op.stringOp .add S1 Z2).run Tryd.prog W = .ok (.string S2) W := fun W => by rw [run_string_add_sum W _ _ (by omega), hS2]
  have a3 : ∀ W, (Op.stringOp .add S2 M2).run Tryd.prog W = .ok (.string S3) W := fun W => by rw [run_string_add_sum W _ _ (by omega), hS3]
  have a4 : ∀ W, (Op.stringOp .add S3 b.body).run Tryd.prog W = .ok (.string I) W := fun W => by rw [run_string_add_sum W _ _ (by omega), e1]
  have a5 : ∀ W, (Op.stringOp .add P I).run Tryd.prog W = .ok (.string T1) W := fun W => by rw [run_string_add_sum W _ _ (by omega), hT1]
  have a6 : ∀ W, (Op.stringOp .add T1 C2).run Tryd.prog W = .ok (.string R) W := fun W => by rw [run_string_add_sum W _ _ (by omega), e2]
  rw [← hR]
  have hB := Blk.new w 78 #[.int .i64 b.n, .bool b.raw, .int .i64 b.z, .string b.body]
  have hl64 : (b.body.size : Int) ≤ 64 := by omega
  clear hI hIs e1 e2 hK hN2 hZ2 hM2 hC2 hP zK zN zZ zM zC zP hS1 hS2 hS3 hT1 hR z1 z2 z3 zT h1 h2 h3 h4 hb
  go_enter Tryd.func52, Tryd.ntmps52
  go_wp2_with fail
  have hS : (w.alloc (.cells #[.int .i64 b.n, .bool b.raw, .int .i64 b.z, .string b.body] 78)).cell? ⟨w.heap.size, 0, none⟩ = some (.int .i64 b.n) ∧ (w.alloc (.cells #[.int .i64 b.n, .bool b.raw, .int .i64 b.z, .string b.body] 78)).cell? ⟨w.heap.size, 1, none⟩ = some (.bool b.raw) ∧ (w.alloc (.cells #[.int .i64 b.n, .bool b.raw, .int .i64 b.z, .string b.body] 78)).cell? ⟨w.heap.size, 2, none⟩ = some (.int .i64 b.z) ∧ (w.alloc (.cells #[.int .i64 b.n, .bool b.raw, .int .i64 b.z, .string b.body] 78)).cell? ⟨w.heap.size, 3, none⟩ = some (.string b.body) ∧ Below w.heap.size w (w.alloc (.cells #[.int .i64 b.n, .bool b.raw, .int .i64 b.z, .string b.body] 78)) := ⟨hB.cell 0, hB.cell 1, hB.cell 2, hB.cell 3, bel_alloc (Below.refl _ w) _⟩
  refine qbegin (S := (fun v => v.cell? ⟨w.heap.size, 0, none⟩ = some (.int .i64 b.n) ∧ v.cell? ⟨w.heap.size, 1, none⟩ = some (.bool b.raw) ∧ v.cell? ⟨w.heap.size, 2, none⟩ = some (.int .i64 b.z) ∧ v.cell? ⟨w.heap.size, 3, none⟩ = some (.string b.body) ∧ Below w.heap.size w v)) (by kernel_rfl) (by kernel_rfl) (s4_drew hS) ?_
  refine qk ?_
  refine qc (fun wq hSq => HK.out wq) (fun wq wr hbr hSq => s4_bel hbr hSq) ?_
  refine qk ?_
  refine qk ?_
  refine qc (fun wq hSq => HN.out wq) (fun wq wr hbr hSq => s4_bel hbr hSq) ?_
  refine qk ?_
  refine qk ?_
  refine qk ?_
  refine qc (fun wq hSq => HZ.out wq) (fun wq wr hbr hSq => s4_bel hbr hSq) ?_
  refine qk ?_
  refine qk ?_
  refine qk ?_
  refine qk ?_
  refine qc (fun wq hSq => HM.out wq) (fun wq wr hbr hSq => s4_bel hbr hSq) ?_
  refine qk ?_
  refine qk ?_
  refine qk ?_
  refine qk ?_
  refine qk ?_
  refine wpQuiet_nil ?_
  intro wq hSq
  (try dsimp only at hSq)
  have HBq := hid hSq.2.2.2.2
  have HS2 := hid hSq.1
  clear hSq hS hB
  go_wp2_with fail
  have hp2 : ∀ (v : World) (g : Nat), v.cell? ⟨g, 0, none⟩ = some (.int .u8 181) → (convert 54 9 (.slice (some ⟨g, 0, none⟩) 1 1)).run Tryd.prog v = .ok (.string P) v := fun v g hc => HP2.out v g hc
  have hS2 : wq.cell? ⟨w.heap.size, 0, none⟩ = some (.int .i64 b.n) ∧ True := ⟨HS2.out, trivial⟩
  refine wp_region_noPanic ?_
  refine wp_region_held_drew (S := (fun v => v.cell? ⟨w.heap.size, 0, none⟩ = some (.int .i64 b.n) ∧ True)) (by kernel_rfl) (t1_drew hS2) (fun hHeld => ?_)
  refine tk 2 ?_
  refine tk 4 ?_
  refine wpAnyH_ready (rs := [0, 5]) (by kernel_rfl) (by simp) ?_
  refine AllReadyH.cons (o := ?or1_0) ?ir1_0 (fun K hK => ?sr1_0) (AllReadyH.cons (o := ?or1_5) ?ir1_5 (fun K hK => ?sr1_5) AllReadyH.nil)
  case ir1_0 => (simp only [List.getElem?_toArray, List.getElem?_cons_zero]; rfl)
  case ir1_5 => (simp only [List.getElem?_toArray, List.getElem?_cons_succ, List.getElem?_cons_zero]; rfl)
  case' sr1_0 =>
    ((go_simp; (try have cNa := (Blk.new wQ 5 #[.int .u8 181]).cell 0); have cNb : (wq.alloc (.cells #[.int .u8 181] 5)).drew.cell? ⟨wq.heap.size, 0, none⟩ = some (.int .u8 181) := (Blk.new wq 5 #[.int .u8 181]).cell 0))
    refine hK.out _ _ ?kr1_0 (fun hHeld => ?_)
    case kr1_0 => (try dsimp only); (first | with_reducible assumption | exact t1_bel (by assumption) (by assumption) | assumption | exact t1_alloc (by assumption) _)
    clear hK K
    try simp only [Act.put, List.setIfInBounds_toArray, List.set_cons_zero, List.set_cons_succ]
    refine wpAnyH_ready (rs := [1, 5]) (by kernel_rfl) (by simp) ?_
    refine AllReadyH.cons (o := ?or1b1_1) ?ir1b1_1 (fun K hK => ?sr1b1_1) (AllReadyH.cons (o := ?or1b1_5) ?ir1b1_5 (fun K hK => ?sr1b1_5) AllReadyH.nil)
    case ir1b1_1 => (simp only [List.getElem?_toArray, List.getElem?_cons_succ, List.getElem?_cons_zero]; rfl)
    case ir1b1_5 => (simp only [List.getElem?_toArray, List.getElem?_cons_succ, List.getElem?_cons_zero]; rfl)
    case' sr1b1_1 =>
      (go_simp; (go_simp))
      refine hK.out _ _ ?kr1b1_1 (fun hHeld => ?_)
      case kr1b1_1 => (try dsimp only); (first | with_reducible assumption | exact t1_bel (by assumption) (by assumption) | assumption | exact t1_alloc (by assumption) _)
      clear hK K
      try simp only [Act.put, List.setIfInBounds_toArray, List.set_cons_zero, List.set_cons_succ]
      refine tk 3 ?_
      refine wpAnyH_ready (rs := [5]) (by kernel_rfl) (by simp) ?_
      refine AllReadyH.cons (o := ?or1b1b2_5) ?ir1b1b2_5 (fun K hK => ?sr1b1b2_5) AllReadyH.nil
      case ir1b1b2_5 => (simp only [List.getElem?_toArray, List.getElem?_cons_succ, List.getElem?_cons_zero]; rfl)
      (go_simp; (go_at_call 69; refine (HS.out _).mono ?_; rintro e wS ⟨rfl, rfl⟩))
      refine hK.out _ _ ?kr1b1b2_5 (fun hHeld => ?_)
      case kr1b1b2_5 => (try dsimp only); (first | with_reducible assumption | exact t1_bel (by assumption) (by assumption) | assumption | exact t1_alloc (by assumption) _)
      clear hK K
      try simp only [Act.put, List.setIfInBounds_toArray, List.set_cons_zero, List.set_cons_succ]
      refine wpAnyH_ready (rs := [6]) (by kernel_rfl) (by simp) ?_
      refine AllReadyH.cons (o := ?or1b1b2_6) ?ir1b1b2_6 (fun K hK => ?sr1b1b2_6) AllReadyH.nil
      case ir1b1b2_6 => (simp only [List.getElem?_toArray, List.getElem?_cons_succ, List.getElem?_cons_zero]; rfl)
      (go_simp; (go_at_call 50; refine (HC.out _).mono ?_; rintro e wQ ⟨rfl, hbQ⟩; (try have cNc : wQ.cell? ⟨wq.heap.size, 0, none⟩ = some (.int .u8 181) := cell_to cNb hbQ)))
      refine hK.out _ _ ?kr1b1b2_6 (fun hHeld => ?_)
      case kr1b1b2_6 => (try dsimp only); (first | with_reducible assumption | exact t1_bel (by assumption) (by assumption) | assumption | exact t1_alloc (by assumption) _)
      clear hK K
      try simp only [Act.put, List.setIfInBounds_toArray, List.set_cons_zero, List.set_cons_succ]
      refine tk 7 ?_
      refine tk 8 ?_
      refine wpAnyH_done (by kernel_rfl) ?_ _
      refine NoPanic.normal ?_
    case' sr1b1_5 =>
      (go_simp; (go_at_call 69; refine (HS.out _).mono ?_; rintro e wS ⟨rfl, rfl⟩))
      refine hK.out _ _ ?kr1b1_5 (fun hHeld => ?_)
      case kr1b1_5 => (try dsimp only); (first | with_reducible assumption | exact t1_bel (by assumption) (by assumption) | assumption | exact t1_alloc (by assumption) _)
      clear hK K
      try simp only [Act.put, List.setIfInBounds_toArray, List.set_cons_zero, List.set_cons_succ]
      refine wpAnyH_ready (rs := [1, 6]) (by kernel_rfl) (by simp) ?_
      refine AllReadyH.cons (o := ?or1b1b3_1) ?ir1b1b3_1 (fun K hK => ?sr1b1b3_1) (AllReadyH.cons (o := ?or1b1b3_6) ?ir1b1b3_6 (fun K hK => ?sr1b1b3_6) AllReadyH.nil)
      case ir1b1b3_1 => (simp only [List.getElem?_toArray, List.getElem?_cons_succ, List.getElem?_cons_zero]; rfl)
      case ir1b1b3_6 => (simp only [List.getElem?_toArray, List.getElem?_cons_succ, List.getElem?_cons_zero]; rfl)
      case' sr1b1b3_1 =>
        (go_simp; (go_simp))
        refine hK.out _ _ ?kr1b1b3_1 (fun hHeld => ?_)
        case kr1b1b3_1 => (try dsimp only); (first | with_reducible assumption | exact t1_bel (by assumption) (by assumption) | assumption | exact t1_alloc (by assumption) _)
        clear hK K
        try simp only [Act.put, List.setIfInBounds_toArray, List.set_cons_zero, List.set_cons_succ]
        refine tk 3 ?_
        refine wpAnyH_ready (rs := [6]) (by kernel_rfl) (by simp) ?_
        refine AllReadyH.cons (o := ?or1b1b3b4_6) ?ir1b1b3b4_6 (fun K hK => ?sr1b1b3b4_6) AllReadyH.nil
        case ir1b1b3b4_6 => (simp only [List.getElem?_toArray, List.getElem?_cons_succ, List.getElem?_cons_zero]; rfl)
        (go_simp; (go_at_call 50; refine (HC.out _).mono ?_; rintro e wQ ⟨rfl, hbQ⟩; (try have cNc : wQ.cell? ⟨wq.heap.size, 0, none⟩ = some (.int .u8 181) := cell_to cNb hbQ)))
        refine hK.out _ _ ?kr1b1b3b4_6 (fun hHeld => ?_)
        case kr1b1b3b4_6 => (try dsimp only); (first | with_reducible assumption | exact t1_bel (by assumption) (by assumption) | assumption | exact t1_alloc (by assumption) _)
        clear hK K
        try simp only [Act.put, List.setIfInBounds_toArray, List.set_cons_zero, List.set_cons_succ]
        refine tk 7 ?_
        refine tk 8 ?_
        refine wpAnyH_done (by kernel_rfl) ?_ _
        refine NoPanic.normal ?_
      case' sr1b1b3_6 =>
        (go_simp; (go_at_call 50; refine (HC.out _).mono ?_; rintro e wQ ⟨rfl, hbQ⟩; (try have cNc : wQ.cell? ⟨wq.heap.size, 0, none⟩ = some (.int .u8 181) := cell_to cNb hbQ)))
        refine hK.out _ _ ?kr1b1b3_6 (fun hHeld => ?_)
        case kr1b1b3_6 => (try dsimp only); (first | with_reducible assumption | exact t1_bel (by assumption) (by assumption) | assumption | exact t1_alloc (by assumption) _)
        clear hK K
        try simp only [Act.put, List.setIfInBounds_toArray, List.set_cons_zero, List.set_cons_succ]
        refine wpAnyH_ready (rs := [1]) (by kernel_rfl) (by simp) ?_
        refine AllReadyH.cons (o := ?or1b1b3b5_1) ?ir1b1b3b5_1 (fun K hK => ?sr1b1b3b5_1) AllReadyH.nil
        case ir1b1b3b5_1 => (simp only [List.getElem?_toArray, List.getElem?_cons_succ, List.getElem?_cons_zero]; rfl)
        (go_simp; (go_simp))
        refine hK.out _ _ ?kr1b1b3b5_1 (fun hHeld => ?_)
        case kr1b1b3b5_1 => (try dsimp only); (first | with_reducible assumption | exact t1_bel (by assumption) (by assumption) | assumption | exact t1_alloc (by assumption) _)
        clear hK K
        try simp only [Act.put, List.setIfInBounds_toArray, List.set_cons_zero, List.set_cons_succ]
        refine tk 3 ?_
        refine tk 7 ?_
        refine tk 8 ?_
        refine wpAnyH_done (by kernel_rfl) ?_ _
        refine NoPanic.normal ?_
  case' sr1_5 =>
    (go_simp; (go_at_call 69; refine (HS.out _).mono ?_; rintro e wS ⟨rfl, rfl⟩))
    refine hK.out _ _ ?kr1_5 (fun hHeld => ?_)
    case kr1_5 => (try dsimp only); (first | with_reducible assumption | exact t1_bel (by assumption) (by assumption) | assumption | exact t1_alloc (by assumption) _)
    clear hK K
    try simp only [Act.put, List.setIfInBounds_toArray, List.set_cons_zero, List.set_cons_succ]
    refine wpAnyH_ready (rs := [0, 6]) (by kernel_rfl) (by simp) ?_
    refine AllReadyH.cons (o := ?or1b6_0) ?ir1b6_0 (fun K hK => ?sr1b6_0) (AllReadyH.cons (o := ?or1b6_6) ?ir1b6_6 (fun K hK => ?sr1b6_6) AllReadyH.nil)
    case ir1b6_0 => (simp only [List.getElem?_toArray, List.getElem?_cons_zero]; rfl)
    case ir1b6_6 => (simp only [List.getElem?_toArray, List.getElem?_cons_succ, List.getElem?_cons_zero]; rfl)
    case' sr1b6_0 =>
      ((go_simp; (try have cNa := (Blk.new wQ 5 #[.int .u8 181]).cell 0); have cNb : (wq.alloc (.cells #[.int .u8 181] 5)).drew.cell? ⟨wq.heap.size, 0, none⟩ = some (.int .u8 181) := (Blk.new wq 5 #[.int .u8 181]).cell 0))
      refine hK.out _ _ ?kr1b6_0 (fun hHeld => ?_)
      case kr1b6_0 => (try dsimp only); (first | with_reducible assumption | exact t1_bel (by assumption) (by assumption) | assumption | exact t1_alloc (by assumption) _)
      clear hK K
      try simp only [Act.put, List.setIfInBounds_toArray, List.set_cons_zero, List.set_cons_succ]
      refine wpAnyH_ready (rs := [1, 6]) (by kernel_rfl) (by simp) ?_
      refine AllReadyH.cons (o := ?or1b6b7_1) ?ir1b6b7_1 (fun K hK => ?sr1b6b7_1) (AllReadyH.cons (o := ?or1b6b7_6) ?ir1b6b7_6 (fun K hK => ?sr1b6b7_6) AllReadyH.nil)
      case ir1b6b7_1 => (simp only [List.getElem?_toArray, List.getElem?_cons_succ, List.getElem?_cons_zero]; rfl)
      case ir1b6b7_6 => (simp only [List.getElem?_toArray, List.getElem?_cons_succ, List.getElem?_cons_zero]; rfl)
      case' sr1b6b7_1 =>
        (go_simp; (go_simp))
        refine hK.out _ _ ?kr1b6b7_1 (fun hHeld => ?_)
        case kr1b6b7_1 => (try dsimp only); (first | with_reducible assumption | exact t1_bel (by assumption) (by assumption) | assumption | exact t1_alloc (by assumption) _)
        clear hK K
        try simp only [Act.put, List.setIfInBounds_toArray, List.set_cons_zero, List.set_cons_succ]
        refine tk 3 ?_
        refine wpAnyH_ready (rs := [6]) (by kernel_rfl) (by simp) ?_
        refine AllReadyH.cons (o := ?or1b6b7b8_6) ?ir1b6b7b8_6 (fun K hK => ?sr1b6b7b8_6) AllReadyH.nil
        case ir1b6b7b8_6 => (simp only [List.getElem?_toArray, List.getElem?_cons_succ, List.getElem?_cons_zero]; rfl)
        (go_simp; (go_at_call 50; refine (HC.out _).mono ?_; rintro e wQ ⟨rfl, hbQ⟩; (try have cNc : wQ.cell? ⟨wq.heap.size, 0, none⟩ = some (.int .u8 181) := cell_to cNb hbQ)))
        refine hK.out _ _ ?kr1b6b7b8_6 (fun hHeld => ?_)
        case kr1b6b7b8_6 => (try dsimp only); (first | with_reducible assumption | exact t1_bel (by assumption) (by assumption) | assumption | exact t1_alloc (by assumption) _)
        clear hK K
        try simp only [Act.put, List.setIfInBounds_toArray, List.set_cons_zero, List.set_cons_succ]
        refine tk 7 ?_
        refine tk 8 ?_
        refine wpAnyH_done (by kernel_rfl) ?_ _
        refine NoPanic.normal ?_
      case' sr1b6b7_6 =>
        (go_simp; (go_at_call 50; refine (HC.out _).mono ?_; rintro e wQ ⟨rfl, hbQ⟩; (try have cNc : wQ.cell? ⟨wq.heap.size, 0, none⟩ = some (.int .u8 181) := cell_to cNb hbQ)))
        refine hK.out _ _ ?kr1b6b7_6 (fun hHeld => ?_)
        case kr1b6b7_6 => (try dsimp only); (first | with_reducible assumption | exact t1_bel (by assumption) (by assumption) | assumption | exact t1_alloc (by assumption) _)
        clear hK K
        try simp only [Act.put, List.setIfInBounds_toArray, List.set_cons_zero, List.set_cons_succ]
        refine wpAnyH_ready (rs := [1]) (by kernel_rfl) (by simp) ?_
        refine AllReadyH.cons (o := ?or1b6b7b9_1) ?ir1b6b7b9_1 (fun K hK => ?sr1b6b7b9_1) AllReadyH.nil
        case ir1b6b7b9_1 => (simp only [List.getElem?_toArray, List.getElem?_cons_succ, List.getElem?_cons_zero]; rfl)
        (go_simp; (go_simp))
        refine hK.out _ _ ?kr1b6b7b9_1 (fun hHeld => ?_)
        case kr1b6b7b9_1 => (try dsimp only); (first | with_reducible assumption | exact t1_bel (by assumption) (by assumption) | assumption | exact t1_alloc (by assumption) _)
        clear hK K
        try simp only [Act.put, List.setIfInBounds_toArray, List.set_cons_zero, List.set_cons_succ]
        refine tk 3 ?_
        refine tk 7 ?_
        refine tk 8 ?_
        refine wpAnyH_done (by kernel_rfl) ?_ _
        refine NoPanic.normal ?_
    case' sr1b6_6 =>
      (go_simp; (go_at_call 50; refine (HC.out _).mono ?_; rintro e wQ ⟨rfl, hbQ⟩; (try have cNc : wQ.cell? ⟨wq.heap.size, 0, none⟩ = some (.int .u8 181) := cell_to cNb hbQ)))
      refine hK.out _ _ ?kr1b6_6 (fun hHeld => ?_)
      case kr1b6_6 => (try dsimp only); (first | with_reducible assumption | exact t1_bel (by assumption) (by assumption) | assumption | exact t1_alloc (by assumption) _)
      clear hK K
      try simp only [Act.put, List.setIfInBounds_toArray, List.set_cons_zero, List.set_cons_succ]
      refine wpAnyH_ready (rs := [0]) (by kernel_rfl) (by simp) ?_
      refine AllReadyH.cons (o := ?or1b6b10_0) ?ir1b6b10_0 (fun K hK => ?sr1b6b10_0) AllReadyH.nil
      case ir1b6b10_0 => (simp only [List.getElem?_toArray, List.getElem?_cons_zero]; rfl)
      ((go_simp; (try have cNa := (Blk.new wQ 5 #[.int .u8 181]).cell 0); have cNb : (wq.alloc (.cells #[.int .u8 181] 5)).drew.cell? ⟨wq.heap.size, 0, none⟩ = some (.int .u8 181) := (Blk.new wq 5 #[.int .u8 181]).cell 0))
      refine hK.out _ _ ?kr1b6b10_0 (fun hHeld => ?_)
      case kr1b6b10_0 => (try dsimp only); (first | with_reducible assumption | exact t1_bel (by assumption) (by assumption) | assumption | exact t1_alloc (by assumption) _)
      clear hK K
      try simp only [Act.put, List.setIfInBounds_toArray, List.set_cons_zero, List.set_cons_succ]
      refine wpAnyH_ready (rs := [1]) (by kernel_rfl) (by simp) ?_
      refine AllReadyH.cons (o := ?or1b6b10_1) ?ir1b6b10_1 (fun K hK => ?sr1b6b10_1) AllReadyH.nil
      case ir1b6b10_1 => (simp only [List.getElem?_toArray, List.getElem?_cons_succ, List.getElem?_cons_zero]; rfl)
      (go_simp; (go_simp))
      refine hK.out _ _ ?kr1b6b10_1 (fun hHeld => ?_)
      case kr1b6b10_1 => (try dsimp only); (first | with_reducible assumption | exact t1_bel (by assumption) (by assumption) | assumption | exact t1_alloc (by assumption) _)
      clear hK K
      try simp only [Act.put, List.setIfInBounds_toArray, List.set_cons_zero, List.set_cons_succ]
      refine tk 3 ?_
      refine tk 7 ?_
      refine tk 8 ?_
      refine wpAnyH_done (by kernel_rfl) ?_ _
      refine NoPanic.normal ?_
  all_goals
    go_wp2
    go_ret
    exact ⟨rfl, by have := HBq.out; (repeat (first | with_reducible (first | assumption | exact Below.refl _ _ | refine bel_alloc ?_ _ | refine bel_drew ?_ | refine bel_drewN ?_ _ | refine bel_set ?_ (by first | omega | (simp; done) | (simp; omega)) _ | refine bel_trans ?_ (by assumption)) | assumption | refine bel_trans ?_ (by assumption)))⟩
end Go.Proofs.YtdehancgadkfaaaDoor
