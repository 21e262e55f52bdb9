/- Plain mathematics: the checksum of bytes, by sums. It imports nothing. No condition. -/
namespace Go.Proofs.YthhgamnkidkanaaDoor.M
/-- the sum of bytes -/
def sm : List UInt8 → Nat
  | [] => 0
  | c :: t => c.toNat + sm t
/-- the sum of the sums of all beginnings -/
def sw : List UInt8 → Nat
  | [] => 0
  | c :: t => c.toNat * (t.length + 1) + sw t
theorem sm_app (x y : List UInt8) : sm (x ++ y) = sm x + sm y := by
  induction x with
  | nil => simp [sm]
  | cons c t ih => simp only [List.cons_append, sm, ih]; omega
theorem sw_app (x y : List UInt8) : sw (x ++ y) = sw x + sm x * y.length + sw y := by
  induction x with
  | nil => simp [sw, sm]
  | cons c t ih =>
    simp only [List.cons_append, sw, sm, ih, List.length_append, Nat.add_mul, Nat.mul_add, Nat.mul_one]
    omega
theorem sm_snoc (x : List UInt8) (c : UInt8) : sm (x ++ [c]) = sm x + c.toNat := by rw [sm_app]; simp [sm]
theorem sw_snoc (x : List UInt8) (c : UInt8) : sw (x ++ [c]) = sw x + sm x + c.toNat := by rw [sw_app]; simp [sw]
/-- the checksum -/
def ck (l : List UInt8) : Nat := 256 * (sw l % 255) + sm l % 255
theorem ck_le (l : List UInt8) : ck l ≤ 65535 := by unfold ck; omega
theorem ck_iff (x y : List UInt8) : ck x = ck y ↔ sw x % 255 = sw y % 255 ∧ sm x % 255 = sm y % 255 := by unfold ck; omega
theorem ck_low (l : List UInt8) : ck l % 256 = sm l % 255 := by unfold ck; omega
theorem ck_high (l : List UInt8) : ck l / 256 = sw l % 255 := by unfold ck; omega
theorem ck_app (x y : List UInt8) : ck (x ++ y) = 256 * ((ck x / 256 + ck x % 256 * y.length + ck y / 256) % 255) + (ck x % 256 + ck y % 256) % 255 := by
  rw [ck_low, ck_low, ck_high, ck_high, ck, sm_app, sw_app]
  have h1 : (sw x + sm x * y.length + sw y) % 255 = (sw x % 255 + sm x % 255 * y.length + sw y % 255) % 255 := by
    have h2 : (sm x * y.length) % 255 = (sm x % 255 * y.length) % 255 := by rw [Nat.mod_mul_mod]
    generalize sm x * y.length = a at h2 ⊢
    generalize sm x % 255 * y.length = b at h2 ⊢
    omega
  rw [h1]
  omega
/-- neighbors that are exchanged -/
theorem ck_swap (p q : List UInt8) (c d : UInt8) : ck (p ++ [d, c] ++ q) = ck (p ++ [c, d] ++ q) ↔ (d.toNat : Int) % 255 = (c.toNat : Int) % 255 := by
  rw [ck_iff]
  have e1 : sm (p ++ [d, c] ++ q) = sm (p ++ [c, d] ++ q) := by simp only [sm_app, sm]; omega
  have e2 : sw (p ++ [d, c] ++ q) + c.toNat = sw (p ++ [c, d] ++ q) + d.toNat := by
    simp only [sw_app, sm_app, sw, sm, List.length_cons, List.length_nil]
    have : (d.toNat + (c.toNat + 0)) * q.length = (c.toNat + (d.toNat + 0)) * q.length := by congr 1; omega
    generalize sm p * 2 = X
    rw [Nat.add_mul (sm p), Nat.add_mul (sm p)]
    omega
  omega
/-- a byte that is changed -/
theorem ck_set (p q : List UInt8) (c d : UInt8) : ck (p ++ [d] ++ q) = ck (p ++ [c] ++ q) ↔ (d.toNat : Int) % 255 = (c.toNat : Int) % 255 := by
  rw [ck_iff]
  simp only [sw_app, sm_app, sw, sm, List.length_cons, List.length_nil]
  constructor
  · rintro ⟨_, h⟩; omega
  · intro h
    have h0 : (d.toNat + 0) % 255 = (c.toNat + 0) % 255 := by omega
    have h1 : ((d.toNat + 0) * q.length) % 255 = ((c.toNat + 0) * q.length) % 255 := by rw [← Nat.mod_mul_mod, h0, Nat.mod_mul_mod]
    refine ⟨?_, by omega⟩
    rw [Nat.add_mul (sm p), Nat.add_mul (sm p)]
    generalize (d.toNat + 0) * q.length = a at h1 ⊢
    generalize (c.toNat + 0) * q.length = b at h1 ⊢
    omega
theorem ck_zero (l : List UInt8) : ck (l ++ [0]) = ck l ↔ ck l % 256 = 0 := by
  rw [ck_iff, ck_low, sw_snoc, sm_snoc]
  simp
  omega
end Go.Proofs.YthhgamnkidkanaaDoor.M
