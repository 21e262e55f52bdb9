/- Plain mathematics: bits and numbers, bytes and bits, hexadecimal digits. It imports nothing. No condition. -/
namespace Go.Proofs.Ytoiifopjipfjhaa.M
/-- the number whose bits, the lowest first, are these -/
def num : List Bool → Nat
  | [] => 0
  | b :: t => b.toNat + 2 * num t

theorem num_lt (l : List Bool) : num l < 2 ^ l.length := by
  induction l with
  | nil => simp [num]
  | cons b t ih => simp only [num, List.length_cons, Nat.pow_succ]; cases b <;> simp <;> omega

theorem num_append (l : List Bool) (r : List Bool) : num (l ++ r) = num l + 2 ^ l.length * num r := by
  induction l with
  | nil => simp [num]
  | cons b t ih =>
    simp only [num, List.cons_append, List.length_cons, ih, Nat.pow_succ]
    rw [Nat.mul_add, Nat.mul_comm (2 ^ t.length) 2, Nat.mul_assoc]; omega

/-- the lowest n binary digits, the lowest first -/
def bitsOf : Nat → Nat → List Bool
  | 0, _ => []
  | n + 1, k => k.testBit 0 :: bitsOf n (k / 2)

theorem bitsOf_length (n k : Nat) : (bitsOf n k).length = n := by
  induction n generalizing k with
  | zero => rfl
  | succ n ih => simp [bitsOf, ih]

theorem num_bitsOf (n k : Nat) (h : k < 2 ^ n) : num (bitsOf n k) = k := by
  induction n generalizing k with
  | zero => simp [bitsOf, num] at *; omega
  | succ n ih =>
    have h2 : k / 2 < 2 ^ n := by rw [Nat.pow_succ] at h; omega
    simp only [bitsOf, num, ih _ h2, Nat.testBit_zero]
    by_cases hk : k % 2 = 1 <;> simp [hk] <;> omega

theorem bitsOf_num (l : List Bool) : bitsOf l.length (num l) = l := by
  induction l with
  | nil => rfl
  | cons b t ih =>
    simp only [List.length_cons, bitsOf, num, Nat.testBit_zero]
    have h2 : (b.toNat + 2 * num t) / 2 = num t := by cases b <;> simp <;> omega
    rw [h2, ih]
    cases b <;> simp <;> omega

theorem bitsOf_get (n k i : Nat) (h : i < n) : (bitsOf n k)[i]? = some (k.testBit i) := by
  induction n generalizing k i with
  | zero => omega
  | succ n ih =>
    cases i with
    | zero => simp [bitsOf]
    | succ i => simp only [bitsOf, List.getElem?_cons_succ, ih _ i (by omega), Nat.testBit_succ]

theorem bitsOf_snoc (n k : Nat) : bitsOf (n + 1) k = bitsOf n k ++ [k.testBit n] := by
  induction n generalizing k with
  | zero => simp [bitsOf]
  | succ n ih => rw [bitsOf, ih, bitsOf, List.cons_append, ← Nat.testBit_succ]
theorem bitsOf_map (n k : Nat) : bitsOf n k = (List.range n).map fun i => k.testBit i := by
  induction n with
  | zero => rfl
  | succ n ih => rw [bitsOf_snoc, ih, List.range_succ, List.map_append]; rfl
theorem bitsOf_rev (n k : Nat) : (bitsOf n k).reverse = (List.range n).map fun i => k.testBit (n - 1 - i) := by
  apply List.ext_getElem?
  intro i
  by_cases h : i < n
  · rw [List.getElem?_reverse (by rw [bitsOf_length]; exact h), bitsOf_length, bitsOf_get _ _ _ (by omega)]
    simp [h]
  · rw [List.getElem?_eq_none (by rw [List.length_reverse, bitsOf_length]; omega), List.getElem?_eq_none (by simp; omega)]

/-- the bits of an order (true: the highest first) -/
def dir {α : Type} (high : Bool) (l : List α) : List α := if high then l.reverse else l
theorem dir_dir {α : Type} (h : Bool) (l : List α) : dir h (dir h l) = l := by cases h <;> simp [dir]
theorem dir_length {α : Type} (h : Bool) (l : List α) : (dir h l).length = l.length := by cases h <;> simp [dir]

/-- bits as letters -/
def chr (b : Bool) : UInt8 := if b then 49 else 48
def asc (l : List Bool) : List UInt8 := l.map chr
def bit (c : UInt8) : Bool := c == 49
theorem bit_chr (b : Bool) : bit (chr b) = b := by cases b <;> rfl
def isBits (l : List UInt8) : Bool := l.all fun c => c == 48 || c == 49
theorem asc_bits (l : List UInt8) (h : isBits l = true) : asc (l.map bit) = l := by
  induction l with
  | nil => rfl
  | cons c t ih =>
    simp only [isBits, List.all_cons, Bool.and_eq_true, Bool.or_eq_true, beq_iff_eq] at h
    have := ih (by simpa [isBits] using h.2)
    simp only [asc, List.map_cons, List.map_map] at *
    rw [this]
    rcases h.1 with rfl | rfl <;> rfl
theorem bits_asc (l : List Bool) : (asc l).map bit = l := by
  induction l with
  | nil => rfl
  | cons b t ih => simp only [asc, List.map_cons, List.map_map] at *; rw [ih, bit_chr]
theorem isBits_asc (l : List Bool) : isBits (asc l) = true := by
  simp only [isBits, asc, List.all_map, List.all_eq_true]
  intro b _; cases b <;> rfl

def bitsValid (l : List UInt8) : Bool := decide (l.length ≤ 32000) && isBits l

/-- the bits of a code -/
def codeBits (high : Bool) (code width : Nat) : List UInt8 := asc (dir high (bitsOf width code))
/-- the number of some bits -/
def bitsCode (high : Bool) (l : List UInt8) : Nat := num (dir high (l.map bit))

/-- a byte's bits, in an order -/
def byteBits (high : Bool) (c : UInt8) : List Bool := dir high (bitsOf 8 c.toNat)
def byteOf (high : Bool) (l : List Bool) : UInt8 := UInt8.ofNat (num (dir high (l ++ List.replicate (8 - l.length) false)))
theorem byteBits_length (h : Bool) (c : UInt8) : (byteBits h c).length = 8 := by simp [byteBits, dir_length, bitsOf_length]
theorem byteOf_byteBits (h : Bool) (c : UInt8) : byteOf h (byteBits h c) = c := by
  have hl := byteBits_length h c
  simp only [byteOf, hl, Nat.sub_self, List.replicate_zero, List.append_nil]
  rw [byteBits, dir_dir, num_bitsOf _ _ (by simpa using c.toNat_lt)]
  simp
theorem byteBits_byteOf (h : Bool) (l : List Bool) (hl : l.length = 8) : byteBits h (byteOf h l) = l := by
  simp only [byteOf, hl, Nat.sub_self, List.replicate_zero, List.append_nil, byteBits]
  have h1 := num_lt (dir h l)
  have h2 : (dir h l).length = 8 := by rw [dir_length, hl]
  rw [h2] at h1
  have h3 : (UInt8.ofNat (num (dir h l))).toNat = num (dir h l) := by simp only [UInt8.toNat_ofNat']; omega
  rw [h3]
  have h4 := bitsOf_num (dir h l)
  rw [h2] at h4
  rw [h4, dir_dir]

/-- the bits of a stream -/
def unpack (high : Bool) (s : List UInt8) : List Bool := s.flatMap (byteBits high)
theorem unpack_length (h : Bool) (s : List UInt8) : (unpack h s).length = 8 * s.length := by
  induction s with
  | nil => rfl
  | cons c t ih => simp only [unpack, List.flatMap_cons, List.length_append, byteBits_length, List.length_cons] at *; omega

theorem unpack_get (h : Bool) (s : List UInt8) (j : Nat) (hj : j < 8 * s.length) : (unpack h s)[j]? = (byteBits h (s[j / 8]?.getD 0))[j % 8]? := by
  induction s generalizing j with
  | nil => simp at hj
  | cons c t ih =>
    have e : unpack h (c :: t) = byteBits h c ++ unpack h t := rfl
    have hl := byteBits_length h c
    rw [e]
    by_cases h8 : j < 8
    · rw [List.getElem?_append_left (by omega), show j / 8 = 0 from by omega, show j % 8 = j from by omega]; rfl
    · rw [List.getElem?_append_right (by omega), hl, ih _ (by simp at hj; omega), show j / 8 = (j - 8) / 8 + 1 from by omega, show j % 8 = (j - 8) % 8 from by omega, List.getElem?_cons_succ]

/-- the bytes of some bits; fuel: the number of bytes -/
def packN (high : Bool) : Nat → List Bool → List UInt8
  | 0, _ => []
  | n + 1, l => byteOf high (l.take 8) :: packN high n (l.drop 8)
def pack (high : Bool) (l : List Bool) : List UInt8 := packN high ((l.length + 7) / 8) l
theorem packN_length (h : Bool) (n : Nat) (l : List Bool) : (packN h n l).length = n := by
  induction n generalizing l with
  | zero => rfl
  | succ n ih => simp [packN, ih]
theorem pack_length (h : Bool) (l : List Bool) : (pack h l).length = (l.length + 7) / 8 := packN_length _ _ _
theorem packN_unpack (h : Bool) (s : List UInt8) : packN h s.length (unpack h s) = s := by
  induction s with
  | nil => rfl
  | cons c t ih =>
    have e : unpack h (c :: t) = byteBits h c ++ unpack h t := rfl
    have hl := byteBits_length h c
    rw [e, List.length_cons, packN, List.take_append_of_le_length (by omega), List.drop_append_of_le_length (by omega), List.take_of_length_le (by omega), List.drop_of_length_le (by omega)]
    rw [byteOf_byteBits, List.nil_append, ih]
theorem pack_unpack (h : Bool) (s : List UInt8) : pack h (unpack h s) = s := by
  have := unpack_length h s
  rw [pack, this, show (8 * s.length + 7) / 8 = s.length from by omega, packN_unpack]
theorem packN_get (h : Bool) (n : Nat) (l : List Bool) (i : Nat) (hi : i < n) : (packN h n l)[i]? = some (byteOf h ((l.drop (8 * i)).take 8)) := by
  induction n generalizing l i with
  | zero => omega
  | succ n ih =>
    cases i with
    | zero => simp [packN]
    | succ i =>
      rw [packN, List.getElem?_cons_succ, ih _ _ (by omega), List.drop_drop]
      congr 4; omega

def padN (n : Nat) : Nat := (8 - n % 8) % 8
def pad (l : List Bool) : List Bool := l ++ List.replicate (padN l.length) false
theorem pad_length (l : List Bool) : (pad l).length = 8 * ((l.length + 7) / 8) := by simp [pad, padN]; omega
theorem unpack_packN (h : Bool) (n : Nat) (l : List Bool) (hl : l.length = 8 * n) : unpack h (packN h n l) = l := by
  induction n generalizing l with
  | zero => simp at hl; subst hl; rfl
  | succ n ih =>
    have e : unpack h (packN h (n + 1) l) = byteBits h (byteOf h (l.take 8)) ++ unpack h (packN h n (l.drop 8)) := rfl
    rw [e, byteBits_byteOf _ _ (by simp; omega), ih _ (by simp; omega), List.take_append_drop]
theorem byteOf_pad (h : Bool) (l : List Bool) (n : Nat) (hn : l.length + n ≤ 8) : byteOf h (l ++ List.replicate n false) = byteOf h l := by
  unfold byteOf
  rw [List.append_assoc, List.replicate_append_replicate]
  congr 5
  simp; omega
theorem packN_pad (h : Bool) (l : List Bool) (k : Nat) (n : Nat) (hk : l.length + k = 8 * n) (hk8 : k < 8) : packN h n (l ++ List.replicate k false) = packN h n l := by
  induction n generalizing l with
  | zero => rfl
  | succ n ih =>
    by_cases hn : n = 0
    · subst hn
      simp only [packN]
      rw [List.take_of_length_le (by simp; omega), List.take_of_length_le (by omega), byteOf_pad _ _ _ (by omega)]
    · rw [packN, packN, List.take_append_of_le_length (by omega), List.drop_append_of_le_length (by omega), ih _ (by simp; omega)]
theorem pack_pad (h : Bool) (l : List Bool) : pack h (pad l) = pack h l := by
  have hl := pad_length l
  rw [pack, hl, show (8 * ((l.length + 7) / 8) + 7) / 8 = (l.length + 7) / 8 from by omega]
  exact packN_pad h l _ _ (by simp only [padN]; omega) (by simp only [padN]; omega)
theorem unpack_pack (h : Bool) (l : List Bool) : unpack h (pack h l) = pad l := by
  rw [← pack_pad, pack, pad_length, show (8 * ((l.length + 7) / 8) + 7) / 8 = (l.length + 7) / 8 from by omega]
  exact unpack_packN h _ _ (pad_length l)
theorem packN_append (h : Bool) (n m : Nat) (l r : List Bool) (hl : l.length = 8 * n) : packN h (n + m) (l ++ r) = packN h n l ++ packN h m r := by
  induction n generalizing l with
  | zero => simp at hl; subst hl; simp [packN]
  | succ n ih =>
    rw [show n + 1 + m = (n + m) + 1 from by omega, packN, packN, List.take_append_of_le_length (by omega), List.drop_append_of_le_length (by omega), ih _ (by simp; omega), List.cons_append]
theorem pack_append (h : Bool) (l r : List Bool) (n : Nat) (hl : l.length = 8 * n) : pack h (l ++ r) = pack h l ++ pack h r := by
  rw [pack, pack, pack, List.length_append, hl, show (8 * n + r.length + 7) / 8 = n + (r.length + 7) / 8 from by omega, show (8 * n + 7) / 8 = n from by omega]
  exact packN_append h n _ l r hl

/-- a byte with its bits in reverse -/
def turnByte (c : UInt8) : UInt8 := byteOf true (byteBits false c)
def turn (s : List UInt8) : List UInt8 := s.map turnByte
theorem byteBits_turn (h : Bool) (c : UInt8) : byteBits (!h) (turnByte c) = byteBits h c := by
  have h1 : byteBits true (turnByte c) = byteBits false c := byteBits_byteOf true _ (byteBits_length _ _)
  cases h
  · exact h1
  · have h2 : (byteBits true (turnByte c)).reverse = (byteBits false c).reverse := by rw [h1]
    simpa [byteBits, dir] using h2
theorem turnByte_turn (c : UInt8) : turnByte (turnByte c) = c := by
  have h1 := byteBits_turn true c
  simp only [Bool.not_true] at h1
  rw [turnByte, h1, byteOf_byteBits]
theorem turn_turn (s : List UInt8) : turn (turn s) = s := by
  simp only [turn, List.map_map]
  conv => rhs; rw [← List.map_id s]
  congr 1; funext c; exact turnByte_turn c
theorem unpack_turn (h : Bool) (s : List UInt8) : unpack (!h) (turn s) = unpack h s := by
  simp only [unpack, turn, List.flatMap_map]
  congr 1; funext c; exact byteBits_turn h c
theorem turn_eq (s : List UInt8) : turn s = pack true (unpack false s) := by
  rw [← unpack_turn false s, Bool.not_false, pack_unpack]

/-- the number that the first digits of a number of W digits make, zeros for the others -/
def numK (high : Bool) (W : Nat) (bs : List Bool) : Nat := if high then num bs.reverse * 2 ^ (W - bs.length) else num bs
theorem or_add (i a b : Nat) (h : b < 2 ^ i) : 2 ^ i * a ||| b = 2 ^ i * a + b := (Nat.two_pow_add_eq_or_of_lt h a).symm
theorem numK_snoc_low (W : Nat) (bs : List Bool) (b : Bool) : numK false W (bs ++ [b]) = numK false W bs ||| (b.toNat * 2 ^ bs.length) := by
  have h := num_lt bs
  simp only [numK, Bool.false_eq_true, if_false, num_append]
  have e : num [b] = b.toNat := by simp [num]
  rw [e, Nat.or_comm, Nat.mul_comm b.toNat, or_add _ _ _ h]; omega
theorem numK_snoc_high (W : Nat) (bs : List Bool) (b : Bool) (hW : bs.length < W) : numK true W (bs ++ [b]) = numK true W bs ||| (b.toNat * 2 ^ (W - 1 - bs.length)) := by
  simp only [numK, if_true, List.reverse_append, List.reverse_cons, List.reverse_nil, List.nil_append, List.cons_append, List.length_append, List.length_cons, List.length_nil, num]
  have e1 : W - bs.length = (W - 1 - bs.length) + 1 := by omega
  have e2 : W - (bs.length + (0 + 1)) = W - 1 - bs.length := by omega
  rw [e1, e2, Nat.mul_comm (num bs.reverse), or_add]
  · rw [Nat.add_mul, Nat.pow_succ, Nat.mul_comm 2 (num _), Nat.mul_assoc, Nat.mul_comm (num _), Nat.mul_comm 2]; omega
  · rw [Nat.pow_succ]; have := Nat.pow_pos (n := W - 1 - bs.length) (by omega : 0 < 2); cases b <;> simp <;> omega
theorem numK_lt (high : Bool) (W : Nat) (bs : List Bool) (h : bs.length ≤ W) : numK high W bs < 2 ^ W := by
  cases high
  · exact Nat.lt_of_lt_of_le (num_lt bs) (Nat.pow_le_pow_right (by omega) h)
  · have h1 := num_lt bs.reverse
    rw [List.length_reverse] at h1
    have h2 := Nat.pow_pos (n := W - bs.length) (by omega : 0 < 2)
    have h3 : num bs.reverse * 2 ^ (W - bs.length) < 2 ^ bs.length * 2 ^ (W - bs.length) := Nat.mul_lt_mul_of_pos_right h1 h2
    rw [← Nat.pow_add, show bs.length + (W - bs.length) = W from by omega] at h3
    simpa [numK] using h3
theorem numK_full (high : Bool) (bs : List Bool) : numK high bs.length bs = num (dir high bs) := by
  cases high <;> simp [numK, dir]
theorem num_zeros (l : List Bool) (n : Nat) : num (l ++ List.replicate n false) = num l := by
  have : num (List.replicate n false) = 0 := by
    induction n with
    | zero => rfl
    | succ n ih => simp [List.replicate_succ, num, ih]
  rw [num_append, this]; simp
theorem num_zeros_front (l : List Bool) (n : Nat) : num (List.replicate n false ++ l) = num l * 2 ^ n := by
  induction n with
  | zero => simp
  | succ n ih => simp only [List.replicate_succ, List.cons_append, num, ih, Nat.pow_succ]; simp; rw [← Nat.mul_assoc, Nat.mul_comm 2, Nat.mul_assoc, Nat.mul_comm 2]
theorem numK_byte (high : Bool) (bs : List Bool) : numK high 8 bs = num (dir high (bs ++ List.replicate (8 - bs.length) false)) := by
  cases high
  · simp [numK, dir, num_zeros]
  · simp [numK, dir, num_zeros_front]

end Go.Proofs.Ytoiifopjipfjhaa.M
namespace Go.Proofs.Ytoiifopjipfjhaa.M
/-- the number of i bits, taken from the end of the order -/
def hornerN (high : Bool) (L : List Bool) (i : Nat) : Nat := if high then num (L.take i).reverse else num (L.drop (L.length - i))
theorem hornerN_zero (high : Bool) (L : List Bool) : hornerN high L 0 = 0 := by cases high <;> simp [hornerN, num]
theorem hornerN_high (L : List Bool) (i : Nat) (b : Bool) (h : L[i]? = some b) : hornerN true L (i + 1) = 2 * hornerN true L i + b.toNat := by
  simp only [hornerN, if_true, List.take_add_one, h, Option.toList, List.reverse_append, List.reverse_cons, List.reverse_nil, List.nil_append, List.cons_append, num]; omega
theorem hornerN_low (L : List Bool) (i : Nat) (b : Bool) (hi : i < L.length) (h : L[L.length - 1 - i]? = some b) : hornerN false L (i + 1) = 2 * hornerN false L i + b.toNat := by
  have hj : L.length - 1 - i < L.length := by omega
  have e : L.drop (L.length - (i + 1)) = b :: L.drop (L.length - i) := by
    rw [show L.length - (i + 1) = L.length - 1 - i from by omega, List.drop_eq_getElem_cons hj]
    rw [List.getElem?_eq_getElem hj] at h
    rw [show L.length - i = L.length - 1 - i + 1 from by omega]
    simp at h; rw [h]
  simp only [hornerN, Bool.false_eq_true, if_false, e, num]; omega
theorem hornerN_full (high : Bool) (L : List Bool) : hornerN high L L.length = num (dir high L) := by cases high <;> simp [hornerN, dir]
theorem hornerN_lt (high : Bool) (L : List Bool) (i : Nat) (h : i ≤ L.length) : hornerN high L i < 2 ^ i := by
  cases high
  · have := num_lt (L.drop (L.length - i)); rw [List.length_drop, show L.length - (L.length - i) = i from by omega] at this; simpa [hornerN] using this
  · have := num_lt (L.take i).reverse; rw [List.length_reverse, List.length_take, Nat.min_eq_left h] at this; simpa [hornerN] using this

/-- hexadecimal digits -/
def hexd (n : Nat) : UInt8 := if n < 10 then UInt8.ofNat (48 + n) else UInt8.ofNat (87 + n)
def hexv (c : UInt8) : Option Nat := if 48 ≤ c.toNat ∧ c.toNat ≤ 57 then some (c.toNat - 48) else if 97 ≤ c.toNat ∧ c.toNat ≤ 102 then some (c.toNat - 87) else none
theorem hexv_lt (c : UInt8) (n : Nat) (h : hexv c = some n) : n < 16 := by
  unfold hexv at h
  split at h
  · simp at h; omega
  · split at h
    · simp at h; omega
    · simp at h
theorem hexv_hexd (n : Nat) (h : n < 16) : hexv (hexd n) = some n := by
  have : ∀ n : Fin 16, hexv (hexd n) = some n.val := by decide
  exact this ⟨n, h⟩
theorem hexd_hexv (c : UInt8) (n : Nat) (h : hexv c = some n) : hexd n = c := by
  have hc := c.toNat_lt
  unfold hexv at h
  unfold hexd
  apply UInt8.toNat_inj.1
  split at h
  · simp at h; rw [if_pos (by omega)]; simp; omega
  · split at h
    · simp at h; rw [if_neg (by omega)]; simp; omega
    · simp at h
def hex (s : List UInt8) : List UInt8 := s.flatMap fun c => [hexd (c.toNat / 16), hexd (c.toNat % 16)]
theorem hex_length (s : List UInt8) : (hex s).length = 2 * s.length := by
  induction s with
  | nil => rfl
  | cons c t ih => simp only [hex, List.flatMap_cons, List.length_append, List.length_cons, List.length_nil] at *; omega
theorem hex_snoc (s : List UInt8) (c : UInt8) : hex (s ++ [c]) = hex s ++ [hexd (c.toNat / 16), hexd (c.toNat % 16)] := by simp [hex]
def unhex : List UInt8 → Option (List UInt8)
  | [] => some []
  | [_] => none
  | a :: b :: t => match hexv a, hexv b, unhex t with
    | some x, some y, some r => some (UInt8.ofNat (16 * x + y) :: r)
    | _, _, _ => none
theorem unhex_hex (s : List UInt8) : unhex (hex s) = some s := by
  induction s with
  | nil => rfl
  | cons c t ih =>
    have hc := c.toNat_lt
    have e : hex (c :: t) = hexd (c.toNat / 16) :: hexd (c.toNat % 16) :: hex t := rfl
    rw [e, unhex, hexv_hexd _ (by omega), hexv_hexd _ (by omega), ih]
    simp only [Option.some.injEq, List.cons.injEq, and_true]
    apply UInt8.toNat_inj.1
    simp; omega
theorem hex_unhex : (l : List UInt8) → (s : List UInt8) → unhex l = some s → hex s = l
  | [], s, h => by simp [unhex] at h; subst h; rfl
  | [_], s, h => by simp [unhex] at h
  | a :: b :: t, s, h => by
    rw [unhex] at h
    split at h
    · rename_i x y r hx hy hr
      simp only [Option.some.injEq] at h
      subst h
      have := hexv_lt _ _ hx
      have := hexv_lt _ _ hy
      have e : hex (UInt8.ofNat (16 * x + y) :: r) = hexd ((UInt8.ofNat (16 * x + y)).toNat / 16) :: hexd ((UInt8.ofNat (16 * x + y)).toNat % 16) :: hex r := rfl
      have e2 : (UInt8.ofNat (16 * x + y)).toNat = 16 * x + y := by simp; omega
      rw [e, e2, show (16 * x + y) / 16 = x from by omega, show (16 * x + y) % 16 = y from by omega, hexd_hexv _ _ hx, hexd_hexv _ _ hy, hex_unhex t r hr]
    · simp at h
theorem unhex_length (l s : List UInt8) (h : unhex l = some s) : l.length = 2 * s.length := by rw [← hex_unhex l s h, hex_length]
theorem unhex_append : (l r : List UInt8) → l.length % 2 = 0 → unhex (l ++ r) = match unhex l, unhex r with | some x, some y => some (x ++ y) | _, _ => none
  | [], r, _ => by simp [unhex]; cases unhex r <;> rfl
  | [_], r, h => by simp at h
  | a :: b :: t, r, h => by
    simp only [List.cons_append, unhex, unhex_append t r (by simp at h; omega)]
    cases hexv a <;> cases hexv b <;> cases unhex t <;> cases unhex r <;> simp
/-- the digits of the first 2k letters, and two letters more -/
theorem unhex_step (l : List UInt8) (k : Nat) (a b : UInt8) (ha : l[2 * k]? = some a) (hb : l[2 * k + 1]? = some b) :
    unhex (l.take (2 * (k + 1))) = match unhex (l.take (2 * k)), hexv a, hexv b with | some s, some x, some y => some (s ++ [UInt8.ofNat (16 * x + y)]) | _, _, _ => none := by
  have hlen : 2 * k + 1 < l.length := by
    rcases Nat.lt_or_ge (2 * k + 1) l.length with h | h
    · exact h
    · rw [List.getElem?_eq_none h] at hb; simp at hb
  have e : l.take (2 * (k + 1)) = l.take (2 * k) ++ [a, b] := by
    rw [show 2 * (k + 1) = (2 * k + 1) + 1 from by omega, List.take_add_one, List.take_add_one, ha, hb]
    simp
  rw [e, unhex_append _ _ (by simp; omega)]
  cases unhex (l.take (2 * k)) <;> simp [unhex] <;> cases hexv a <;> cases hexv b <;> simp
theorem unhex_none (l : List UInt8) (k : Nat) (hk : 2 * k ≤ l.length) (h : unhex (l.take (2 * k)) = none) : unhex l = none := by
  have e := unhex_append (l.take (2 * k)) (l.drop (2 * k)) (by simp; omega)
  rw [List.take_append_drop, h] at e
  exact e
def fmtHex (s : List UInt8) : List UInt8 := if s.length ≤ 4000 then hex s else []
def parseHex (t : List UInt8) : Option (List UInt8) := if t.length % 2 = 0 ∧ t.length ≤ 8000 then unhex t else none
end Go.Proofs.Ytoiifopjipfjhaa.M
