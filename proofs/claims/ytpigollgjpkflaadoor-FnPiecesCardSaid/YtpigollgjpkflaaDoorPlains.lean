/- Several texts of this proof in one: PlainFrame, PlainWide, PlainCheck, PlainPut, PlainTake, PlainAll, PlainSpec, PlainCut, PlainPieces, PlainRounds. -/
import Derived.Test.YtpigollgjpkflaaDoorTick1
import Derived.Test.YtpigollgjpkflaaDoorMem
import Derived.Laws.BitsAllLaws
import Derived.Laws.BitsLemmas
/- Plain: what a frame is, no program. -/
namespace Go.Proofs.YtpigollgjpkflaaDoor

def fOk (k y t v : Int) : Bool := (k == 1 && inB y 0 65535 && inB t 0 1000000 && inB v (-1000000) 1000000) || (k == 2 && y == 0 && inB t 0 1000000 && v == 0) || (k == 3 && y == 0 && t == 0 && v == 0)
theorem fOk_event (y t v : Int) : fOk 1 y t v = (inB y 0 65535 && inB t 0 1000000 && inB v (-1000000) 1000000) := by simp [fOk]
theorem fOk_mark (y t v : Int) : fOk 2 y t v = (y == 0 && inB t 0 1000000 && v == 0) := by simp [fOk]
theorem fOk_bye (y t v : Int) : fOk 3 y t v = (y == 0 && t == 0 && v == 0) := by simp [fOk]
theorem fOk_none {k : Int} (y t v : Int) (h1 : (k == 1) = false) (h2 : (k == 2) = false) (h3 : (k == 3) = false) : fOk k y t v = false := by simp [fOk, h1, h2, h3]

end Go.Proofs.YtpigollgjpkflaaDoor

/- Plain: a number in so many bytes, the greatest first. No program. -/
namespace Go.Proofs.YtpigollgjpkflaaDoor

def wide : Nat → Int → List Int
  | 0, _ => []
  | n + 1, x => (x / ((256 ^ n : Nat) : Int) % 256) :: wide n x
theorem wide_len (n : Nat) (x : Int) : (wide n x).length = n := by induction n with | zero => rfl | succ n ih => simp [wide, ih]
theorem wide_isB (n : Nat) (x : Int) : IsB (wide n x) := by
  induction n with
  | zero => exact IsB.nil
  | succ n ih =>
    intro y hy
    simp only [wide, List.mem_cons] at hy
    rcases hy with rfl | hy
    · omega
    · exact ih y hy

theorem wide_drop (n : Nat) (x : Int) (j : Nat) (hj : j ≤ n) : (wide n x).drop j = wide (n - j) x := by
  induction j generalizing n with
  | zero => rfl
  | succ j ih =>
    obtain ⟨m, rfl⟩ : ∃ m, n = m + 1 := ⟨n - 1, by omega⟩
    simp only [wide, List.drop_succ_cons, Nat.add_sub_add_right]
    exact ih m (by omega)
/-- One byte more: i of them are still to come. -/
theorem wide_take (x : Int) (j i : Nat) : (wide (j + (i + 1)) x).take (j + 1) = (wide (j + (i + 1)) x).take j ++ [x / ((256 ^ i : Nat) : Int) % 256] := by
  rw [List.take_add_one]
  congr 1
  have h : (wide (j + (i + 1)) x)[j]? = ((wide (j + (i + 1)) x).drop j)[0]? := by simp
  rw [h, wide_drop _ _ _ (by omega), show j + (i + 1) - j = i + 1 from by omega]
  rfl
theorem wide_take0 (x : Int) (j : Nat) : (wide (j + 1) x).take (j + 1) = (wide (j + 1) x).take j ++ [x % 256] := by
  have h := wide_take x j 0
  simpa using h
theorem wide_take1 (x : Int) (j : Nat) : (wide (j + 2) x).take (j + 1) = (wide (j + 2) x).take j ++ [x / 256 % 256] := wide_take x j 1
theorem wide_take2 (x : Int) (j : Nat) : (wide (j + 3) x).take (j + 1) = (wide (j + 3) x).take j ++ [x / 65536 % 256] := wide_take x j 2
theorem wide_take3 (x : Int) (j : Nat) : (wide (j + 4) x).take (j + 1) = (wide (j + 4) x).take j ++ [x / 16777216 % 256] := wide_take x j 3
theorem wide_at0 {n j : Nat} (x : Int) (h : j + 1 = n) : (wide n x).take (j + 1) = (wide n x).take j ++ [x % 256] := by subst h; exact wide_take0 x j
theorem wide_at1 {n j : Nat} (x : Int) (h : j + 2 = n) : (wide n x).take (j + 1) = (wide n x).take j ++ [x / 256 % 256] := by subst h; exact wide_take1 x j
theorem wide_at2 {n j : Nat} (x : Int) (h : j + 3 = n) : (wide n x).take (j + 1) = (wide n x).take j ++ [x / 65536 % 256] := by subst h; exact wide_take2 x j
theorem wide_at3 {n j : Nat} (x : Int) (h : j + 4 = n) : (wide n x).take (j + 1) = (wide n x).take j ++ [x / 16777216 % 256] := by subst h; exact wide_take3 x j
theorem wide_top {n j : Nat} {x : Int} (h0 : 0 ≤ x) (h1 : x ≤ 4294967295) (h : j + 4 = n) : (wide n x).take (j + 1) = (wide n x).take j ++ [x / 16777216] := by
  rw [wide_at3 x h, Int.emod_eq_of_lt (show 0 ≤ x / 16777216 by omega) (show x / 16777216 < 256 by omega)]
theorem and_byte {q : Int} (h0 : 0 ≤ q) (h1 : q ≤ 4294967295) : bits .and .i64 q 255 = q % 256 := by
  obtain ⟨x, rfl⟩ := Int.eq_ofNat_of_zero_le h0
  show IntKind.i64.wrap ((BitVec.ofInt 64 (x : Int) &&& BitVec.ofInt 64 255).toNat : Int) = _
  rw [BitVec.toNat_and, BitVec.ofInt_natCast, BitVec.toNat_ofNat, Nat.mod_eq_of_lt (show x < 2 ^ 64 by omega)]
  have e : (BitVec.ofInt 64 255).toNat = 255 := by decide
  rw [e, Nat.and_two_pow_sub_one_eq_mod x 8, IntKind.wrap_i64]
  omega

end Go.Proofs.YtpigollgjpkflaaDoor

/- Plain: the remainder that is written behind a body. No program. -/
namespace Go.Proofs.YtpigollgjpkflaaDoor

def xorI (a b : Int) : Int := ((a.toNat ^^^ b.toNat : Nat) : Int)
theorem xorI_bd {a b : Int} (h0 : 0 ≤ a) (h1 : a ≤ 4294967295) (k0 : 0 ≤ b) (k1 : b ≤ 4294967295) : 0 ≤ xorI a b ∧ xorI a b ≤ 4294967295 := by
  have h : a.toNat ^^^ b.toNat < 2 ^ 32 := Nat.xor_lt_two_pow (by omega) (by omega)
  unfold xorI
  omega
theorem ofInt_i64 (a : Nat) (ha : a < 9223372036854775808) : (BitVec.ofInt 64 (a : Int)).toNat = a := by
  rw [BitVec.ofInt_natCast, BitVec.toNat_ofNat]; exact Nat.mod_eq_of_lt (by omega)
theorem xor_i64 {a b : Int} (h0 : 0 ≤ a) (h1 : a ≤ 4294967295) (k0 : 0 ≤ b) (k1 : b ≤ 4294967295) : bits .xor .i64 a b = xorI a b := by
  obtain ⟨x, rfl⟩ := Int.eq_ofNat_of_zero_le h0
  obtain ⟨y, rfl⟩ := Int.eq_ofNat_of_zero_le k0
  have hx : x ^^^ y < 2 ^ 32 := Nat.xor_lt_two_pow (by omega) (by omega)
  show IntKind.i64.wrap ((BitVec.ofInt 64 (x : Int) ^^^ BitVec.ofInt 64 (y : Int)).toNat : Int) = ((x ^^^ y : Nat) : Int)
  rw [BitVec.toNat_xor, ofInt_i64 x (by omega), ofInt_i64 y (by omega), IntKind.wrap_i64]
  omega
theorem xor_u32 {a b : Int} (h0 : 0 ≤ a) (h1 : a ≤ 4294967295) (k0 : 0 ≤ b) (k1 : b ≤ 4294967295) : bits .xor .u32 a b = xorI a b :=
  u32_xor a b h0 (by omega) k0 (by omega)
theorem and1_u32 {a : Int} (h0 : 0 ≤ a) (h1 : a ≤ 4294967295) : bits .and .u32 a 1 = a % 2 := by
  rw [u32_and a 1 h0 (by omega) (by omega) (by omega)]
  have e : a.toNat &&& (1 : Int).toNat = a.toNat % 2 := nat_mask1 a.toNat
  rw [e]
  omega

theorem not_u32 {a : Int} (h0 : 0 ≤ a) (h1 : a ≤ 4294967295) : bits .xor .u32 IntKind.u32.max a = 4294967295 - a := by
  obtain ⟨x, rfl⟩ := Int.eq_ofNat_of_zero_le h0
  show IntKind.u32.wrap ((BitVec.ofInt 32 IntKind.u32.max ^^^ BitVec.ofInt 32 (x : Int)).toNat : Int) = _
  have e : BitVec.ofInt 32 IntKind.u32.max = BitVec.allOnes 32 := by decide
  rw [e, BitVec.allOnes_xor, BitVec.toNat_not, ofInt_u32 x (by omega), IntKind.wrap_u32']
  omega

/-- One bit, so many bits, one byte. -/
def crcBit (c : Int) : Int := if c % 2 = 1 then xorI (c / 2) 3988292384 else c / 2
def crcBits (c : Int) : Nat → Int
  | 0 => c
  | j + 1 => crcBit (crcBits c j)
theorem crcBit_bd {c : Int} (h0 : 0 ≤ c) (h1 : c ≤ 4294967295) : 0 ≤ crcBit c ∧ crcBit c ≤ 4294967295 := by
  unfold crcBit
  split
  · exact xorI_bd (by omega) (by omega) (by omega) (by omega)
  · omega
theorem crcBits_bd {c : Int} (h0 : 0 ≤ c) (h1 : c ≤ 4294967295) (j : Nat) : 0 ≤ crcBits c j ∧ crcBits c j ≤ 4294967295 := by
  induction j with
  | zero => exact ⟨h0, h1⟩
  | succ j ih => exact crcBit_bd ih.1 ih.2
theorem crcBit_odd {c : Int} (h : (c % 2 == 1) = true) : crcBit c = xorI (c / 2) 3988292384 := by unfold crcBit; rw [if_pos (by simpa using h)]
theorem crcBit_even {c : Int} (h : (c % 2 == 1) = false) : crcBit c = c / 2 := by unfold crcBit; rw [if_neg (by simpa using h)]
def crcByte (c x : Int) : Int := crcBits (xorI c x) 8
theorem crcByte_bd {c x : Int} (h0 : 0 ≤ c) (h1 : c ≤ 4294967295) (k0 : 0 ≤ x) (k1 : x ≤ 255) : 0 ≤ crcByte c x ∧ crcByte c x ≤ 4294967295 :=
  crcBits_bd (xorI_bd h0 h1 k0 (by omega)).1 (xorI_bd h0 h1 k0 (by omega)).2 8
def crcTo (xs : List Int) (k : Nat) : Int := foldTo crcByte 4294967295 xs k
theorem crcTo_zero (xs : List Int) : crcTo xs 0 = 4294967295 := rfl
theorem crcTo_succ (xs : List Int) (k : Nat) (hk : k < xs.length) : crcTo xs (k + 1) = crcByte (crcTo xs k) (el xs k) := foldTo_succ _ _ _ _ hk
theorem crcTo_bd {xs : List Int} (h : IsB xs) (k : Nat) (hk : k ≤ xs.length) : 0 ≤ crcTo xs k ∧ crcTo xs k ≤ 4294967295 := by
  induction k with
  | zero => rw [crcTo_zero]; omega
  | succ k ih =>
    rw [crcTo_succ _ _ (by omega)]
    have h1 := ih (by omega)
    exact crcByte_bd h1.1 h1.2 (el_bd h k).1 (el_bd h k).2
def crc (xs : List Int) : Int := 4294967295 - crcTo xs xs.length
theorem crc_bd {xs : List Int} (h : IsB xs) : 0 ≤ crc xs ∧ crc xs ≤ 4294967295 := by
  have := crcTo_bd h xs.length (Nat.le_refl _)
  unfold crc; omega

end Go.Proofs.YtpigollgjpkflaaDoor

/- Plain: a frame as bytes. No program. -/
namespace Go.Proofs.YtpigollgjpkflaaDoor

def bodyL (k y t v : Int) : List Int := if k = 1 then (([1] ++ wide 2 y) ++ wide 3 t) ++ wide 3 (v + 1000000) else if k = 2 then [2] ++ wide 3 t else [3]
theorem bodyL_event (y t v : Int) : bodyL 1 y t v = (([1] ++ wide 2 y) ++ wide 3 t) ++ wide 3 (v + 1000000) := by simp [bodyL]
theorem bodyL_mark (y t v : Int) : bodyL 2 y t v = [2] ++ wide 3 t := by simp [bodyL]
theorem bodyL_bye (y t v : Int) : bodyL 3 y t v = [3] := by simp [bodyL]
theorem bodyL_isB (k y t v : Int) : IsB (bodyL k y t v) := by
  unfold bodyL
  split
  · exact (((IsB.one (by omega) (by omega)).append (wide_isB _ _)).append (wide_isB _ _)).append (wide_isB _ _)
  · split
    · exact (IsB.one (by omega) (by omega)).append (wide_isB _ _)
    · exact IsB.one (by omega) (by omega)
theorem bodyL_len (k y t v : Int) : (bodyL k y t v).length ≤ 9 ∧ 1 ≤ (bodyL k y t v).length := by
  unfold bodyL
  split
  · simp [wide_len]
  · split
    · simp [wide_len]
    · simp
def putL (k y t v : Int) : List Int := if fOk k y t v = true then ([((bodyL k y t v).length : Int)] ++ bodyL k y t v) ++ wide 4 (crc (bodyL k y t v)) else []
theorem putL_no {k y t v : Int} (h : fOk k y t v = false) : putL k y t v = [] := by unfold putL; simp [h]
theorem putL_yes {k y t v : Int} (h : fOk k y t v = true) : putL k y t v = ([((bodyL k y t v).length : Int)] ++ bodyL k y t v) ++ wide 4 (crc (bodyL k y t v)) := by unfold putL; rw [if_pos h]
theorem putL_len (k y t v : Int) : (putL k y t v).length ≤ 14 := by
  unfold putL
  split
  · have := bodyL_len k y t v
    simp [wide_len]; omega
  · simp
theorem putL_isB (k y t v : Int) : IsB (putL k y t v) := by
  unfold putL
  split
  · have := bodyL_len k y t v
    exact ((IsB.one (by omega) (by omega)).append (bodyL_isB k y t v)).append (wide_isB _ _)
  · exact IsB.nil
theorem wide_one {x : Int} (h0 : 0 ≤ x) (h1 : x ≤ 255) : wide 1 x = [x] := by
  simp [wide]
  omega
/-- What is known of a frame's numbers. -/
theorem fOk_bd {k y t v : Int} (h : fOk k y t v = true) : (k = 1 ∧ 0 ≤ y ∧ y ≤ 65535 ∧ 0 ≤ t ∧ t ≤ 1000000 ∧ -1000000 ≤ v ∧ v ≤ 1000000) ∨ (k = 2 ∧ y = 0 ∧ 0 ≤ t ∧ t ≤ 1000000 ∧ v = 0) ∨ (k = 3 ∧ y = 0 ∧ t = 0 ∧ v = 0) := by
  unfold fOk inB at h
  simp at h
  omega

end Go.Proofs.YtpigollgjpkflaaDoor

/- Plain: frames read from the front of bytes. No program. -/
namespace Go.Proofs.YtpigollgjpkflaaDoor

/-- Bytes as a number, the greatest first. -/
def readL (xs : List Int) : Int := xs.foldl (fun x b => x * 256 + b) 0
theorem readL_snoc (xs : List Int) (b : Int) : readL (xs ++ [b]) = readL xs * 256 + b := by simp [readL]
theorem readL_acc (ys : List Int) : ∀ (acc : Int) (m : Nat), IsB ys → 0 ≤ acc → acc < ((256 ^ m : Nat) : Int) → 0 ≤ ys.foldl (fun x b => x * 256 + b) acc ∧ ys.foldl (fun x b => x * 256 + b) acc < ((256 ^ (m + ys.length) : Nat) : Int) := by
  induction ys with
  | nil => intro acc m _ h0 h1; exact ⟨h0, h1⟩
  | cons b ys ih =>
    intro acc m hy h0 h1
    have hb := hy b (by simp)
    have e : m + (b :: ys).length = (m + 1) + ys.length := by simp; omega
    rw [e, List.foldl_cons]
    refine ih _ (m + 1) (fun x hx => hy x (by simp [hx])) (by omega) ?_
    rw [Nat.pow_succ]
    omega
theorem readL_bd {xs : List Int} (h : IsB xs) (n : Nat) (hn : xs.length ≤ n) : 0 ≤ readL xs ∧ readL xs < ((256 ^ n : Nat) : Int) := by
  have h1 := readL_acc xs 0 0 h (by omega) (by simp)
  refine ⟨h1.1, Int.lt_of_lt_of_le h1.2 ?_⟩
  exact_mod_cast Nat.pow_le_pow_right (by omega) (by omega)
/-- A number of so many bytes; what is not there counts as noughts. -/
def numL (n : Nat) (xs : List Int) : Int := readL (xs.take n) * ((256 ^ (n - min n xs.length) : Nat) : Int)
theorem numL_bd {xs : List Int} (h : IsB xs) (n : Nat) : 0 ≤ numL n xs ∧ numL n xs < ((256 ^ n : Nat) : Int) := by
  have h1 := readL_bd (h.take n) (min n xs.length) (by rw [List.length_take]; exact Nat.le_refl _)
  have h2 : 256 ^ n = 256 ^ (min n xs.length) * 256 ^ (n - min n xs.length) := by rw [← Nat.pow_add]; congr 1; omega
  have h3 : (0 : Int) < ((256 ^ (n - min n xs.length) : Nat) : Int) := by exact_mod_cast Nat.pow_pos (by omega)
  unfold numL
  refine ⟨Int.mul_nonneg h1.1 (Int.le_of_lt h3), ?_⟩
  rw [h2, Int.natCast_mul]
  exact Int.mul_lt_mul_of_pos_right h1.2 h3
theorem num1_bd {xs : List Int} (h : IsB xs) : 0 ≤ numL 1 xs ∧ numL 1 xs ≤ 255 := by
  have := numL_bd h 1
  have e : ((256 ^ 1 : Nat) : Int) = 256 := by decide
  omega
theorem num2_bd {xs : List Int} (h : IsB xs) : 0 ≤ numL 2 xs ∧ numL 2 xs ≤ 65535 := by
  have := numL_bd h 2
  have e : ((256 ^ 2 : Nat) : Int) = 65536 := by decide
  omega
theorem num3_bd {xs : List Int} (h : IsB xs) : 0 ≤ numL 3 xs ∧ numL 3 xs ≤ 16777215 := by
  have := numL_bd h 3
  have e : ((256 ^ 3 : Nat) : Int) = 16777216 := by decide
  omega

/-- The least frame that bytes allow: its kind, key, time, value. -/
def f0K (xs : List Int) : Int := if numL 1 xs = 9 then 1 else if numL 1 xs = 4 then 2 else if numL 1 xs = 1 then 3 else 0
def f0Y (xs : List Int) : Int := if numL 1 xs = 9 then numL 2 (xs.drop 2) else 0
def f0T (xs : List Int) : Int := if numL 1 xs = 9 then numL 3 (xs.drop 4) else if numL 1 xs = 4 then numL 3 (xs.drop 2) else 0
def f0V (xs : List Int) : Int := if numL 1 xs = 9 then numL 3 (xs.drop 7) - 1000000 else 0
/-- That frame as bytes; nothing where it is none. -/
def put0 (xs : List Int) : List Int := putL (f0K xs) (f0Y xs) (f0T xs) (f0V xs)
/-- A frame stands in front; it may still come. -/
def tkHere (xs : List Int) : Bool := decide (0 < (put0 xs).length) && (put0 xs).isPrefixOf xs
def tkMore (xs : List Int) : Bool := xs.isPrefixOf (put0 xs)

end Go.Proofs.YtpigollgjpkflaaDoor

/- Plain: all frames from the front of bytes; lists of frames as cells. No program. -/
namespace Go.Proofs.YtpigollgjpkflaaDoor

structure Fr where
  k : Int
  y : Int
  t : Int
  v : Int
/-- The cells of a list of frames. -/
def flatF (l : List Fr) : List Value := l.flatMap fun f => [.int .i64 f.k, .int .i64 f.y, .int .i64 f.t, .int .i64 f.v]
theorem flatF_nil : flatF [] = [] := rfl
theorem flatF_snoc (l : List Fr) (f : Fr) : flatF (l ++ [f]) = flatF l ++ [.int .i64 f.k, .int .i64 f.y, .int .i64 f.t, .int .i64 f.v] := by simp [flatF]
theorem flatF_append (l m : List Fr) : flatF (l ++ m) = flatF l ++ flatF m := by simp [flatF]
theorem flatF_len (l : List Fr) : (flatF l).length = l.length * 4 := by
  induction l with
  | nil => rfl
  | cons f l ih =>
    have e : flatF (f :: l) = [.int .i64 f.k, .int .i64 f.y, .int .i64 f.t, .int .i64 f.v] ++ flatF l := rfl
    rw [e, List.length_append, ih]
    simp; omega
def frD : Fr := ⟨0, 0, 0, 0⟩
/-- The frame at i. -/
def fel (l : List Fr) (i : Nat) : Fr := l.getD i frD
theorem flatF_at (l : List Fr) (i : Nat) (hi : i < l.length) : (flatF l)[i * 4]? = some (.int .i64 (fel l i).k) ∧ (flatF l)[i * 4 + 1]? = some (.int .i64 (fel l i).y) ∧ (flatF l)[i * 4 + 2]? = some (.int .i64 (fel l i).t) ∧ (flatF l)[i * 4 + 3]? = some (.int .i64 (fel l i).v) := by
  induction l generalizing i with
  | nil => simp at hi
  | cons f l ih =>
    have e : flatF (f :: l) = [.int .i64 f.k, .int .i64 f.y, .int .i64 f.t, .int .i64 f.v] ++ flatF l := rfl
    rw [e]
    cases i with
    | zero => simp [fel]
    | succ i =>
      have h := ih i (by simpa using hi)
      have e2 : fel (f :: l) (i + 1) = fel l i := by simp [fel]
      rw [e2]
      have e4 : ∀ j, ([.int .i64 f.k, .int .i64 f.y, .int .i64 f.t, .int .i64 f.v] ++ flatF l)[(i + 1) * 4 + j]? = (flatF l)[i * 4 + j]? := fun j => by
        rw [List.getElem?_append_right (by simp; omega)]
        congr 1
        simp; omega
      exact ⟨(e4 0).trans h.1, (e4 1).trans h.2.1, (e4 2).trans h.2.2.1, (e4 3).trans h.2.2.2⟩
theorem fel_take (l : List Fr) (i : Nat) (hi : i < l.length) : l.take (i + 1) = l.take i ++ [fel l i] := by
  rw [List.take_add_one]
  simp [fel, List.getD, hi]

def fr0 (xs : List Int) : Fr := ⟨f0K xs, f0Y xs, f0T xs, f0V xs⟩
theorem here_len {xs : List Int} (h : tkHere xs = true) : 0 < (put0 xs).length ∧ (put0 xs).length ≤ xs.length := by
  unfold tkHere at h
  rw [Bool.and_eq_true, decide_eq_true_eq] at h
  exact ⟨h.1, (List.isPrefixOf_iff_prefix.1 h.2).length_le⟩
/-- The frames, how many bytes are left, whether what is left is bent. -/
def afGo : Nat → List Int → List Fr × Nat × Bool
  | 0, xs => ([], xs.length, false)
  | m + 1, xs => if tkHere xs = true then (fr0 xs :: (afGo m (xs.drop (put0 xs).length)).1, (afGo m (xs.drop (put0 xs).length)).2) else ([], xs.length, !tkMore xs)
theorem af_here {m : Nat} {xs : List Int} (h : tkHere xs = true) : afGo (m + 1) xs = (fr0 xs :: (afGo m (xs.drop (put0 xs).length)).1, (afGo m (xs.drop (put0 xs).length)).2) := by simp [afGo, h]
theorem af_stop {m : Nat} {xs : List Int} (h : tkHere xs = false) : afGo (m + 1) xs = ([], xs.length, !tkMore xs) := by simp [afGo, h]
/-- What AllFrames answers. -/
structure Af where
  list : List Fr
  n : Int
  bad : Bool
def af (xs : List Int) : Af := if xs.length ≤ 400 then ⟨(afGo (xs.length + 1) xs).1, (xs.length : Int) - ((afGo (xs.length + 1) xs).2.1 : Int), (afGo (xs.length + 1) xs).2.2⟩ else ⟨[], 0, true⟩
theorem af_big {xs : List Int} (h : ¬ xs.length ≤ 400) : af xs = ⟨[], 0, true⟩ := by simp [af, h]
theorem af_ok {xs : List Int} (h : xs.length ≤ 400) : af xs = ⟨(afGo (xs.length + 1) xs).1, (xs.length : Int) - ((afGo (xs.length + 1) xs).2.1 : Int), (afGo (xs.length + 1) xs).2.2⟩ := by simp [af, h]
theorem afGo_le : ∀ (m : Nat) (xs : List Int), (afGo m xs).1.length ≤ xs.length ∧ (afGo m xs).2.1 ≤ xs.length
  | 0, xs => by simp [afGo]
  | m + 1, xs => by
    cases h : tkHere xs with
    | true =>
      rw [af_here h]
      have h1 := here_len h
      have h2 := afGo_le m (xs.drop (put0 xs).length)
      simp only [List.length_drop] at h2
      simp only [List.length_cons]
      omega
    | false => rw [af_stop h]; simp
theorem af_len (xs : List Int) : (af xs).list.length ≤ 400 := by
  by_cases h : xs.length ≤ 400
  · rw [af_ok h]
    have := (afGo_le (xs.length + 1) xs).1
    simp only
    omega
  · rw [af_big h]; simp
/-- Where a round stands: what was told so far, and what is left. -/
structure AfAt (xs : List Int) (acc : List Fr) (rest : List Int) (m : Nat) : Prop where
  eq : afGo (xs.length + 1) xs = (acc ++ (afGo m rest).1, (afGo m rest).2)
  lt : rest.length < m
  le : acc.length + rest.length ≤ xs.length
theorem AfAt.start (xs : List Int) : AfAt xs [] xs (xs.length + 1) := ⟨by simp, by omega, by simp⟩
theorem AfAt.step {xs : List Int} {acc : List Fr} {rest : List Int} {m : Nat} (h : AfAt xs acc rest m) (hh : tkHere rest = true) : AfAt xs (acc ++ [fr0 rest]) (rest.drop (put0 rest).length) (m - 1) := by
  obtain ⟨he, hl, hle⟩ := h
  obtain ⟨j, rfl⟩ : ∃ j, m = j + 1 := ⟨m - 1, by omega⟩
  have hp := here_len hh
  refine ⟨?_, by rw [List.length_drop]; omega, by simp; omega⟩
  rw [he, af_here hh, Nat.add_sub_cancel]
  simp
theorem AfAt.stop {xs : List Int} {acc : List Fr} {rest : List Int} {m : Nat} (h : AfAt xs acc rest m) (hh : tkHere rest = false) (hx : xs.length ≤ 400) : af xs = ⟨acc, (xs.length : Int) - (rest.length : Int), !tkMore rest⟩ := by
  obtain ⟨he, hl, hle⟩ := h
  obtain ⟨j, rfl⟩ : ∃ j, m = j + 1 := ⟨m - 1, by omega⟩
  rw [af_ok hx, he, af_stop hh]
  simp

end Go.Proofs.YtpigollgjpkflaaDoor

/- Plain: what the model's TakeFrame computes is what tkHere and tkMore say. No program. -/
namespace Go.Proofs.YtpigollgjpkflaaDoor

theorem num1_el (ys : List Int) : numL 1 ys = el ys 0 := by
  rcases ys with _ | ⟨x, ys⟩ <;> simp [numL, readL, el]
theorem num2_el (ys : List Int) : numL 2 ys = el ys 0 * 256 + el ys 1 := by
  rcases ys with _ | ⟨x, _ | ⟨y, ys⟩⟩ <;> simp [numL, readL, el]
theorem num3_el (ys : List Int) : numL 3 ys = (el ys 0 * 256 + el ys 1) * 256 + el ys 2 := by
  rcases ys with _ | ⟨x, _ | ⟨y, _ | ⟨z, ys⟩⟩⟩ <;> simp [numL, readL, el] <;> omega
theorem el_drop (xs : List Int) (m i : Nat) : el (xs.drop m) i = el xs (m + i) := by simp [el, List.getD]
theorem el_far (xs : List Int) (i : Nat) (h : xs.length ≤ i) : el xs i = 0 := by simp [el, List.getD, List.getElem?_eq_none h]
theorem ext_el {a b : List Int} (hl : a.length = b.length) (h : ∀ i, i < a.length → el a i = el b i) : a = b := by
  apply List.ext_getElem hl
  intro i h1 h2
  have := h i h1
  simpa [el, List.getD, h1, h2] using this
theorem prefix_el (a b : List Int) : a.isPrefixOf b = true ↔ a.length ≤ b.length ∧ ∀ i, i < a.length → el a i = el b i := by
  rw [List.isPrefixOf_iff_prefix, List.prefix_iff_eq_take]
  constructor
  · intro h
    have hl : a.length ≤ b.length := by
      have := congrArg List.length h
      rw [List.length_take] at this
      omega
    refine ⟨hl, fun i hi => ?_⟩
    have e : el (b.take a.length) i = el b i := by simp [el, List.getD, hi]
    rw [← e, ← h]
  · rintro ⟨hl, h⟩
    refine ext_el (by rw [List.length_take]; omega) fun i hi => ?_
    have e : el (b.take a.length) i = el b i := by simp [el, List.getD, hi]
    rw [e]; exact h i hi

/-- How long a kind's body is. -/
def sizeK (k : Int) : Int := if k = 1 then 9 else if k = 2 then 4 else if k = 3 then 1 else 0
/-- What the model reads from a whole body. -/
def sY (b : List Int) : Int := if el b 0 = 1 then el b 1 * 256 + el b 2 else 0
def sT (b : List Int) : Int := if el b 0 = 1 then (el b 3 * 256 + el b 4) * 256 + el b 5 else if el b 0 = 2 then (el b 1 * 256 + el b 2) * 256 + el b 3 else 0
def sV (b : List Int) : Int := if el b 0 = 1 then (el b 6 * 256 + el b 7) * 256 + el b 8 - 1000000 else 0
def sOk (b : List Int) : Bool := decide ((b.length : Int) = sizeK (el b 0)) && fOk (el b 0) (sY b) (sT b) (sV b)
/-- The body behind the length, filled up with noughts. -/
def padB (n : Nat) (xs : List Int) : List Int := (xs.drop 1).take n ++ List.replicate (n - ((xs.drop 1).take n).length) 0
theorem padB_len (n : Nat) (xs : List Int) : (padB n xs).length = n := by simp [padB]; omega
theorem padB_el (n : Nat) (xs : List Int) (i : Nat) (hi : i < n) : el (padB n xs) i = el xs (1 + i) := by
  unfold padB
  by_cases h : i < ((xs.drop 1).take n).length
  · have e : el ((xs.drop 1).take n ++ List.replicate (n - ((xs.drop 1).take n).length) 0) i = el ((xs.drop 1).take n) i := by simp only [el, List.getD]; rw [List.getElem?_append_left h]
    rw [e, ← el_drop]
    simp [el, List.getD, hi]
  · have e : el ((xs.drop 1).take n ++ List.replicate (n - ((xs.drop 1).take n).length) 0) i = 0 := by
      simp only [el, List.getD]
      rw [List.getElem?_append_right (by omega), List.getElem?_replicate]
      split <;> rfl
    rw [e, el_far]
    simp only [List.length_take, List.length_drop] at h
    omega
def agree (xs full : List Int) : Bool := decide (∀ i, i < min xs.length full.length → el xs i = el full i)
/-- What the model's l02Begins answers. -/
def begS (xs : List Int) : Bool :=
  if xs.length = 0 then true else if ¬ (el xs 0 = 9 ∨ el xs 0 = 4 ∨ el xs 0 = 1) then false else if xs.length = 1 then true else if sizeK (el xs 1) ≠ el xs 0 then false
  else if sOk (padB (el xs 0).toNat xs) = false then false else if (xs.length : Int) ≤ el xs 0 then true
  else agree xs (putL (el (padB (el xs 0).toNat xs) 0) (sY (padB (el xs 0).toNat xs)) (sT (padB (el xs 0).toNat xs)) (sV (padB (el xs 0).toNat xs)))

/-- The least frame's bytes, where it is one: all but the kind and the check sum are what stands there. -/
theorem put0_shape (xs : List Int) (hx : IsB xs) (n : Nat) (hn : n = 9 ∨ n = 4 ∨ n = 1) (h0 : el xs 0 = n) (hne : put0 xs ≠ []) :
    (put0 xs).length = n + 5 ∧ sizeK (el (put0 xs) 1) = n ∧ (1 ≤ el (put0 xs) 1 ∧ el (put0 xs) 1 ≤ 3) ∧ ∀ i, i ≤ n → i ≠ 1 → el (put0 xs) i = el xs i := by
  have hb := fun i => el_bd hx i
  rcases hn with rfl | rfl | rfl
  · have hok : fOk (f0K xs) (f0Y xs) (f0T xs) (f0V xs) = true := by
      cases h : fOk (f0K xs) (f0Y xs) (f0T xs) (f0V xs) with
      | true => rfl
      | false => exact absurd (putL_no h) hne
    have e1 : numL 1 xs = 9 := by rw [num1_el]; exact h0
    have eP : put0 xs = [9, 1, el xs 2, el xs 3, el xs 4, el xs 5, el xs 6, el xs 7, el xs 8, el xs 9] ++ wide 4 (crc (bodyL (f0K xs) (f0Y xs) (f0T xs) (f0V xs))) := by
      unfold put0
      rw [putL_yes hok]
      congr 1
      unfold f0K f0Y f0T f0V
      simp only [if_pos e1, bodyL_event, num2_el, num3_el, el_drop, wide, List.length_cons, List.length_nil, List.cons_append, List.nil_append]
      have b2 := hb 2; have b3 := hb 3; have b4 := hb 4; have b5 := hb 5; have b6 := hb 6; have b7 := hb 7; have b8 := hb 8; have b9 := hb 9
      simp only [List.cons.injEq, and_true, true_and, Nat.reducePow, Nat.reduceAdd]
      refine ⟨by decide, ?_⟩
      refine ⟨?_, ?_, ?_, ?_, ?_, ?_, ?_, ?_⟩ <;> omega
    rw [eP]
    refine ⟨by simp [wide_len], by simp [el, sizeK], by simp [el], fun i hi h1 => ?_⟩
    have : i = 0 ∨ i = 2 ∨ i = 3 ∨ i = 4 ∨ i = 5 ∨ i = 6 ∨ i = 7 ∨ i = 8 ∨ i = 9 := by omega
    rcases this with rfl | rfl | rfl | rfl | rfl | rfl | rfl | rfl | rfl
    · rw [h0]; rfl
    all_goals rfl
  · have hok : fOk (f0K xs) (f0Y xs) (f0T xs) (f0V xs) = true := by
      cases h : fOk (f0K xs) (f0Y xs) (f0T xs) (f0V xs) with
      | true => rfl
      | false => exact absurd (putL_no h) hne
    have e1 : numL 1 xs = 4 := by rw [num1_el]; exact h0
    have eP : put0 xs = [4, 2, el xs 2, el xs 3, el xs 4] ++ wide 4 (crc (bodyL (f0K xs) (f0Y xs) (f0T xs) (f0V xs))) := by
      unfold put0
      rw [putL_yes hok]
      congr 1
      unfold f0K f0Y f0T f0V
      simp only [e1, if_true, show ¬ ((4 : Int) = 9) by omega, if_false, bodyL_mark, num2_el, num3_el, el_drop, wide, List.length_cons, List.length_nil, List.cons_append, List.nil_append]
      have b2 := hb 2; have b3 := hb 3; have b4 := hb 4
      simp only [List.cons.injEq, and_true, true_and, Nat.reducePow, Nat.reduceAdd]
      refine ⟨by decide, ?_⟩
      refine ⟨?_, ?_, ?_⟩ <;> omega
    rw [eP]
    refine ⟨by simp [wide_len], by simp [el, sizeK], by simp [el], fun i hi h1 => ?_⟩
    have : i = 0 ∨ i = 2 ∨ i = 3 ∨ i = 4 := by omega
    rcases this with rfl | rfl | rfl | rfl
    · rw [h0]; rfl
    all_goals rfl
  · have hok : fOk (f0K xs) (f0Y xs) (f0T xs) (f0V xs) = true := by
      cases h : fOk (f0K xs) (f0Y xs) (f0T xs) (f0V xs) with
      | true => rfl
      | false => exact absurd (putL_no h) hne
    have e1 : numL 1 xs = 1 := by rw [num1_el]; exact h0
    have eP : put0 xs = [1, 3] ++ wide 4 (crc (bodyL (f0K xs) (f0Y xs) (f0T xs) (f0V xs))) := by
      unfold put0
      rw [putL_yes hok]
      congr 1
      unfold f0K f0Y f0T f0V
      simp [e1, bodyL_bye]
    rw [eP]
    refine ⟨by simp [wide_len], by simp [el, sizeK], by simp [el], fun i hi h1 => ?_⟩
    have : i = 0 := by omega
    subst this
    rw [h0]; rfl

theorem sizeK_inj {a b : Int} (h : sizeK a = sizeK b) (h0 : sizeK a ≠ 0) : a = b := by
  unfold sizeK at h h0
  repeat' split at h
  all_goals first | omega | (simp_all)
theorem pad_fields (xs : List Int) (n : Nat) (hn : n = 9 ∨ n = 4 ∨ n = 1) (h0 : el xs 0 = n) (hk : sizeK (el xs 1) = n) :
    el (padB n xs) 0 = f0K xs ∧ sY (padB n xs) = f0Y xs ∧ sT (padB n xs) = f0T xs ∧ sV (padB n xs) = f0V xs := by
  have e0 : el (padB n xs) 0 = el xs 1 := padB_el n xs 0 (by omega)
  rcases hn with rfl | rfl | rfl
  · have e1 : el xs 1 = 1 := sizeK_inj (hk.trans (by decide)) (by rw [hk]; decide)
    have en : numL 1 xs = 9 := by rw [num1_el]; exact h0
    have h := fun i hi => padB_el 9 xs i hi
    unfold sY sT sV f0K f0Y f0T f0V
    simp only [e0, e1, if_pos en, if_true, num2_el, num3_el, el_drop]
    rw [h 1 (by omega), h 2 (by omega), h 3 (by omega), h 4 (by omega), h 5 (by omega), h 6 (by omega), h 7 (by omega), h 8 (by omega)]
    refine ⟨?_, ?_, ?_, ?_⟩ <;> first | rfl | trivial
  · have e1 : el xs 1 = 2 := sizeK_inj (hk.trans (by decide)) (by rw [hk]; decide)
    have en : numL 1 xs = 4 := by rw [num1_el]; exact h0
    have h := fun i hi => padB_el 4 xs i hi
    unfold sY sT sV f0K f0Y f0T f0V
    simp only [e0, e1, en, show ¬ ((4 : Int) = 9) by omega, show ¬ ((2 : Int) = 1) by omega, if_true, if_false, num3_el, el_drop]
    rw [h 1 (by omega), h 2 (by omega), h 3 (by omega)]
    refine ⟨?_, ?_, ?_, ?_⟩ <;> first | rfl | trivial
  · have e1 : el xs 1 = 3 := sizeK_inj (hk.trans (by decide)) (by rw [hk]; decide)
    have en : numL 1 xs = 1 := by rw [num1_el]; exact h0
    unfold sY sT sV f0K f0Y f0T f0V
    simp only [e0, e1, en, show ¬ ((1 : Int) = 9) by omega, show ¬ ((1 : Int) = 4) by omega, show ¬ ((3 : Int) = 1) by omega, show ¬ ((3 : Int) = 2) by omega, if_true, if_false]
    refine ⟨?_, ?_, ?_, ?_⟩ <;> first | rfl | trivial
theorem here_no {xs : List Int} (h : put0 xs = []) : tkHere xs = false := by unfold tkHere; rw [h]; rfl
theorem more_no {xs : List Int} (h : put0 xs = []) (hx : xs.length ≠ 0) : tkMore xs = false := by
  unfold tkMore; rw [h]
  cases xs with
  | nil => simp at hx
  | cons x xs => rfl
theorem here_iff (xs : List Int) : tkHere xs = true ↔ 0 < (put0 xs).length ∧ (put0 xs).length ≤ xs.length ∧ ∀ i, i < (put0 xs).length → el (put0 xs) i = el xs i := by
  unfold tkHere
  rw [Bool.and_eq_true, decide_eq_true_iff, prefix_el]
theorem more_iff (xs : List Int) : tkMore xs = true ↔ xs.length ≤ (put0 xs).length ∧ ∀ i, i < xs.length → el xs i = el (put0 xs) i := prefix_el _ _

/-- The three answers of the model, and what tkHere and tkMore say then. -/
theorem begS_tk (xs : List Int) (hx : IsB xs) :
    (begS xs = false → tkHere xs = false ∧ tkMore xs = false) ∧
    (begS xs = true → (xs.length = 0 ∨ (xs.length : Int) < el xs 0 + 5) → tkHere xs = false ∧ tkMore xs = true) ∧
    (begS xs = true → ¬ xs.length = 0 → ¬ (xs.length : Int) < el xs 0 + 5 → tkHere xs = true ∧ ((put0 xs).length : Int) = el xs 0 + 5 ∧ (el xs 0 = 9 ∨ el xs 0 = 4 ∨ el xs 0 = 1) ∧ sizeK (el xs 1) = el xs 0) := by
  by_cases hlen : xs.length = 0
  · have e : xs = [] := List.length_eq_zero_iff.1 hlen
    subst e
    refine ⟨fun h => by simp [begS] at h, fun _ _ => ?_, fun _ h => absurd rfl h⟩
    exact ⟨here_no (by decide), by unfold tkMore; rfl⟩
  by_cases hn : ¬ (el xs 0 = 9 ∨ el xs 0 = 4 ∨ el xs 0 = 1)
  · have hp : put0 xs = [] := by
      unfold put0
      have e : f0K xs = 0 := by unfold f0K; rw [num1_el]; rw [if_neg (by omega), if_neg (by omega), if_neg (by omega)]
      rw [e]
      exact putL_no (fOk_none _ _ _ rfl rfl rfl)
    have hb : begS xs = false := by unfold begS; rw [if_neg hlen, if_pos hn]
    rw [hb]
    exact ⟨fun _ => ⟨here_no hp, more_no hp hlen⟩, fun h => by simp at h, fun h => by simp at h⟩
  have hn' : el xs 0 = 9 ∨ el xs 0 = 4 ∨ el xs 0 = 1 := by omega
  obtain ⟨n, h0, hn3⟩ : ∃ n : Nat, el xs 0 = n ∧ (n = 9 ∨ n = 4 ∨ n = 1) := by
    rcases hn' with h | h | h
    · exact ⟨9, h, by omega⟩
    · exact ⟨4, h, by omega⟩
    · exact ⟨1, h, by omega⟩
  have hT : (el xs 0).toNat = n := by omega
  by_cases h1 : xs.length = 1
  · have hb : begS xs = true := by unfold begS; rw [if_neg hlen, if_neg hn, if_pos h1]
    have hf : ∀ i, 1 ≤ i → el xs i = 0 := fun i hi => el_far xs i (by omega)
    have hne : put0 xs ≠ [] := by
      intro h
      have hl := congrArg List.length h
      have hok : fOk (f0K xs) (f0Y xs) (f0T xs) (f0V xs) = true := by
        unfold f0K f0Y f0T f0V
        rw [num1_el, num2_el, num3_el, num3_el, num3_el]
        simp only [el_drop, hf _ (show 1 ≤ 2 + 0 by omega), hf _ (show 1 ≤ 2 + 1 by omega), hf _ (show 1 ≤ 2 + 2 by omega), hf _ (show 1 ≤ 4 + 1 by omega), hf _ (show 1 ≤ 4 + 2 by omega), hf _ (show 1 ≤ 7 + 0 by omega), hf _ (show 1 ≤ 7 + 1 by omega), hf _ (show 1 ≤ 7 + 2 by omega)]
        rcases hn3 with rfl | rfl | rfl <;> (rw [h0]; decide)
      unfold put0 at hl
      rw [putL_yes hok] at hl
      simp at hl
    have sh := put0_shape xs hx n hn3 h0 hne
    rw [hb]
    refine ⟨fun h => by simp at h, fun _ _ => ⟨?_, ?_⟩, fun _ _ h => absurd (by omega) h⟩
    · cases h : tkHere xs with
      | false => rfl
      | true => have := ((here_iff xs).1 h).2.1; omega
    · refine (more_iff xs).2 ⟨by omega, fun i hi => ?_⟩
      have : i = 0 := by omega
      subst this
      exact (sh.2.2.2 0 (by omega) (by omega)).symm
  by_cases hk : sizeK (el xs 1) ≠ el xs 0
  · have hb : begS xs = false := by unfold begS; rw [if_neg hlen, if_neg hn, if_neg h1, if_pos hk]
    rw [hb]
    refine ⟨fun _ => ?_, fun h => by simp at h, fun h => by simp at h⟩
    by_cases hne : put0 xs = []
    · exact ⟨here_no hne, more_no hne hlen⟩
    · have sh := put0_shape xs hx n hn3 h0 hne
      constructor
      · cases h : tkHere xs with
        | false => rfl
        | true =>
          have e := ((here_iff xs).1 h).2.2 1 (by omega)
          rw [e, ← h0] at sh
          exact absurd sh.2.1 hk
      · cases h : tkMore xs with
        | false => rfl
        | true =>
          have e := ((more_iff xs).1 h).2 1 (by omega)
          rw [← e, ← h0] at sh
          exact absurd sh.2.1 hk
  have hk' : sizeK (el xs 1) = el xs 0 := by omega
  have pf := pad_fields xs n hn3 h0 (hk'.trans h0)
  have eok : sOk (padB n xs) = fOk (f0K xs) (f0Y xs) (f0T xs) (f0V xs) := by
    unfold sOk
    have e0 : el (padB n xs) 0 = el xs 1 := padB_el n xs 0 (by omega)
    rw [padB_len, pf.2.1, pf.2.2.1, pf.2.2.2]
    have : decide ((n : Int) = sizeK (el (padB n xs) 0)) = true := by rw [e0, hk', h0]; simp
    rw [this, pf.1, Bool.true_and]
  cases hok : fOk (f0K xs) (f0Y xs) (f0T xs) (f0V xs) with
  | false =>
    have hp : put0 xs = [] := putL_no hok
    have hb : begS xs = false := by unfold begS; rw [if_neg hlen, if_neg hn, if_neg h1, if_neg hk, hT, if_pos (eok.trans hok)]
    rw [hb]
    exact ⟨fun _ => ⟨here_no hp, more_no hp hlen⟩, fun h => by simp at h, fun h => by simp at h⟩
  | true =>
    have hne : put0 xs ≠ [] := by
      intro h
      have hl := congrArg List.length h
      unfold put0 at hl
      rw [putL_yes hok] at hl
      simp at hl
    have sh := put0_shape xs hx n hn3 h0 hne
    have e1 : el (put0 xs) 1 = el xs 1 := sizeK_inj (by rw [sh.2.1, hk', h0]) (by rw [sh.2.1]; omega)
    have eP : ∀ i, i ≤ n → el (put0 xs) i = el xs i := fun i hi => by
      by_cases h : i = 1
      · subst h; exact e1
      · exact sh.2.2.2 i hi h
    have hlP := sh.1
    by_cases hw : (xs.length : Int) ≤ el xs 0
    · have hb : begS xs = true := by unfold begS; rw [if_neg hlen, if_neg hn, if_neg h1, if_neg hk, hT, if_neg (by rw [eok, hok]; simp), if_pos hw]
      rw [hb]
      refine ⟨fun h => by simp at h, fun _ _ => ⟨?_, ?_⟩, fun _ _ h => absurd (by omega) h⟩
      · cases h : tkHere xs with
        | false => rfl
        | true => have := ((here_iff xs).1 h).2.1; omega
      · exact (more_iff xs).2 ⟨by omega, fun i hi => (eP i (by omega)).symm⟩
    · have hb : begS xs = agree xs (put0 xs) := by
        unfold begS
        rw [if_neg hlen, if_neg hn, if_neg h1, if_neg hk, hT, if_neg (by rw [eok, hok]; simp), if_neg hw, pf.1, pf.2.1, pf.2.2.1, pf.2.2.2]
        rfl
      rw [hb]
      cases ha : agree xs (put0 xs) with
      | true =>
        have hA : ∀ i, i < min xs.length (put0 xs).length → el xs i = el (put0 xs) i := by simpa [agree] using ha
        refine ⟨fun h => by simp at h, fun _ hor => ⟨?_, ?_⟩, fun _ _ h => ⟨?_, by omega, hn', hk'⟩⟩
        · cases h : tkHere xs with
          | false => rfl
          | true => have := ((here_iff xs).1 h).2.1; omega
        · exact (more_iff xs).2 ⟨by omega, fun i hi => hA i (by omega)⟩
        · exact (here_iff xs).2 ⟨by omega, by omega, fun i hi => (hA i (by omega)).symm⟩
      | false =>
        have hA : ¬ ∀ i, i < min xs.length (put0 xs).length → el xs i = el (put0 xs) i := by simpa [agree] using ha
        refine ⟨fun _ => ⟨?_, ?_⟩, fun h => by simp at h, fun h => by simp at h⟩
        · cases h : tkHere xs with
          | false => rfl
          | true => exact absurd (fun i hi => (((here_iff xs).1 h).2.2 i (by omega)).symm) hA
        · cases h : tkMore xs with
          | false => rfl
          | true => exact absurd (fun i hi => ((more_iff xs).1 h).2 i (by omega)) hA

end Go.Proofs.YtpigollgjpkflaaDoor

/- Plain: what the front of a frame's bytes says, whole and cut short. No program. -/
namespace Go.Proofs.YtpigollgjpkflaaDoor

theorem put1_els {y t v : Int} (h : fOk 1 y t v = true) : putL 1 y t v = [9, 1, y / 256 % 256, y % 256, t / 65536 % 256, t / 256 % 256, t % 256, (v + 1000000) / 65536 % 256, (v + 1000000) / 256 % 256, (v + 1000000) % 256] ++ wide 4 (crc (bodyL 1 y t v)) := by
  rw [putL_yes h]
  congr 1
  simp [bodyL, wide]
theorem put2_els {t : Int} (h : fOk 2 0 t 0 = true) : putL 2 0 t 0 = [4, 2, t / 65536 % 256, t / 256 % 256, t % 256] ++ wide 4 (crc (bodyL 2 0 t 0)) := by
  rw [putL_yes h]
  congr 1
  simp [bodyL, wide]
theorem put3_els : putL 3 0 0 0 = [1, 3] ++ wide 4 (crc (bodyL 3 0 0 0)) := by
  rw [putL_yes (by decide)]
  congr 1
theorem el_cut (xs : List Int) (m i : Nat) : el (xs.take m) i = if i < m then el xs i else 0 := by
  simp only [el, List.getD_eq_getElem?_getD, List.getElem?_take]
  split <;> simp
theorem el_app (a b : List Int) (i : Nat) (h : i < a.length) : el (a ++ b) i = el a i := by
  simp [el, List.getD, List.getElem?_append, h]
/-- A byte of a cut row. -/
theorem cut_bd (xs : List Int) (hx : IsB xs) (m i : Nat) : 0 ≤ el (xs.take m) i ∧ el (xs.take m) i ≤ el xs i ∧ el xs i ≤ 255 ∧ (i < m → el (xs.take m) i = el xs i) := by
  have h := el_bd hx i
  rw [el_cut]
  split
  · exact ⟨h.1, Int.le_refl _, h.2, fun _ => rfl⟩
  · rename_i hn
    exact ⟨Int.le_refl _, h.1, h.2, fun hh => absurd hh hn⟩
theorem f_event {ys : List Int} (h : el ys 0 = 9) : f0K ys = 1 ∧ f0Y ys = el ys 2 * 256 + el ys 3 ∧ f0T ys = (el ys 4 * 256 + el ys 5) * 256 + el ys 6 ∧ f0V ys = (el ys 7 * 256 + el ys 8) * 256 + el ys 9 - 1000000 := by
  have h1 := num1_el ys
  simp [f0K, f0Y, f0T, f0V, h1, h, num2_el, num3_el, el_drop]
theorem f_mark {ys : List Int} (h : el ys 0 = 4) : f0K ys = 2 ∧ f0Y ys = 0 ∧ f0T ys = (el ys 2 * 256 + el ys 3) * 256 + el ys 4 ∧ f0V ys = 0 := by
  have h1 := num1_el ys
  simp [f0K, f0Y, f0T, f0V, h1, h, num3_el, el_drop]
theorem f_bye {ys : List Int} (h : el ys 0 = 1) : f0K ys = 3 ∧ f0Y ys = 0 ∧ f0T ys = 0 ∧ f0V ys = 0 := by
  have h1 := num1_el ys
  simp [f0K, f0Y, f0T, f0V, h1, h]

/-- The front of a frame's bytes: the frame that it allows has the same front, and is the frame itself where the body is whole. -/
theorem cut_front {k y t v : Int} (hf : fOk k y t v = true) (m : Nat) (hm : 1 ≤ m) (hmN : m ≤ (putL k y t v).length) :
    ∃ B : Nat, (put0 ((putL k y t v).take m)).length = (putL k y t v).length ∧ B + 4 = (putL k y t v).length ∧ (∀ i, i < m → i < B → el (put0 ((putL k y t v).take m)) i = el (putL k y t v) i) ∧
      (B ≤ m → f0K ((putL k y t v).take m) = k ∧ f0Y ((putL k y t v).take m) = y ∧ f0T ((putL k y t v).take m) = t ∧ f0V ((putL k y t v).take m) = v) := by
  have hB := putL_isB k y t v
  rcases fOk_bd hf with ⟨rfl, h⟩ | ⟨rfl, rfl, h3, h4, rfl⟩ | ⟨rfl, rfl, rfl, rfl⟩
  · have hx := put1_els hf
    have hlen : (putL 1 y t v).length = 14 := by rw [hx]; simp [wide_len]
    generalize putL 1 y t v = xs at hB hx hlen hmN ⊢
    have e : ∀ i, i < 10 → el xs i = el [9, 1, y / 256 % 256, y % 256, t / 65536 % 256, t / 256 % 256, t % 256, (v + 1000000) / 65536 % 256, (v + 1000000) / 256 % 256, (v + 1000000) % 256] i := fun i hi => by rw [hx, el_app _ _ _ (by simpa using hi)]
    have a0 : el xs 0 = 9 := e 0 (by omega)
    have a1 : el xs 1 = 1 := e 1 (by omega)
    have a2 : el xs 2 = y / 256 % 256 := e 2 (by omega)
    have a3 : el xs 3 = y % 256 := e 3 (by omega)
    have a4 : el xs 4 = t / 65536 % 256 := e 4 (by omega)
    have a5 : el xs 5 = t / 256 % 256 := e 5 (by omega)
    have a6 : el xs 6 = t % 256 := e 6 (by omega)
    have a7 : el xs 7 = (v + 1000000) / 65536 % 256 := e 7 (by omega)
    have a8 : el xs 8 = (v + 1000000) / 256 % 256 := e 8 (by omega)
    have a9 : el xs 9 = (v + 1000000) % 256 := e 9 (by omega)
    have c := cut_bd xs hB m
    have c0 := c 0
    have c2 := c 2
    have c3 := c 3
    have c4 := c 4
    have c5 := c 5
    have c6 := c 6
    have c7 := c 7
    have c8 := c 8
    have c9 := c 9
    have z0 : el (xs.take m) 0 = 9 := by rw [c0.2.2.2 (by omega)]; exact a0
    obtain ⟨k1, k2, k3, k4⟩ := f_event z0
    have hput : put0 (xs.take m) = putL 1 (f0Y (xs.take m)) (f0T (xs.take m)) (f0V (xs.take m)) := by unfold put0; rw [k1]
    rw [hput, k2, k3, k4]
    rw [a2] at c2
    rw [a3] at c3
    rw [a4] at c4
    rw [a5] at c5
    rw [a6] at c6
    rw [a7] at c7
    rw [a8] at c8
    rw [a9] at c9
    generalize el (xs.take m) 2 = b2 at c2 ⊢
    generalize el (xs.take m) 3 = b3 at c3 ⊢
    generalize el (xs.take m) 4 = b4 at c4 ⊢
    generalize el (xs.take m) 5 = b5 at c5 ⊢
    generalize el (xs.take m) 6 = b6 at c6 ⊢
    generalize el (xs.take m) 7 = b7 at c7 ⊢
    generalize el (xs.take m) 8 = b8 at c8 ⊢
    generalize el (xs.take m) 9 = b9 at c9 ⊢
    have hf2 : fOk 1 (b2 * 256 + b3) ((b4 * 256 + b5) * 256 + b6) ((b7 * 256 + b8) * 256 + b9 - 1000000) = true := by
      rw [fOk_event]
      simp only [inB, Bool.and_eq_true, decide_eq_true_eq]
      omega
    have hx2 := put1_els hf2
    refine ⟨10, by rw [hx2, hlen]; simp [wide_len], by omega, fun i hi hi2 => ?_, fun h10 => ⟨k1, by omega, by omega, by omega⟩⟩
    rw [hx2, el_app _ _ _ (by simpa using hi2), e i hi2]
    have hi3 : i = 0 ∨ i = 1 ∨ i = 2 ∨ i = 3 ∨ i = 4 ∨ i = 5 ∨ i = 6 ∨ i = 7 ∨ i = 8 ∨ i = 9 := by omega
    rcases hi3 with rfl | rfl | rfl | rfl | rfl | rfl | rfl | rfl | rfl | rfl
    · rfl
    · rfl
    · have := c2.2.2.2 hi; simp [el]; omega
    · have := c3.2.2.2 hi; simp [el]; omega
    · have := c4.2.2.2 hi; simp [el]; omega
    · have := c5.2.2.2 hi; simp [el]; omega
    · have := c6.2.2.2 hi; simp [el]; omega
    · have := c7.2.2.2 hi; simp [el]; omega
    · have := c8.2.2.2 hi; simp [el]; omega
    · have := c9.2.2.2 hi; simp [el]; omega
  · have hx := put2_els hf
    have hlen : (putL 2 0 t 0).length = 9 := by rw [hx]; simp [wide_len]
    generalize putL 2 0 t 0 = xs at hB hx hlen hmN ⊢
    have e : ∀ i, i < 5 → el xs i = el [4, 2, t / 65536 % 256, t / 256 % 256, t % 256] i := fun i hi => by rw [hx, el_app _ _ _ (by simpa using hi)]
    have a0 : el xs 0 = 4 := e 0 (by omega)
    have a2 : el xs 2 = t / 65536 % 256 := e 2 (by omega)
    have a3 : el xs 3 = t / 256 % 256 := e 3 (by omega)
    have a4 : el xs 4 = t % 256 := e 4 (by omega)
    have c := cut_bd xs hB m
    have c0 := c 0
    have c2 := c 2
    have c3 := c 3
    have c4 := c 4
    have z0 : el (xs.take m) 0 = 4 := by rw [c0.2.2.2 (by omega)]; exact a0
    obtain ⟨k1, k2, k3, k4⟩ := f_mark z0
    have hput : put0 (xs.take m) = putL 2 0 (f0T (xs.take m)) 0 := by unfold put0; rw [k1, k2, k4]
    rw [hput, k3]
    rw [a2] at c2
    rw [a3] at c3
    rw [a4] at c4
    generalize el (xs.take m) 2 = b2 at c2 ⊢
    generalize el (xs.take m) 3 = b3 at c3 ⊢
    generalize el (xs.take m) 4 = b4 at c4 ⊢
    have hf2 : fOk 2 0 ((b2 * 256 + b3) * 256 + b4) 0 = true := by
      rw [fOk_mark]
      simp only [inB, Bool.and_eq_true, decide_eq_true_eq, beq_self_eq_true, and_true, true_and]
      omega
    have hx2 := put2_els hf2
    refine ⟨5, by rw [hx2, hlen]; simp [wide_len], by omega, fun i hi hi2 => ?_, fun h10 => ⟨k1, k2, by omega, k4⟩⟩
    rw [hx2, el_app _ _ _ (by simpa using hi2), e i hi2]
    have hi3 : i = 0 ∨ i = 1 ∨ i = 2 ∨ i = 3 ∨ i = 4 := by omega
    rcases hi3 with rfl | rfl | rfl | rfl | rfl
    · rfl
    · rfl
    · have := c2.2.2.2 hi; simp [el]; omega
    · have := c3.2.2.2 hi; simp [el]; omega
    · have := c4.2.2.2 hi; simp [el]; omega
  · have hx := put3_els
    have hlen : (putL 3 0 0 0).length = 6 := by rw [hx]; simp [wide_len]
    have a0 : el (putL 3 0 0 0) 0 = 1 := by rw [hx]; rfl
    have z0 : el ((putL 3 0 0 0).take m) 0 = 1 := by rw [el_cut, if_pos (by omega)]; exact a0
    obtain ⟨k1, k2, k3, k4⟩ := f_bye z0
    have hput : put0 ((putL 3 0 0 0).take m) = putL 3 0 0 0 := by unfold put0; rw [k1, k2, k3, k4]
    exact ⟨2, by rw [hput], by omega, fun i _ _ => by rw [hput], fun _ => ⟨k1, k2, k3, k4⟩⟩
/-- The whole of a frame's bytes is read as the frame. -/
theorem whole_here {k y t v : Int} (hf : fOk k y t v = true) : tkHere (putL k y t v) = true ∧ f0K (putL k y t v) = k ∧ f0Y (putL k y t v) = y ∧ f0T (putL k y t v) = t ∧ f0V (putL k y t v) = v ∧ put0 (putL k y t v) = putL k y t v := by
  have h0 : 1 ≤ (putL k y t v).length := by rw [putL_yes hf]; simp
  obtain ⟨B, h1, h2, h3, h4⟩ := cut_front hf (putL k y t v).length h0 (Nat.le_refl _)
  rw [List.take_length] at h4
  obtain ⟨e1, e2, e3, e4⟩ := h4 (by omega)
  have hp : put0 (putL k y t v) = putL k y t v := by
    have : put0 (putL k y t v) = putL (f0K (putL k y t v)) (f0Y (putL k y t v)) (f0T (putL k y t v)) (f0V (putL k y t v)) := rfl
    rw [this, e1, e2, e3, e4]
  refine ⟨?_, e1, e2, e3, e4, hp⟩
  rw [here_iff, hp]
  exact ⟨h0, Nat.le_refl _, fun _ _ => rfl⟩
/-- Cut shorter it is asked for more. -/
theorem cut_more {k y t v : Int} (hf : fOk k y t v = true) (m : Nat) (hm : m < (putL k y t v).length) : tkHere ((putL k y t v).take m) = false ∧ tkMore ((putL k y t v).take m) = true := by
  rcases Nat.eq_zero_or_pos m with rfl | h0
  · have e : put0 [] = [] := by decide
    rw [List.take_zero]
    exact ⟨here_no e, by unfold tkMore; rw [e]; rfl⟩
  · obtain ⟨B, h1, h2, h3, h4⟩ := cut_front hf m h0 (Nat.le_of_lt hm)
    have hl : ((putL k y t v).take m).length = m := by rw [List.length_take]; omega
    refine ⟨?_, ?_⟩
    · rw [Bool.eq_false_iff]
      intro hh
      rw [here_iff] at hh
      omega
    · rw [more_iff, hl]
      refine ⟨by omega, fun i hi => ?_⟩
      rw [el_cut, if_pos hi]
      by_cases hb : i < B
      · exact (h3 i hi hb).symm
      · obtain ⟨e1, e2, e3, e4⟩ := h4 (by omega)
        have : put0 ((putL k y t v).take m) = putL k y t v := by
          unfold put0; rw [e1, e2, e3, e4]
        rw [this]
/-- Bytes in whose front the frame itself stands are its bytes, if they are as many. -/
theorem bent_other {k y t v : Int} (hf : fOk k y t v = true) {ys : List Int} (hl : ys.length = (putL k y t v).length) (hne : ys ≠ putL k y t v) (hh : tkHere ys = true) : ¬ (f0K ys = k ∧ f0Y ys = y ∧ f0T ys = t ∧ f0V ys = v) := by
  rintro ⟨rfl, rfl, rfl, rfl⟩
  rw [here_iff] at hh
  have hp : put0 ys = putL (f0K ys) (f0Y ys) (f0T ys) (f0V ys) := rfl
  apply hne
  rw [← hp] at hl ⊢
  exact ext_el hl (fun i hi => (hh.2.2 i (by omega)).symm)
end Go.Proofs.YtpigollgjpkflaaDoor

/- Plain: what is taken out of bytes that come in pieces is what is taken out of the whole. No program. -/
namespace Go.Proofs.YtpigollgjpkflaaDoor

/-- A frame in front stays the frame in front, whatever comes behind. -/
theorem here_more {xs : List Int} (h : tkHere xs = true) (ys : List Int) : tkHere (xs ++ ys) = true ∧ fr0 (xs ++ ys) = fr0 xs ∧ put0 (xs ++ ys) = put0 xs := by
  have h1 := (here_iff xs).1 h
  have hok : fOk (f0K xs) (f0Y xs) (f0T xs) (f0V xs) = true := by
    cases hc : fOk (f0K xs) (f0Y xs) (f0T xs) (f0V xs) with
    | true => rfl
    | false =>
      have : put0 xs = [] := putL_no hc
      rw [this] at h1
      simp at h1
  have key : f0K (xs ++ ys) = f0K xs ∧ f0Y (xs ++ ys) = f0Y xs ∧ f0T (xs ++ ys) = f0T xs ∧ f0V (xs ++ ys) = f0V xs := by
    have hp : put0 xs = putL (f0K xs) (f0Y xs) (f0T xs) (f0V xs) := rfl
    have ha : ∀ i, i < xs.length → el (xs ++ ys) i = el xs i := fun i hi => el_app _ _ _ hi
    by_cases h9 : el xs 0 = 9
    · obtain ⟨k1, k2, k3, k4⟩ := f_event h9
      rw [k1] at hok hp
      have hl : (put0 xs).length = 14 := by rw [hp, put1_els hok]; simp [wide_len]
      have h9' : el (xs ++ ys) 0 = 9 := by rw [ha 0 (by omega)]; exact h9
      obtain ⟨j1, j2, j3, j4⟩ := f_event h9'
      rw [j1, j2, j3, j4, k1, k2, k3, k4, ha 2 (by omega), ha 3 (by omega), ha 4 (by omega), ha 5 (by omega), ha 6 (by omega), ha 7 (by omega), ha 8 (by omega), ha 9 (by omega)]
      exact ⟨rfl, rfl, rfl, rfl⟩
    · by_cases h4 : el xs 0 = 4
      · obtain ⟨k1, k2, k3, k4⟩ := f_mark h4
        rw [k1, k2, k4] at hok hp
        have hl : (put0 xs).length = 9 := by rw [hp, put2_els hok]; simp [wide_len]
        have h4' : el (xs ++ ys) 0 = 4 := by rw [ha 0 (by omega)]; exact h4
        obtain ⟨j1, j2, j3, j4⟩ := f_mark h4'
        rw [j1, j2, j3, j4, k1, k2, k3, k4, ha 2 (by omega), ha 3 (by omega), ha 4 (by omega)]
        exact ⟨rfl, rfl, rfl, rfl⟩
      · by_cases h1' : el xs 0 = 1
        · obtain ⟨k1, k2, k3, k4⟩ := f_bye h1'
          have h1'' : el (xs ++ ys) 0 = 1 := by rw [ha 0 (by omega)]; exact h1'
          obtain ⟨j1, j2, j3, j4⟩ := f_bye h1''
          rw [j1, j2, j3, j4, k1, k2, k3, k4]
          exact ⟨rfl, rfl, rfl, rfl⟩
        · exfalso
          have : f0K xs = 0 := by simp [f0K, num1_el, h9, h4, h1']
          rw [this] at hok
          simp [fOk] at hok
  obtain ⟨e1, e2, e3, e4⟩ := key
  have hput : put0 (xs ++ ys) = put0 xs := by unfold put0; rw [e1, e2, e3, e4]
  refine ⟨?_, by unfold fr0; rw [e1, e2, e3, e4], hput⟩
  rw [here_iff, hput]
  refine ⟨h1.1, by simp; omega, fun i hi => ?_⟩
  rw [el_app _ _ _ (by omega)]
  exact h1.2.2 i hi
/-- What is bent stays bent, whatever comes behind. -/
theorem bent_more {xs : List Int} (h : tkHere xs = false) (hm : tkMore xs = false) (ys : List Int) : tkHere (xs ++ ys) = false ∧ tkMore (xs ++ ys) = false := by
  have hne : xs ≠ [] := by
    rintro rfl
    have : tkMore [] = true := by unfold tkMore; rfl
    rw [this] at hm; cases hm
  have key : (0 < (put0 (xs ++ ys)).length ∧ ∀ i, i < (xs ++ ys).length → i < (put0 (xs ++ ys)).length → el (put0 (xs ++ ys)) i = el (xs ++ ys) i) → False := by
    rintro ⟨h0, hag⟩
    have hok : fOk (f0K (xs ++ ys)) (f0Y (xs ++ ys)) (f0T (xs ++ ys)) (f0V (xs ++ ys)) = true := by
      cases hc : fOk (f0K (xs ++ ys)) (f0Y (xs ++ ys)) (f0T (xs ++ ys)) (f0V (xs ++ ys)) with
      | true => rfl
      | false =>
        have : put0 (xs ++ ys) = [] := putL_no hc
        rw [this] at h0; simp at h0
    have hQ : put0 (xs ++ ys) = putL (f0K (xs ++ ys)) (f0Y (xs ++ ys)) (f0T (xs ++ ys)) (f0V (xs ++ ys)) := rfl
    rw [hQ] at h0 hag
    generalize f0K (xs ++ ys) = k at *
    generalize f0Y (xs ++ ys) = y at *
    generalize f0T (xs ++ ys) = t at *
    generalize f0V (xs ++ ys) = v at *
    have hw := whole_here hok
    by_cases hl : xs.length < (putL k y t v).length
    · have e : xs = (putL k y t v).take xs.length := by
        refine ext_el (by rw [List.length_take]; omega) (fun i hi => ?_)
        rw [el_cut, if_pos hi, hag i (by simp; omega) (by omega), el_app _ _ _ hi]
      have := (cut_more hok xs.length hl).2
      rw [← e] at this
      rw [this] at hm; cases hm
    · have e : xs = putL k y t v ++ xs.drop (putL k y t v).length := by
        have e2 : xs.take (putL k y t v).length = putL k y t v := by
          refine ext_el (by rw [List.length_take]; omega) (fun i hi => ?_)
          have hi2 : i < (putL k y t v).length := by rw [List.length_take] at hi; omega
          rw [el_cut, if_pos hi2, hag i (by simp; omega) hi2, el_app _ _ _ (by omega)]
        conv => lhs; rw [← List.take_append_drop (putL k y t v).length xs, e2]
      have := (here_more hw.1 (xs.drop (putL k y t v).length)).1
      rw [← e] at this
      rw [this] at h; cases h
  refine ⟨Bool.eq_false_iff.2 fun hh => ?_, Bool.eq_false_iff.2 fun hh => ?_⟩
  · rw [here_iff] at hh
    exact key ⟨hh.1, fun i _ hi => hh.2.2 i hi⟩
  · rw [more_iff] at hh
    have hl : 0 < (xs ++ ys).length := by
      cases xs with
      | nil => exact absurd rfl hne
      | cons => simp
    exact key ⟨by omega, fun i hi _ => (hh.2 i hi).symm⟩

/-- What is left when no frame stands in front. -/
def afR : Nat → List Int → List Int
  | 0, xs => xs
  | m + 1, xs => if tkHere xs = true then afR m (xs.drop (put0 xs).length) else xs
theorem afGo_fuel : ∀ (m n : Nat) (xs : List Int), xs.length < m → xs.length < n → afGo m xs = afGo n xs ∧ afR m xs = afR n xs
  | 0, _, _, h, _ => by omega
  | _ + 1, 0, _, _, h => by omega
  | m + 1, n + 1, xs, h, k => by
    cases hh : tkHere xs with
    | true =>
      have hp := here_len hh
      have ih := afGo_fuel m n (xs.drop (put0 xs).length) (by rw [List.length_drop]; omega) (by rw [List.length_drop]; omega)
      rw [af_here hh, af_here hh, ih.1]
      simp [afR, hh, ih.2]
    | false => rw [af_stop hh, af_stop hh]; simp [afR, hh]
def AF (xs : List Int) : List Fr × Nat × Bool := afGo (xs.length + 1) xs
def AR (xs : List Int) : List Int := afR (xs.length + 1) xs
theorem AF_here {xs : List Int} (h : tkHere xs = true) : AF xs = (fr0 xs :: (AF (xs.drop (put0 xs).length)).1, (AF (xs.drop (put0 xs).length)).2) ∧ AR xs = AR (xs.drop (put0 xs).length) := by
  have hp := here_len h
  have ih := afGo_fuel xs.length ((xs.drop (put0 xs).length).length + 1) (xs.drop (put0 xs).length) (by rw [List.length_drop]; omega) (by omega)
  unfold AF AR
  rw [af_here h, ih.1]
  refine ⟨rfl, ?_⟩
  rw [← ih.2]
  simp [afR, h]
theorem AF_stop {xs : List Int} (h : tkHere xs = false) : AF xs = ([], xs.length, !tkMore xs) ∧ AR xs = xs := by
  unfold AF AR
  exact ⟨af_stop h, by simp [afR, h]⟩
/-- Where no frame stands in front any more. -/
theorem AR_stop : ∀ (n : Nat) (xs : List Int), xs.length < n → tkHere (AR xs) = false ∧ (AF xs).2.2 = !tkMore (AR xs) ∧ (AR xs).length ≤ xs.length
  | 0, _, h => by omega
  | n + 1, xs, h => by
    cases hh : tkHere xs with
    | true =>
      have hp := here_len hh
      have ih := AR_stop n (xs.drop (put0 xs).length) (by rw [List.length_drop]; omega)
      rw [(AF_here hh).1, (AF_here hh).2]
      refine ⟨ih.1, ih.2.1, ?_⟩
      have := ih.2.2
      rw [List.length_drop] at this
      omega
    | false => rw [(AF_stop hh).1, (AF_stop hh).2]; exact ⟨hh, rfl, Nat.le_refl _⟩
/-- A piece, then more behind it. -/
theorem AF_append : ∀ (n : Nat) (p : List Int), p.length < n → ∀ q : List Int,
    ((AF p).2.2 = true → (AF (p ++ q)).1 = (AF p).1 ∧ (AF (p ++ q)).2.2 = true) ∧
    ((AF p).2.2 = false → (AF (p ++ q)).1 = (AF p).1 ++ (AF (AR p ++ q)).1 ∧ (AF (p ++ q)).2.2 = (AF (AR p ++ q)).2.2 ∧ AR (p ++ q) = AR (AR p ++ q))
  | 0, _, h, _ => by omega
  | n + 1, p, h, q => by
    cases hh : tkHere p with
    | true =>
      have hp := here_len hh
      have hm := here_more hh q
      have ih := AF_append n (p.drop (put0 p).length) (by rw [List.length_drop]; omega) q
      have hd : (p ++ q).drop (put0 p).length = p.drop (put0 p).length ++ q := by rw [List.drop_append_of_le_length hp.2]
      have h1 := AF_here hm.1
      rw [hm.2.1, hm.2.2, hd] at h1
      have h2 := AF_here hh
      rw [h1.1, h1.2, h2.1, h2.2]
      refine ⟨fun hb => ?_, fun hb => ?_⟩
      · have := ih.1 hb
        exact ⟨by simp only; rw [this.1], this.2⟩
      · have := ih.2 hb
        exact ⟨by simp only; rw [this.1]; rfl, this.2.1, this.2.2⟩
    | false =>
      have h2 := AF_stop hh
      rw [h2.1, h2.2]
      refine ⟨fun hb => ?_, fun hb => ⟨by simp, rfl, rfl⟩⟩
      have hm : tkMore p = false := by simpa using hb
      have hbm := bent_more hh hm q
      rw [(AF_stop hbm.1).1, hbm.2]
      exact ⟨rfl, rfl⟩
end Go.Proofs.YtpigollgjpkflaaDoor

/- Plain: a decoder that is fed with the pieces of bytes, round for round. No program. -/
namespace Go.Proofs.YtpigollgjpkflaaDoor

theorem AF_nil : AF [] = ([], 0, false) ∧ AR [] = [] := by
  have hh : tkHere [] = false := by
    cases h : tkHere [] with
    | false => rfl
    | true =>
      have h1 := here_len h
      have e : ([] : List Int).length = 0 := rfl
      omega
  have hm : tkMore [] = true := by unfold tkMore; rfl
  have h := AF_stop hh
  rw [hm] at h
  exact h
theorem AF_le (xs : List Int) : (AF xs).1.length ≤ xs.length := (afGo_le (xs.length + 1) xs).1
theorem af_AF {xs : List Int} (h : xs.length ≤ 400) : (af xs).list = (AF xs).1 ∧ (af xs).bad = (AF xs).2.2 := by
  rw [af_ok h]
  exact ⟨rfl, rfl⟩
/-- Between two pieces. -/
structure Out (b : List Int) (fr : Nat) (acc : List Fr) (ys : List Int) (bad : Bool) : Prop where
  acc_ : acc = (AF (b.take fr)).1
  bad_ : bad = (AF (b.take fr)).2.2
  good : bad = false → ys = AR (b.take fr)
  gone : bad = true → ys = []
/-- While a piece is taken out. -/
structure Inn (b : List Int) (c : Nat) (acc : List Fr) (ys : List Int) (bad : Bool) : Prop where
  le : ys.length ≤ 400
  good : bad = false → acc ++ (AF ys).1 = (AF (b.take c)).1 ∧ (AF ys).2.2 = (AF (b.take c)).2.2 ∧ ((AF ys).2.2 = false → AR ys = AR (b.take c))
  gone : bad = true → ys = [] ∧ acc = (AF (b.take c)).1 ∧ (AF (b.take c)).2.2 = true
section
variable {b : List Int} {fr c : Nat} {acc : List Fr} {ys : List Int}
theorem Out.start (b : List Int) : Out b 0 [] [] false := by
  have h := AF_nil
  refine ⟨by rw [List.take_zero, h.1], by rw [List.take_zero, h.1], fun _ => by rw [List.take_zero, h.2], fun _ => rfl⟩
theorem Out.le {bad : Bool} (h : Out b fr acc ys bad) (hb : b.length ≤ 400) : ys.length ≤ 400 ∧ acc.length ≤ 400 := by
  have h1 := (AR_stop ((b.take fr).length + 1) (b.take fr) (by omega)).2.2
  have h2 := AF_le (b.take fr)
  have h3 : (b.take fr).length ≤ b.length := by rw [List.length_take]; omega
  refine ⟨?_, by rw [h.acc_]; omega⟩
  cases bad with
  | false => rw [h.good rfl]; omega
  | true => rw [h.gone rfl]; simp
theorem take_two (hc : fr ≤ c) (b : List Int) : b.take fr ++ (b.take c).drop fr = b.take c := by
  have h := List.take_append_drop fr (b.take c)
  rwa [List.take_take, Nat.min_eq_left hc] at h
theorem Out.feed (h : Out b fr acc ys false) (hc : fr ≤ c) (hb : c ≤ b.length) (hl : b.length ≤ 400) : ys.length + ((b.take c).drop fr).length ≤ 400 ∧ Inn b c acc (ys ++ (b.take c).drop fr) false := by
  have h0 := (AR_stop ((b.take fr).length + 1) (b.take fr) (by omega)).2.2
  rw [List.length_take] at h0
  have hy : ys.length + ((b.take c).drop fr).length ≤ 400 := by
    rw [h.good rfl, List.length_drop, List.length_take]
    omega
  have ha := (AF_append ((b.take fr).length + 1) (b.take fr) (by omega) ((b.take c).drop fr)).2 h.bad_.symm
  rw [take_two hc] at ha
  refine ⟨hy, by rw [List.length_append]; exact hy, fun _ => ?_, (fun e => nomatch e)⟩
  rw [h.acc_, h.good rfl, ha.1, ha.2.1, ha.2.2]
  exact ⟨rfl, rfl, fun _ => rfl⟩
theorem Out.stay (h : Out b fr acc ys true) (hc : fr ≤ c) : ys = [] ∧ Inn b c acc [] true := by
  have ha := (AF_append ((b.take fr).length + 1) (b.take fr) (by omega) ((b.take c).drop fr)).1 h.bad_.symm
  rw [take_two hc] at ha
  exact ⟨h.gone rfl, by simp, (fun e => nomatch e), fun _ => ⟨rfl, by rw [h.acc_, ha.1], ha.2⟩⟩
theorem Inn.len {bad : Bool} (h : Inn b c acc ys bad) (hl : b.length ≤ 400) : acc.length ≤ 400 := by
  have h2 := AF_le (b.take c)
  have h3 : (b.take c).length ≤ b.length := by rw [List.length_take]; omega
  cases bad with
  | false =>
    have := congrArg List.length (h.good rfl).1
    rw [List.length_append] at this
    omega
  | true => rw [(h.gone rfl).2.1]; omega
theorem Inn.here (h : Inn b c acc ys false) (hh : tkHere ys = true) : Inn b c (acc ++ [fr0 ys]) (ys.drop (put0 ys).length) false := by
  have h1 := AF_here hh
  have h2 := h.good rfl
  rw [h1.1, h1.2] at h2
  refine ⟨by have := h.le; rw [List.length_drop]; omega, fun _ => ⟨?_, h2.2.1, h2.2.2⟩, (fun e => nomatch e)⟩
  rw [List.append_assoc]
  exact h2.1
theorem Inn.more (h : Inn b c acc ys false) (hh : tkHere ys = false) (hm : tkMore ys = true) : Out b c acc ys false := by
  have h1 := AF_stop hh
  have h2 := h.good rfl
  rw [h1.1, h1.2, hm] at h2
  refine ⟨by simpa using h2.1, by simpa using h2.2.1, fun _ => by simpa using h2.2.2, (fun e => nomatch e)⟩
theorem Inn.bent (h : Inn b c acc ys false) (hh : tkHere ys = false) (hm : tkMore ys = false) : Out b c acc [] true := by
  have h1 := AF_stop hh
  have h2 := h.good rfl
  rw [h1.1, h1.2, hm] at h2
  refine ⟨by simpa using h2.1, by simpa using h2.2.1, (fun e => nomatch e), fun _ => rfl⟩
theorem Inn.bad (h : Inn b c acc ys true) : ys = [] ∧ Out b c acc [] true :=
  ⟨(h.gone rfl).1, (h.gone rfl).2.1, (h.gone rfl).2.2.symm, (fun e => nomatch e), fun _ => rfl⟩
end
end Go.Proofs.YtpigollgjpkflaaDoor
