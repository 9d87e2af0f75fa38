import PyProof.Rows.All
import KE.OsGo
import KE.OsEnd
import PySem.Challenge.RW_eightbytes_s02_root
set_option Elab.async false
namespace Eb
/- What is due, call by call, as plain lists. -/
def one (b : Bool) : Int := if b then 1 else 0
theorem due_look (v : Int) : PyKs153.look v = [0, ((Ks153.signed (Ks153.of v.toNat).begins : Nat) : Int), (((Ks153.of v.toNat).length : Nat) : Int), (((Ks153.of v.toNat).address : Nat) : Int), (((Ks153.of v.toNat).kept : Nat) : Int), (((Ks153.of v.toNat).rights : Nat) : Int), ((Ks153.step (Ks153.of v.toNat).power : Nat) : Int)] := rfl
theorem due_root (k : Int) : PyKs153.root k = [1, (((Ks153.root k.toNat).1.num : Nat) : Int)] := rfl
theorem due_move (v good to : Int) : PyKs153.move v good to = [one (Ks153.move (Ks153.of v.toNat, good.toNat != 0) to.toNat).2, ((Ks153.move (Ks153.of v.toNat, good.toNat != 0) to.toNat).1.num : Int)] := rfl
theorem due_bound (v good n just : Int) : PyKs153.bound v good n just = [one (Ks153.bound (Ks153.of v.toNat, good.toNat != 0) n.toNat (just.toNat != 0)).2, ((Ks153.bound (Ks153.of v.toNat, good.toNat != 0) n.toNat (just.toNat != 0)).1.num : Int)] := rfl
theorem due_less (v good k : Int) : PyKs153.less v good k = [one (Ks153.less (Ks153.of v.toNat, good.toNat != 0) k.toNat).2, ((Ks153.less (Ks153.of v.toNat, good.toNat != 0) k.toNat).1.num : Int)] := rfl
theorem due_seal (v good y ygood : Int) : PyKs153.seal_ v good y ygood = [one (Ks153.sealBy (Ks153.of v.toNat, good.toNat != 0) (Ks153.of y.toNat, ygood.toNat != 0)).2, ((Ks153.sealBy (Ks153.of v.toNat, good.toNat != 0) (Ks153.of y.toNat, ygood.toNat != 0)).1.num : Int)] := rfl
theorem due_open (v good y ygood : Int) : PyKs153.open_seal v good y ygood = [one (Ks153.openBy (Ks153.of v.toNat, good.toNat != 0) (Ks153.of y.toNat, ygood.toNat != 0)).2, ((Ks153.openBy (Ks153.of v.toNat, good.toNat != 0) (Ks153.of y.toNat, ygood.toNat != 0)).1.num : Int)] := rfl
theorem due_in (v w : Int) : PyKs153.is_in v w = [one ((Ks153.of v.toNat).in_ (Ks153.of w.toNat))] := rfl
theorem due_may (v good a n k : Int) : PyKs153.may v good a n k = [Ks153.may (Ks153.of v.toNat, good.toNat != 0) a.toNat n.toNat k.toNat] := rfl
theorem due_room (n : Int) : PyKs153.room n = match Ks153.room n.toNat with
    | none => [-22]
    | some x => [0, (x.1 : Int), (x.2 : Int)] := by
  have key : ∀ o : Option (Nat × Nat), (match o with | none => Ks153.say (-22) | some x => ({ ret := 0, out := [x.1, x.2] } : Ks153.Ans)).ret :: Ks153Neutral.ints (match o with | none => Ks153.say (-22) | some x => ({ ret := 0, out := [x.1, x.2] } : Ks153.Ans)).out = (match o with | none => [-22] | some x => [0, (x.1 : Int), (x.2 : Int)]) := by
    intro o
    cases o <;> rfl
  exact key (Ks153.room n.toNat)
/- The fields of a reference. -/
theorem f_addr {v : Int} (h : 0 ≤ v) : (((Ks153.of v.toNat).address : Nat) : Int) = v % 4294967296 := by
  show ((v.toNat / 2 ^ 0 % 2 ^ 32 : Nat) : Int) = _
  omega
theorem f_up {v : Int} (h : 0 ≤ v) : (((Ks153.of v.toNat).upper : Nat) : Int) = v / 4294967296 % 256 := by
  show ((v.toNat / 2 ^ 32 % 2 ^ 8 : Nat) : Int) = _
  omega
theorem f_lo {v : Int} (h : 0 ≤ v) : (((Ks153.of v.toNat).lower : Nat) : Int) = v / 1099511627776 % 256 := by
  show ((v.toNat / 2 ^ 40 % 2 ^ 8 : Nat) : Int) = _
  omega
theorem f_pw {v : Int} (h : 0 ≤ v) : (((Ks153.of v.toNat).power : Nat) : Int) = v / 281474976710656 % 16 := by
  show ((v.toNat / 2 ^ 48 % 2 ^ 4 : Nat) : Int) = _
  omega
theorem f_sl {v : Int} (h : 0 ≤ v) : (((Ks153.of v.toNat).kept : Nat) : Int) = v / 4503599627370496 % 8 := by
  show ((v.toNat / 2 ^ 52 % 2 ^ 3 : Nat) : Int) = _
  omega
theorem f_rt {v : Int} (h : 0 ≤ v) : (((Ks153.of v.toNat).rights : Nat) : Int) = v / 36028797018963968 % 512 := by
  show ((v.toNat / 2 ^ 55 % 2 ^ 9 : Nat) : Int) = _
  omega
/- The grain's power; where a reference begins; its length. -/
def gp (p : Int) : Int := if p = 15 then 24 else p
theorem gp_lo {p : Int} (h : 0 ≤ p) : 0 ≤ gp p := by unfold gp; split <;> omega
theorem gp_hi {p : Int} (h : p ≤ 15) : gp p ≤ 24 := by unfold gp; split <;> omega
theorem gp_step {p : Nat} : ((Ks153.step p : Nat) : Int) = gp (p : Int) := by
  unfold Ks153.step gp
  split <;> split <;> omega
theorem gp_grain (p : Nat) : ((Ks153.grainOf p : Nat) : Int) = 2 ^ (gp (p : Int)).toNat := by
  unfold Ks153.grainOf
  rw [← gp_step, Int.natCast_pow]
  rfl
/-- a beginning by floor division -/
theorem beg_math (a l g : Int) : (a - l * g) / (256 * g) * (256 * g) + l * g = a - (a + 256 * g - g * l) % (256 * g) := by
  have e1 : a + 256 * g - g * l = (a - l * g) + (256 * g) * 1 := by rw [Int.mul_comm g l]; omega
  rw [e1, Int.add_mul_emod_self_left]
  have e2 := Int.mul_ediv_add_emod (a - l * g) (256 * g)
  rw [Int.mul_comm] at e2
  omega
def beg (v : Int) : Int := (Ks153.of v.toNat).begins
def len (v : Int) : Int := (((Ks153.of v.toNat).length : Nat) : Int)
theorem beg_eq {v : Int} (h : 0 ≤ v) : beg v = v % 4294967296 - (v % 4294967296 + 256 * 2 ^ (gp (v / 281474976710656 % 16)).toNat - 2 ^ (gp (v / 281474976710656 % 16)).toNat * (v / 1099511627776 % 256)) % (256 * 2 ^ (gp (v / 281474976710656 % 16)).toNat) := by
  unfold beg Ks153.Ref.begins Ks153.Ref.grain
  have hl : (Ks153.of v.toNat).lower < 256 := Nat.mod_lt _ (by decide)
  have hle : Ks153.grainOf (Ks153.of v.toNat).power * (Ks153.of v.toNat).lower ≤ (Ks153.of v.toNat).address + 256 * Ks153.grainOf (Ks153.of v.toNat).power := by
    have := Nat.mul_le_mul_left (Ks153.grainOf (Ks153.of v.toNat).power) (Nat.le_of_lt hl)
    omega
  rw [Int.natCast_emod, Int.ofNat_sub hle, Int.natCast_add, Int.natCast_mul, Int.natCast_mul, gp_grain, f_pw h, f_addr h, f_lo h]
  rfl
theorem beg_val {v : Int} (h : 0 ≤ v) : (v % 4294967296 - v / 1099511627776 % 256 * 2 ^ (gp (v / 281474976710656 % 16)).toNat) / (256 * 2 ^ (gp (v / 281474976710656 % 16)).toNat) * (256 * 2 ^ (gp (v / 281474976710656 % 16)).toNat) + v / 1099511627776 % 256 * 2 ^ (gp (v / 281474976710656 % 16)).toNat = beg v := by
  rw [beg_eq h]
  exact beg_math _ _ _
theorem len_eq {v : Int} (h : 0 ≤ v) : len v = (v / 4294967296 % 256 - v / 1099511627776 % 256) % 256 * 2 ^ (gp (v / 281474976710656 % 16)).toNat := by
  unfold len Ks153.Ref.length Ks153.Ref.grain
  rw [Int.natCast_mul, gp_grain, f_pw h]
  have hl := f_lo h
  have hu := f_up h
  have hb : (Ks153.of v.toNat).lower < 256 := Nat.mod_lt _ (by decide)
  have e : ((((Ks153.of v.toNat).upper + 256 - (Ks153.of v.toNat).lower) % 256 : Nat) : Int) = (v / 4294967296 % 256 - v / 1099511627776 % 256) % 256 := by omega
  rw [e]
theorem signed_eq (x : Int) : ((Ks153.signed x : Nat) : Int) = x % 18446744073709551616 := by
  unfold Ks153.signed
  have e : (2 : Int) ^ 64 = 18446744073709551616 := by decide
  rw [e]
  omega
theorem root_val {k x : Int} (h : 0 ≤ k) (hx : x = 255 * 4294967296 + 15 * 281474976710656 + k % 512 * 36028797018963968) : [1, x] = PyKs153.root k := by
  rw [due_root, hx]
  have e : (((Ks153.root k.toNat).1.num : Nat) : Int) = 255 * 4294967296 + 15 * 281474976710656 + k % 512 * 36028797018963968 := by
    show ((0 + 2 ^ 32 * 255 + 2 ^ 40 * 0 + 2 ^ 48 * 15 + 2 ^ 52 * 0 + 2 ^ 55 * (k.toNat % 512) : Nat) : Int) = _
    omega
  rw [e]
theorem look_val {v : Int} (h : 0 ≤ v) : [0, beg v % 18446744073709551616, len v, v % 4294967296, v / 4503599627370496 % 8, v / 36028797018963968 % 512, gp (v / 281474976710656 % 16)] = PyKs153.look v := by
  rw [due_look, f_addr h, f_sl h, f_rt h, gp_step, f_pw h, signed_eq]
  rfl
end Eb
namespace Eb
open PySem PySem.W PySem.Calls PyProof.Rows
/- Steps of the walk over whole numbers: masks, shifts, quotients as plain arithmetic. -/
section
variable {prog : Program} {w : World} {A : Around} {E : Value → Shared → Prop} {s : Shared} {x y : Int} {t u : Tok} {Q : Value → Shared → Prop}
theorem step_mask (k : Nat) (M N : Int) (hM : M = 2 ^ k - 1) (hN : N = 2 ^ k) (h : Q (.int (x % N) s.toks) { s with toks := s.toks + 1 }) :
    wpAny (model prog w) A (binaryOp .BitAnd (.int x t) (.int M u)) Q E s := by
  refine PyProof.Rows.and_int ?_
  rw [hM, kbt_mask x k, ← hN]
  exact h
theorem step_shr (k : Nat) (M N : Int) (hM : M = (k : Int)) (hN : N = 2 ^ k) (h : Q (.int (x / N) s.toks) { s with toks := s.toks + 1 }) :
    wpAny (model prog w) A (binaryOp .RShift (.int x t) (.int M u)) Q E s := by
  refine PyProof.Rows.rshift_int (by omega) ?_
  have e : M.toNat = k := by omega
  have p : (0 : Int) ≤ 2 ^ k := Int.le_of_lt (kbt_pos k)
  rw [e, Int.fdiv_eq_ediv_of_nonneg x p, ← hN]
  exact h
theorem step_shl (k : Nat) (M N : Int) (hM : M = (k : Int)) (hk : k ≤ 100) (hN : N = 2 ^ k) (h0 : 0 ≤ x) (h1 : x < 18446744073709551616) (h : Q (.int (x * N) s.toks) { s with toks := s.toks + 1 }) :
    wpAny (model prog w) A (binaryOp .LShift (.int x t) (.int M u)) Q E s := by
  refine PyProof.Rows.lshift_int_small (by omega) (by omega) (by omega) ?_
  have e : M.toNat = k := by omega
  rw [e, ← hN]
  exact h
theorem pow_lo (n : Nat) : (1 : Int) ≤ 2 ^ n := kbt_pos n
theorem pow_hi {n m : Nat} (h : n ≤ m) : (2 : Int) ^ n ≤ 2 ^ m := by
  rw [← kbt_cast, ← kbt_cast]
  exact Int.ofNat_le.mpr (Nat.pow_le_pow_right (by decide) h)
theorem step_pow (h0 : 0 ≤ y) (h1 : y ≤ 24) (h : (1 : Int) ≤ 2 ^ y.toNat → (2 : Int) ^ y.toNat ≤ 16777216 → Q (.int (2 ^ y.toNat) s.toks) { s with toks := s.toks + 1 }) :
    wpAny (model prog w) A (binaryOp .LShift (.int 1 t) (.int y u)) Q E s := by
  refine PyProof.Rows.lshift_int_small (by omega) (by omega) (by decide) ?_
  rw [Int.one_mul]
  exact h (pow_lo _) (pow_hi (m := 24) (by omega))
theorem step_div (hy : 0 < y) (hs : y < 18446744073709551616) (h : Q (.int (x / y) s.toks) { s with toks := s.toks + 1 }) :
    wpAny (model prog w) A (binaryOp .FloorDiv (.int x t) (.int y u)) Q E s := by
  refine PyProof.Rows.floordiv_int (by omega) ?_ (Or.inl (PyProof.noPylong_of_log2 ?_))
  · rw [Int.fdiv_eq_ediv_of_nonneg x (by omega)]
    exact h
  · have h0 : y.natAbs ≠ 0 := by omega
    have h64 : y.natAbs.log2 < 64 := (Nat.log2_lt h0).mpr (by omega)
    omega
theorem step_mod (hy : 0 < y) (h : 0 ≤ x % y → x % y < y → Q (.int (x % y) s.toks) { s with toks := s.toks + 1 }) :
    wpAny (model prog w) A (binaryOp .Mod (.int x t) (.int y u)) Q E s := by
  refine PyProof.Rows.mod_int (by omega) ?_
  rw [Int.fmod_eq_emod_of_nonneg x (by omega)]
  exact h (Int.emod_nonneg _ (by omega)) (Int.emod_lt_of_pos _ hy)
theorem step_mulR (lo : -18446744073709551616 < y) (hi : y < 18446744073709551616) (h : Q (.int (x * y) s.toks) { s with toks := s.toks + 1 }) :
    wpAny (model prog w) A (binaryOp .Mult (.int x t) (.int y u)) Q E s :=
  PyProof.Rows.mul_int h (PySem.IntMulOk.of_right (PySem.intBits_le_64 (by omega) (by omega)))
theorem step_mulL (lo : -18446744073709551616 < x) (hi : x < 18446744073709551616) (h : Q (.int (x * y) s.toks) { s with toks := s.toks + 1 }) :
    wpAny (model prog w) A (binaryOp .Mult (.int x t) (.int y u)) Q E s :=
  PyProof.Rows.mul_int h (PySem.IntMulOk.of_left (PySem.intBits_le_64 (by omega) (by omega)))
end
/- Bits. -/
theorem or_pp {x y : Int} (hx : 0 ≤ x) (hy : 0 ≤ y) : Builtin.bitOr x y = ((x.toNat ||| y.toNat : Nat) : Int) := by
  rw [PyProof.Rows.bitOr_and, PyProof.Rows.bitAnd_pp hx hy]
  have e := PyProof.Rows.nat_or_add_and x.toNat y.toNat
  omega
theorem nat_or_high (k a b : Nat) (h : b < 2 ^ k) : a * 2 ^ k ||| b = a * 2 ^ k + b := by
  rw [Nat.mul_comm, Nat.two_pow_add_eq_or_of_lt h]
theorem or_high (k : Nat) (a b N : Int) (hN : N = 2 ^ k) (ha : 0 ≤ a) (hb : 0 ≤ b) (h : b < N) : Builtin.bitOr (a * N) b = a * N + b := by
  have p : (0 : Int) < N := by rw [hN]; exact kbt_pos k
  have q : 0 ≤ a * N := Int.mul_nonneg ha (Int.le_of_lt p)
  have c : ((2 ^ k : Nat) : Int) = N := by rw [hN, kbt_cast]
  have e1 : (a * N).toNat = a.toNat * 2 ^ k := by
    have : ((a.toNat * 2 ^ k : Nat) : Int) = a * N := by
      rw [Int.natCast_mul, c, Int.toNat_of_nonneg ha]
    omega
  rw [or_pp q hb, e1, nat_or_high k _ _ (by omega), ← e1]
  omega
theorem or_low (k : Nat) (a b N : Int) (hN : N = 2 ^ k) (ha : 0 ≤ a) (hb : 0 ≤ b) (h : b < N) : Builtin.bitOr b (a * N) = b + a * N := by
  rw [PyProof.Rows.bitOr_comm, or_high k a b N hN ha hb h]
  omega
/- The request. -/
theorem dec_cons {c : Codec} {cs : List Codec} {d : WData} {ds : List WData} (h : (Codec.decAll (c :: cs) (d :: ds)).isSome = true) :
    (Codec.decAll [c] [d]).isSome = true ∧ (Codec.decAll cs ds).isSome = true := by
  have e : Codec.decAll (c :: cs) (d :: ds) = Codec.both Prod.mk (c.dec d) (Codec.decAll cs ds) := rfl
  have e1 : Codec.decAll [c] [d] = Codec.both Prod.mk (c.dec d) (some ()) := rfl
  rw [e] at h
  rw [e1]
  cases h1 : c.dec d with
  | none =>
    rw [h1] at h
    cases h
  | some a =>
    cases h2 : Codec.decAll cs ds with
    | none =>
      rw [h1, h2] at h
      cases h
    | some r => exact ⟨rfl, rfl⟩
theorem dec_join {c : Codec} {cs : List Codec} {d : WData} {ds : List WData} {a : c.denote} {r : Codec.denoteAll cs} (h1 : Codec.decAll [c] [d] = some (a, ())) (h2 : Codec.decAll cs ds = some r) :
    Codec.decAll (c :: cs) (d :: ds) = some (a, r) := by
  have e : Codec.decAll (c :: cs) (d :: ds) = Codec.both Prod.mk (c.dec d) (Codec.decAll cs ds) := rfl
  have e1 : Codec.decAll [c] [d] = Codec.both Prod.mk (c.dec d) (some ()) := rfl
  rw [e1] at h1
  rw [e, h2]
  cases h3 : c.dec d with
  | none =>
    rw [h3] at h1
    cases h1
  | some b =>
    rw [h3] at h1
    cases h1
    rfl
theorem dec_int {lo hi k : Int} (h : (Codec.decAll [.int lo hi] [WData.int k]).isSome = true) : Codec.decAll [.int lo hi] [WData.int k] = some (k, ()) ∧ lo ≤ k ∧ k ≤ hi := by
  have e : Codec.decAll [.int lo hi] [WData.int k] = Codec.both Prod.mk (if Codec.inInt lo hi k = true then some k else none) (some ()) := rfl
  rw [e] at h ⊢
  cases h1 : Codec.inInt lo hi k with
  | false =>
    rw [h1] at h
    cases h
  | true =>
    unfold Codec.inInt at h1
    simp only [Bool.and_eq_true, decide_eq_true_eq] at h1
    exact ⟨rfl, h1.1, h1.2⟩
theorem same_ds {ds : List PyData} {k : List Int} (h : ds = k.map PyData.int) : same (ofPy (PyData.list ds)) (WData.list (k.map WData.int)) = true := PySem.W.same_iff.mpr (PySem.W.os_list h)
theorem same_list {l k : List Int} (h : l = k) : same (WData.list (ofPys (l.map PyData.int))) (WData.list (k.map WData.int)) = true := by
  subst h
  rw [ofPys_ints]
  exact same_self _
end Eb
open PySem PySem.W PyProof.Rows
local macro_rules | `(tactic| walk_at "binaryOp BitAnd int int") => `(tactic| (k_here; (with_reducible show wpAny _ _ (binaryOp Operator.BitAnd (Value.int _ _) (Value.int 4294967295 _)) _ _ _); k_dflt (refine Eb.step_mask 32 4294967295 4294967296 (by decide) (by decide) ?_)))
local macro_rules | `(tactic| walk_at "binaryOp BitAnd int int") => `(tactic| (k_here; (with_reducible show wpAny _ _ (binaryOp Operator.BitAnd (Value.int _ _) (Value.int 255 _)) _ _ _); k_dflt (refine Eb.step_mask 8 255 256 (by decide) (by decide) ?_)))
local macro_rules | `(tactic| walk_at "binaryOp BitAnd int int") => `(tactic| (k_here; (with_reducible show wpAny _ _ (binaryOp Operator.BitAnd (Value.int _ _) (Value.int 15 _)) _ _ _); k_dflt (refine Eb.step_mask 4 15 16 (by decide) (by decide) ?_)))
local macro_rules | `(tactic| walk_at "binaryOp BitAnd int int") => `(tactic| (k_here; (with_reducible show wpAny _ _ (binaryOp Operator.BitAnd (Value.int _ _) (Value.int 7 _)) _ _ _); k_dflt (refine Eb.step_mask 3 7 8 (by decide) (by decide) ?_)))
local macro_rules | `(tactic| walk_at "binaryOp BitAnd int int") => `(tactic| (k_here; (with_reducible show wpAny _ _ (binaryOp Operator.BitAnd (Value.int _ _) (Value.int 511 _)) _ _ _); k_dflt (refine Eb.step_mask 9 511 512 (by decide) (by decide) ?_)))
local macro_rules | `(tactic| walk_at "binaryOp RShift int int") => `(tactic| (k_here; (with_reducible show wpAny _ _ (binaryOp Operator.RShift (Value.int _ _) (Value.int 32 _)) _ _ _); k_dflt (refine Eb.step_shr 32 32 4294967296 (by decide) (by decide) ?_)))
local macro_rules | `(tactic| walk_at "binaryOp RShift int int") => `(tactic| (k_here; (with_reducible show wpAny _ _ (binaryOp Operator.RShift (Value.int _ _) (Value.int 40 _)) _ _ _); k_dflt (refine Eb.step_shr 40 40 1099511627776 (by decide) (by decide) ?_)))
local macro_rules | `(tactic| walk_at "binaryOp RShift int int") => `(tactic| (k_here; (with_reducible show wpAny _ _ (binaryOp Operator.RShift (Value.int _ _) (Value.int 48 _)) _ _ _); k_dflt (refine Eb.step_shr 48 48 281474976710656 (by decide) (by decide) ?_)))
local macro_rules | `(tactic| walk_at "binaryOp RShift int int") => `(tactic| (k_here; (with_reducible show wpAny _ _ (binaryOp Operator.RShift (Value.int _ _) (Value.int 52 _)) _ _ _); k_dflt (refine Eb.step_shr 52 52 4503599627370496 (by decide) (by decide) ?_)))
local macro_rules | `(tactic| walk_at "binaryOp RShift int int") => `(tactic| (k_here; (with_reducible show wpAny _ _ (binaryOp Operator.RShift (Value.int _ _) (Value.int 55 _)) _ _ _); k_dflt (refine Eb.step_shr 55 55 36028797018963968 (by decide) (by decide) ?_)))
local macro_rules | `(tactic| walk_at "binaryOp LShift int int") => `(tactic| (k_here; (with_reducible show wpAny _ _ (binaryOp Operator.LShift (Value.int _ _) (Value.int 32 _)) _ _ _); k_dflt (refine' Eb.step_shl 32 32 4294967296 (by decide) (by decide) (by decide) ?k1 ?k2 ?_; (case k1 => omega); (case k2 => omega))))
local macro_rules | `(tactic| walk_at "binaryOp LShift int int") => `(tactic| (k_here; (with_reducible show wpAny _ _ (binaryOp Operator.LShift (Value.int _ _) (Value.int 40 _)) _ _ _); k_dflt (refine' Eb.step_shl 40 40 1099511627776 (by decide) (by decide) (by decide) ?k1 ?k2 ?_; (case k1 => omega); (case k2 => omega))))
local macro_rules | `(tactic| walk_at "binaryOp LShift int int") => `(tactic| (k_here; (with_reducible show wpAny _ _ (binaryOp Operator.LShift (Value.int _ _) (Value.int 48 _)) _ _ _); k_dflt (refine' Eb.step_shl 48 48 281474976710656 (by decide) (by decide) (by decide) ?k1 ?k2 ?_; (case k1 => omega); (case k2 => omega))))
local macro_rules | `(tactic| walk_at "binaryOp LShift int int") => `(tactic| (k_here; (with_reducible show wpAny _ _ (binaryOp Operator.LShift (Value.int _ _) (Value.int 52 _)) _ _ _); k_dflt (refine' Eb.step_shl 52 52 4503599627370496 (by decide) (by decide) (by decide) ?k1 ?k2 ?_; (case k1 => omega); (case k2 => omega))))
local macro_rules | `(tactic| walk_at "binaryOp LShift int int") => `(tactic| (k_here; (with_reducible show wpAny _ _ (binaryOp Operator.LShift (Value.int _ _) (Value.int 55 _)) _ _ _); k_dflt (refine' Eb.step_shl 55 55 36028797018963968 (by decide) (by decide) (by decide) ?k1 ?k2 ?_; (case k1 => omega); (case k2 => omega))))
local macro_rules | `(tactic| walk_at "binaryOp LShift int int") => `(tactic| (k_here; (with_reducible show wpAny _ _ (binaryOp Operator.LShift (Value.int 1 _) (Value.int _ _)) _ _ _); k_dflt (refine' Eb.step_pow ?k1 ?k2 ?_; (case k1 => first | omega | exact Eb.gp_lo (by omega)); (case k2 => first | omega | exact Eb.gp_hi (by omega))); intro hp1 hp2))
local macro_rules | `(tactic| walk_at "binaryOp FloorDiv int int") => `(tactic| (k_here; (with_reducible refine' Eb.step_div ?k1 ?k2 ?_); (case k1 => k_dflt omega); (case k2 => k_dflt omega)))
local macro_rules | `(tactic| walk_at "binaryOp Mod int int") => `(tactic| (k_here; (with_reducible refine' Eb.step_mod ?k1 ?_); (case k1 => k_dflt omega); intro hm1 hm2))
local macro_rules | `(tactic| walk_at "binaryOp Mult int int") => `(tactic| (k_here; (with_reducible refine' Eb.step_mulL ?k1 ?k2 ?_); (case k1 => k_dflt omega); (case k2 => k_dflt omega)))
local macro_rules | `(tactic| walk_at "binaryOp Mult int int") => `(tactic| (k_here; (with_reducible refine' Eb.step_mulR ?k1 ?k2 ?_); (case k1 => k_dflt omega); (case k2 => k_dflt omega)))
set_option maxRecDepth 100000 in
set_option maxHeartbeats 8000000 in
theorem PySem.Challenge.cw_eightbytes_s02_root_holds : PySem.Challenge.rw_eightbytes_s02_root.Holds := by
  open_ks with [.int 0]
  obtain ⟨e1, lo, hi⟩ := Eb.dec_int (os_pre_isSome hpre)
  have lo' : (0 : Int) ≤ _ := lo
  refine os_post e1 ?_
  refine Eb.same_ds ?_
  refine (congrArg (List.map PyData.int) (Eb.root_val lo' ?_) : List.map PyData.int [_, _] = List.map PyData.int (PyKs153.root _))
  rw [Eb.or_low 48 15 (255 * 4294967296) 281474976710656 (by decide) (by decide) (by decide) (by decide), Eb.or_low 55 _ _ 36028797018963968 (by decide) (by omega) (by omega) (by omega)]
#print axioms PySem.Challenge.cw_eightbytes_s02_root_holds
