import PyProof.Rows.All
import KE.OsGo
import KE.OsEnd
import PySem.Challenge.RW_eightbytes_s04_bound
set_option Elab.async false
namespace Eb
/- What is due, call by call, as plain lists. -/
def one (b : Bool) : Int := if b then 1 else 0
theorem due_look (v : Int) : PyKs153.look v = [0, ((Ks153.signed (Ks153.of v.toNat).begins : Nat) : Int), (((Ks153.of v.toNat).length : Nat) : Int), (((Ks153.of v.toNat).address : Nat) : Int), (((Ks153.of v.toNat).kept : Nat) : Int), (((Ks153.of v.toNat).rights : Nat) : Int), ((Ks153.step (Ks153.of v.toNat).power : Nat) : Int)] := rfl
theorem due_root (k : Int) : PyKs153.root k = [1, (((Ks153.root k.toNat).1.num : Nat) : Int)] := rfl
theorem due_move (v good to : Int) : PyKs153.move v good to = [one (Ks153.move (Ks153.of v.toNat, good.toNat != 0) to.toNat).2, ((Ks153.move (Ks153.of v.toNat, good.toNat != 0) to.toNat).1.num : Int)] := rfl
theorem due_bound (v good n just : Int) : PyKs153.bound v good n just = [one (Ks153.bound (Ks153.of v.toNat, good.toNat != 0) n.toNat (just.toNat != 0)).2, ((Ks153.bound (Ks153.of v.toNat, good.toNat != 0) n.toNat (just.toNat != 0)).1.num : Int)] := rfl
theorem due_less (v good k : Int) : PyKs153.less v good k = [one (Ks153.less (Ks153.of v.toNat, good.toNat != 0) k.toNat).2, ((Ks153.less (Ks153.of v.toNat, good.toNat != 0) k.toNat).1.num : Int)] := rfl
theorem due_seal (v good y ygood : Int) : PyKs153.seal_ v good y ygood = [one (Ks153.sealBy (Ks153.of v.toNat, good.toNat != 0) (Ks153.of y.toNat, ygood.toNat != 0)).2, ((Ks153.sealBy (Ks153.of v.toNat, good.toNat != 0) (Ks153.of y.toNat, ygood.toNat != 0)).1.num : Int)] := rfl
theorem due_open (v good y ygood : Int) : PyKs153.open_seal v good y ygood = [one (Ks153.openBy (Ks153.of v.toNat, good.toNat != 0) (Ks153.of y.toNat, ygood.toNat != 0)).2, ((Ks153.openBy (Ks153.of v.toNat, good.toNat != 0) (Ks153.of y.toNat, ygood.toNat != 0)).1.num : Int)] := rfl
theorem due_in (v w : Int) : PyKs153.is_in v w = [one ((Ks153.of v.toNat).in_ (Ks153.of w.toNat))] := rfl
theorem due_may (v good a n k : Int) : PyKs153.may v good a n k = [Ks153.may (Ks153.of v.toNat, good.toNat != 0) a.toNat n.toNat k.toNat] := rfl
theorem due_room (n : Int) : PyKs153.room n = match Ks153.room n.toNat with
    | none => [-22]
    | some x => [0, (x.1 : Int), (x.2 : Int)] := by
  have key : ∀ o : Option (Nat × Nat), (match o with | none => Ks153.say (-22) | some x => ({ ret := 0, out := [x.1, x.2] } : Ks153.Ans)).ret :: Ks153Neutral.ints (match o with | none => Ks153.say (-22) | some x => ({ ret := 0, out := [x.1, x.2] } : Ks153.Ans)).out = (match o with | none => [-22] | some x => [0, (x.1 : Int), (x.2 : Int)]) := by
    intro o
    cases o <;> rfl
  exact key (Ks153.room n.toNat)
/- The fields of a reference. -/
theorem f_addr {v : Int} (h : 0 ≤ v) : (((Ks153.of v.toNat).address : Nat) : Int) = v % 4294967296 := by
  show ((v.toNat / 2 ^ 0 % 2 ^ 32 : Nat) : Int) = _
  omega
theorem f_up {v : Int} (h : 0 ≤ v) : (((Ks153.of v.toNat).upper : Nat) : Int) = v / 4294967296 % 256 := by
  show ((v.toNat / 2 ^ 32 % 2 ^ 8 : Nat) : Int) = _
  omega
theorem f_lo {v : Int} (h : 0 ≤ v) : (((Ks153.of v.toNat).lower : Nat) : Int) = v / 1099511627776 % 256 := by
  show ((v.toNat / 2 ^ 40 % 2 ^ 8 : Nat) : Int) = _
  omega
theorem f_pw {v : Int} (h : 0 ≤ v) : (((Ks153.of v.toNat).power : Nat) : Int) = v / 281474976710656 % 16 := by
  show ((v.toNat / 2 ^ 48 % 2 ^ 4 : Nat) : Int) = _
  omega
theorem f_sl {v : Int} (h : 0 ≤ v) : (((Ks153.of v.toNat).kept : Nat) : Int) = v / 4503599627370496 % 8 := by
  show ((v.toNat / 2 ^ 52 % 2 ^ 3 : Nat) : Int) = _
  omega
theorem f_rt {v : Int} (h : 0 ≤ v) : (((Ks153.of v.toNat).rights : Nat) : Int) = v / 36028797018963968 % 512 := by
  show ((v.toNat / 2 ^ 55 % 2 ^ 9 : Nat) : Int) = _
  omega
/- The grain's power; where a reference begins; its length. -/
def gp (p : Int) : Int := if p = 15 then 24 else p
theorem gp_lo {p : Int} (h : 0 ≤ p) : 0 ≤ gp p := by unfold gp; split <;> omega
theorem gp_hi {p : Int} (h : p ≤ 15) : gp p ≤ 24 := by unfold gp; split <;> omega
theorem gp_step {p : Nat} : ((Ks153.step p : Nat) : Int) = gp (p : Int) := by
  unfold Ks153.step gp
  split <;> split <;> omega
theorem gp_grain (p : Nat) : ((Ks153.grainOf p : Nat) : Int) = 2 ^ (gp (p : Int)).toNat := by
  unfold Ks153.grainOf
  rw [← gp_step, Int.natCast_pow]
  rfl
/-- a beginning by floor division -/
theorem beg_math (a l g : Int) : (a - l * g) / (256 * g) * (256 * g) + l * g = a - (a + 256 * g - g * l) % (256 * g) := by
  have e1 : a + 256 * g - g * l = (a - l * g) + (256 * g) * 1 := by rw [Int.mul_comm g l]; omega
  rw [e1, Int.add_mul_emod_self_left]
  have e2 := Int.mul_ediv_add_emod (a - l * g) (256 * g)
  rw [Int.mul_comm] at e2
  omega
def beg (v : Int) : Int := (Ks153.of v.toNat).begins
def len (v : Int) : Int := (((Ks153.of v.toNat).length : Nat) : Int)
theorem beg_eq {v : Int} (h : 0 ≤ v) : beg v = v % 4294967296 - (v % 4294967296 + 256 * 2 ^ (gp (v / 281474976710656 % 16)).toNat - 2 ^ (gp (v / 281474976710656 % 16)).toNat * (v / 1099511627776 % 256)) % (256 * 2 ^ (gp (v / 281474976710656 % 16)).toNat) := by
  unfold beg Ks153.Ref.begins Ks153.Ref.grain
  have hl : (Ks153.of v.toNat).lower < 256 := Nat.mod_lt _ (by decide)
  have hle : Ks153.grainOf (Ks153.of v.toNat).power * (Ks153.of v.toNat).lower ≤ (Ks153.of v.toNat).address + 256 * Ks153.grainOf (Ks153.of v.toNat).power := by
    have := Nat.mul_le_mul_left (Ks153.grainOf (Ks153.of v.toNat).power) (Nat.le_of_lt hl)
    omega
  rw [Int.natCast_emod, Int.ofNat_sub hle, Int.natCast_add, Int.natCast_mul, Int.natCast_mul, gp_grain, f_pw h, f_addr h, f_lo h]
  rfl
theorem beg_val {v : Int} (h : 0 ≤ v) : (v % 4294967296 - v / 1099511627776 % 256 * 2 ^ (gp (v / 281474976710656 % 16)).toNat) / (256 * 2 ^ (gp (v / 281474976710656 % 16)).toNat) * (256 * 2 ^ (gp (v / 281474976710656 % 16)).toNat) + v / 1099511627776 % 256 * 2 ^ (gp (v / 281474976710656 % 16)).toNat = beg v := by
  rw [beg_eq h]
  exact beg_math _ _ _
theorem len_eq {v : Int} (h : 0 ≤ v) : len v = (v / 4294967296 % 256 - v / 1099511627776 % 256) % 256 * 2 ^ (gp (v / 281474976710656 % 16)).toNat := by
  unfold len Ks153.Ref.length Ks153.Ref.grain
  rw [Int.natCast_mul, gp_grain, f_pw h]
  have hl := f_lo h
  have hu := f_up h
  have hb : (Ks153.of v.toNat).lower < 256 := Nat.mod_lt _ (by decide)
  have e : ((((Ks153.of v.toNat).upper + 256 - (Ks153.of v.toNat).lower) % 256 : Nat) : Int) = (v / 4294967296 % 256 - v / 1099511627776 % 256) % 256 := by omega
  rw [e]
theorem signed_eq (x : Int) : ((Ks153.signed x : Nat) : Int) = x % 18446744073709551616 := by
  unfold Ks153.signed
  have e : (2 : Int) ^ 64 = 18446744073709551616 := by decide
  rw [e]
  omega
/- A number and its reference. -/
theorem num_of {n : Nat} (h : n < 18446744073709551616) : (Ks153.of n).num = n := by
  show n / 2 ^ 0 % 2 ^ 32 + 2 ^ 32 * (n / 2 ^ 32 % 2 ^ 8) + 2 ^ 40 * (n / 2 ^ 40 % 2 ^ 8) + 2 ^ 48 * (n / 2 ^ 48 % 2 ^ 4) + 2 ^ 52 * (n / 2 ^ 52 % 2 ^ 3) + 2 ^ 55 * (n / 2 ^ 55 % 2 ^ 9) = n
  omega
theorem num_v {v : Int} (h : 0 ≤ v) (h2 : v ≤ 18446744073709551615) : (((Ks153.of v.toNat).num : Nat) : Int) = v := by
  rw [num_of (by omega)]
  omega
/-- a reference by its fields -/
theorem of_fields {x : Int} {a u l p k r : Nat} (ha : a < 4294967296) (hu : u < 256) (hl : l < 256) (hp : p < 16) (hk : k < 8) (hr : r < 512)
    (hx : x = (a : Int) + 4294967296 * u + 1099511627776 * l + 281474976710656 * p + 4503599627370496 * k + 36028797018963968 * r) :
    Ks153.of x.toNat = ⟨a, u, l, p, k, r⟩ := by
  have e : x.toNat = a + 4294967296 * u + 1099511627776 * l + 281474976710656 * p + 4503599627370496 * k + 36028797018963968 * r := by omega
  rw [e]
  unfold Ks153.of Ks153.bits
  congr 1 <;> omega
theorem fields_num (a u l p k r : Nat) : (((⟨a, u, l, p, k, r⟩ : Ks153.Ref).num : Nat) : Int) = (a : Int) + 4294967296 * u + 1099511627776 * l + 281474976710656 * p + 4503599627370496 * k + 36028797018963968 * r := by
  show ((a + 2 ^ 32 * u + 2 ^ 40 * l + 2 ^ 48 * p + 2 ^ 52 * k + 2 ^ 55 * r : Nat) : Int) = _
  omega
/- Bounds. -/
theorem pw_lo (n : Nat) : (1 : Int) ≤ 2 ^ n := Int.pow_pos (by decide)
theorem pw_hi {n m : Nat} (h : n ≤ m) : (2 : Int) ^ n ≤ 2 ^ m := by
  have e : ∀ k : Nat, (2 : Int) ^ k = ((2 ^ k : Nat) : Int) := fun k => by rw [Int.natCast_pow]; rfl
  rw [e, e]
  exact Int.ofNat_le.mpr (Nat.pow_le_pow_right (by decide) h)
theorem grain_hi {v : Int} : (2 : Int) ^ (gp (v / 281474976710656 % 16)).toNat ≤ 16777216 := by
  have a := gp_hi (p := v / 281474976710656 % 16) (by omega)
  have b := gp_lo (p := v / 281474976710656 % 16) (by omega)
  exact pw_hi (m := 24) (by omega)
theorem len_in {v : Int} (h : 0 ≤ v) : 0 ≤ len v ∧ len v ≤ 4278190080 := by
  rw [len_eq h]
  have g1 := pw_lo (gp (v / 281474976710656 % 16)).toNat
  have g2 := grain_hi (v := v)
  have q1 : 0 ≤ (v / 4294967296 % 256 - v / 1099511627776 % 256) % 256 := by omega
  have q2 : (v / 4294967296 % 256 - v / 1099511627776 % 256) % 256 ≤ 255 := by omega
  refine ⟨Int.mul_nonneg q1 (by omega), ?_⟩
  have a := Int.mul_le_mul q2 g2 (by omega) (by decide)
  omega
theorem beg_in {v : Int} (h : 0 ≤ v) : -4294967296 < beg v ∧ beg v ≤ v % 4294967296 := by
  rw [beg_eq h]
  have g1 := pw_lo (gp (v / 281474976710656 % 16)).toNat
  have g2 := grain_hi (v := v)
  have m1 := Int.emod_nonneg (v % 4294967296 + 256 * 2 ^ (gp (v / 281474976710656 % 16)).toNat - 2 ^ (gp (v / 281474976710656 % 16)).toNat * (v / 1099511627776 % 256)) (b := 256 * 2 ^ (gp (v / 281474976710656 % 16)).toNat) (by omega)
  have m2 := Int.emod_lt_of_pos (v % 4294967296 + 256 * 2 ^ (gp (v / 281474976710656 % 16)).toNat - 2 ^ (gp (v / 281474976710656 % 16)).toNat * (v / 1099511627776 % 256)) (b := 256 * 2 ^ (gp (v / 281474976710656 % 16)).toNat) (by omega)
  omega
theorem root_val {k x : Int} (h : 0 ≤ k) (hx : x = 255 * 4294967296 + 15 * 281474976710656 + k % 512 * 36028797018963968) : [1, x] = PyKs153.root k := by
  rw [due_root, hx]
  have e : (((Ks153.root k.toNat).1.num : Nat) : Int) = 255 * 4294967296 + 15 * 281474976710656 + k % 512 * 36028797018963968 := by
    show ((0 + 2 ^ 32 * 255 + 2 ^ 40 * 0 + 2 ^ 48 * 15 + 2 ^ 52 * 0 + 2 ^ 55 * (k.toNat % 512) : Nat) : Int) = _
    omega
  rw [e]
theorem look_val {v : Int} (h : 0 ≤ v) : [0, beg v % 18446744073709551616, len v, v % 4294967296, v / 4503599627370496 % 8, v / 36028797018963968 % 512, gp (v / 281474976710656 % 16)] = PyKs153.look v := by
  rw [due_look, f_addr h, f_sl h, f_rt h, gp_step, f_pw h, signed_eq]
  rfl
/- A letter of the request, by its place. -/
structure Tag (i : Nat) (x : Int) : Prop where
  mk ::
abbrev Tag.val {i : Nat} {x : Int} (_ : Tag i x) : Int := x
theorem tag {x : Int} (i : Nat) (_ : (0 : Int) ≤ x) : Tag i x := ⟨⟩
/- The search for the least power. -/
structure NoFit (F : Nat → Prop) (pre : List Int) : Prop where
  h : ∀ q : Nat, q < pre.length → ¬ F q
theorem nofit_nil (F : Nat → Prop) : NoFit F [] := ⟨fun _ h => nomatch h⟩
theorem nofit_more {F : Nat → Prop} {pre : List Int} {k : Int} (h : NoFit F pre) (e : k = 0 + (pre.length : Int)) (n : ¬ F k.toNat) : NoFit F (pre ++ [k]) := by
  refine ⟨fun q hq => ?_⟩
  have l : (pre ++ [k]).length = pre.length + 1 := by simp
  by_cases c : q < pre.length
  · exact h.h q c
  · have : q = k.toNat := by omega
    rw [this]
    exact n
theorem find_from (f : Nat → Bool) (p : Nat) (hf : f p = true) : ∀ (m s : Nat), s ≤ p → p < s + m → (∀ q, s ≤ q → q < p → f q = false) → (List.range' s m).find? f = some p
  | 0, s, h1, h2, _ => by omega
  | m + 1, s, h1, h2, hn => by
    rw [List.range'_succ]
    by_cases e : s = p
    · rw [List.find?_cons_of_pos (by rw [e]; exact hf), e]
    · rw [List.find?_cons_of_neg (by rw [hn s (Nat.le_refl s) (by omega)]; decide)]
      exact find_from f p hf m (s + 1) (by omega) (by omega) (fun q a b => hn q (by omega) b)
theorem find_hit {f : Nat → Bool} {p N : Nat} (hp : p < N) (hf : f p = true) (hn : ∀ q, q < p → f q = false) : (List.range N).find? f = some p := by
  rw [List.range_eq_range']
  exact find_from f p hf N 0 (by omega) (by omega) (fun q _ b => hn q b)
theorem find_miss {f : Nat → Bool} {N : Nat} (hn : ∀ q, q < N → f q = false) : (List.range N).find? f = none := by
  rw [List.find?_eq_none]
  intro x hx
  rw [hn x (List.mem_range.mp hx)]
  decide
/- Rounded up. -/
theorem ceil_eq (n g : Int) (hg : 0 < g) : -(-n / g) = (n + g - 1) / g := by
  have h1 := Int.mul_ediv_add_emod (n + g - 1) g
  have h2 := Int.emod_nonneg (n + g - 1) (b := g) (by omega)
  have h3 := Int.emod_lt_of_pos (n + g - 1) hg
  have e : -n / g = -((n + g - 1) / g) := by
    refine ((Int.ediv_emod_unique hg (r := g - 1 - (n + g - 1) % g)).mpr ⟨?_, by omega, by omega⟩).1
    rw [Int.mul_neg]
    omega
  omega
theorem grain_pos (q : Nat) : 0 < Ks153.grainOf q := Nat.pow_pos (by decide)
theorem up_cast (n q : Nat) : (((n + Ks153.grainOf q - 1) / Ks153.grainOf q : Nat) : Int) = ((n : Int) + 2 ^ (gp (q : Int)).toNat - 1) / 2 ^ (gp (q : Int)).toNat := by
  have p := grain_pos q
  rw [Int.natCast_ediv, Int.ofNat_sub (by omega), Int.natCast_add, gp_grain]
  rfl
def fitR (n : Int) (q : Nat) : Prop := (n.toNat + Ks153.grainOf q - 1) / Ks153.grainOf q ≤ 255
theorem fitR_iff {n k : Int} (h : 0 ≤ n) (hk : 0 ≤ k) : fitR n k.toNat ↔ (n + 2 ^ (gp k).toNat - 1) / 2 ^ (gp k).toNat ≤ 255 := by
  unfold fitR
  have e := up_cast n.toNat k.toNat
  rw [Int.toNat_of_nonneg h, Int.toNat_of_nonneg hk] at e
  omega
theorem room_hit {n k : Int} {pre : List Int} (h0 : n ≠ 0) (h1 : 0 ≤ n) (h2 : n ≤ 4278190080) (hn : NoFit (fitR n) pre) (hk : k = 0 + (pre.length : Int)) (hl : pre.length < 16) (hf : fitR n k.toNat) :
    PyKs153.room n = [0, (n + 2 ^ (gp k).toNat - 1) / 2 ^ (gp k).toNat * 2 ^ (gp k).toNat, 2 ^ (gp k).toNat] := by
  have hf' : (List.range 16).find? (fun p => decide ((n.toNat + Ks153.grainOf p - 1) / Ks153.grainOf p ≤ 255)) = some k.toNat :=
    find_hit (by omega) (decide_eq_true hf) (fun q hq => decide_eq_false (hn.h q (by omega)))
  have e : Ks153.room n.toNat = some ((n.toNat + Ks153.grainOf k.toNat - 1) / Ks153.grainOf k.toNat * Ks153.grainOf k.toNat, Ks153.grainOf k.toNat) := by
    unfold Ks153.room
    rw [if_neg (by unfold Ks153.MOST; omega), hf']
    rfl
  rw [due_room, e]
  have c := up_cast n.toNat k.toNat
  have g := gp_grain k.toNat
  rw [Int.toNat_of_nonneg h1, Int.toNat_of_nonneg (show 0 ≤ k by omega)] at c
  rw [Int.toNat_of_nonneg (show 0 ≤ k by omega)] at g
  show [(0 : Int), (((n.toNat + Ks153.grainOf k.toNat - 1) / Ks153.grainOf k.toNat * Ks153.grainOf k.toNat : Nat) : Int), ((Ks153.grainOf k.toNat : Nat) : Int)] = _
  rw [Int.natCast_mul, c, g]
theorem room_bad {n : Int} (h1 : 0 ≤ n) (h : n = 0 ∨ 4278190080 < n) : PyKs153.room n = [-22] := by
  have e : Ks153.room n.toNat = none := by
    unfold Ks153.room
    rw [if_pos (by unfold Ks153.MOST; omega)]
  rw [due_room, e]
theorem room_all {n : Int} {pre : List Int} (h1 : 0 ≤ n) (h2 : n ≤ 4278190080) (hn : NoFit (fitR n) pre) (hl : 15 < pre.length) : False := by
  refine hn.h 15 hl ?_
  show (n.toNat + 2 ^ 24 - 1) / 2 ^ 24 ≤ 255
  omega
/- A stretch rounded outwards. -/
def fitB (a n : Int) (q : Nat) : Prop := Ks153.grains a.toNat n.toNat q ≤ 255
theorem fitB_iff {a n k : Int} (ha : 0 ≤ a) (h : 0 ≤ n) (hk : 0 ≤ k) : fitB a n k.toNat ↔ (a + n + 2 ^ (gp k).toNat - 1) / 2 ^ (gp k).toNat - a / 2 ^ (gp k).toNat ≤ 255 := by
  unfold fitB Ks153.grains
  have e := up_cast (a.toNat + n.toNat) k.toNat
  have d : ((a.toNat / Ks153.grainOf k.toNat : Nat) : Int) = a / 2 ^ (gp k).toNat := by
    rw [Int.natCast_ediv, gp_grain, Int.toNat_of_nonneg ha, Int.toNat_of_nonneg hk]
  rw [Int.natCast_add, Int.toNat_of_nonneg ha, Int.toNat_of_nonneg h, Int.toNat_of_nonneg hk] at e
  omega
theorem power_hit {a n k : Int} {pre : List Int} (h0 : n ≠ 0) (h1 : 0 ≤ n) (hn : NoFit (fitB a n) pre) (hk : k = 0 + (pre.length : Int)) (hl : pre.length < 16) (hf : fitB a n k.toNat) :
    Ks153.powerOf a.toNat n.toNat = some k.toNat := by
  unfold Ks153.powerOf
  rw [if_neg (by omega)]
  exact find_hit (by omega) (decide_eq_true hf) (fun q hq => decide_eq_false (hn.h q (by omega)))
theorem power_zero {a n : Int} (h : n = 0) : Ks153.powerOf a.toNat n.toNat = none := by
  unfold Ks153.powerOf
  rw [if_pos (by omega)]
theorem power_miss {a n : Int} {pre : List Int} (hn : NoFit (fitB a n) pre) (hl : 15 < pre.length) : Ks153.powerOf a.toNat n.toNat = none := by
  unfold Ks153.powerOf
  split
  · rfl
  · exact find_miss (fun q hq => decide_eq_false (hn.h q (by omega)))
end Eb
namespace Eb
open PySem
/- What is due, in whole numbers. -/
theorem up_lt (n : Nat) : (Ks153.of n).upper < 256 := Nat.mod_lt _ (by decide)
theorem lo_lt (n : Nat) : (Ks153.of n).lower < 256 := Nat.mod_lt _ (by decide)
theorem pw_lt (n : Nat) : (Ks153.of n).power < 16 := Nat.mod_lt _ (by decide)
theorem sl_lt (n : Nat) : (Ks153.of n).kept < 8 := Nat.mod_lt _ (by decide)
theorem rt_lt (n : Nat) : (Ks153.of n).rights < 512 := Nat.mod_lt _ (by decide)
theorem ad_lt (n : Nat) : (Ks153.of n).address < 4294967296 := Nat.mod_lt _ (by decide)
theorem one_if {b : Bool} {P : Prop} [Decidable P] (h : b = true ↔ P) : one b = if P then 1 else 0 := by
  unfold one
  by_cases p : P
  · rw [if_pos p, if_pos (h.mpr p)]
  · rw [if_neg p, if_neg (fun e => p (h.mp e))]
theorem good_iff {g : Int} (h0 : 0 ≤ g) (h1 : g ≤ 1) : (g.toNat != 0) = true ↔ g = 1 := by
  rw [bne_iff_ne]
  omega
theorem sl_iff {v : Int} (h : 0 ≤ v) : ((Ks153.of v.toNat).kept == 0) = true ↔ v / 4503599627370496 % 8 = 0 := by
  rw [beq_iff_eq, ← f_sl h]
  omega
theorem begins_beg (v : Int) : (Ks153.of v.toNat).begins = beg v := rfl
theorem length_len (v : Int) : (((Ks153.of v.toNat).length : Nat) : Int) = len v := rfl
theorem ends_eq (v : Int) : (Ks153.of v.toNat).ends = beg v + len v := rfl
/-- move -/
theorem of_move {v to : Int} (h : 0 ≤ v) (h2 : v ≤ 18446744073709551615) (t0 : 0 ≤ to) (t1 : to ≤ 4294967295) :
    Ks153.of (v - v % 4294967296 + to).toNat = { Ks153.of v.toNat with address := to.toNat } := by
  refine of_fields (by omega) (up_lt _) (lo_lt _) (pw_lt _) (sl_lt _) (rt_lt _) ?_
  rw [f_up h, f_lo h, f_pw h, f_sl h, f_rt h]
  omega
theorem due_moveI {v good to : Int} (h : 0 ≤ v) (h2 : v ≤ 18446744073709551615) (g0 : 0 ≤ good) (g1 : good ≤ 1) (t0 : 0 ≤ to) (t1 : to ≤ 4294967295) :
    PyKs153.move v good to = [if good = 1 ∧ v / 4503599627370496 % 8 = 0 ∧ beg (v - v % 4294967296 + to) = beg v then 1 else 0, v - v % 4294967296 + to] := by
  have e := of_move h h2 t0 t1
  have n := num_v (v := v - v % 4294967296 + to) (by omega) (by omega)
  rw [e] at n
  rw [due_move]
  unfold Ks153.move
  dsimp only
  rw [n]
  congr 1
  refine one_if ?_
  rw [Bool.and_eq_true, Bool.and_eq_true, good_iff g0 g1, sl_iff h, beq_iff_eq, ← e, begins_beg, begins_beg, and_assoc]
/-- less -/
theorem and_low9 (a k : Nat) (h : a < 512) : a &&& (k % 512) = a &&& k := by
  have e1 : k % 512 = k &&& 511 := (Nat.and_two_pow_sub_one_eq_mod k 9).symm
  have e2 : a &&& 511 = a := by
    rw [Nat.and_two_pow_sub_one_eq_mod a 9]
    exact Nat.mod_eq_of_lt h
  rw [e1, ← Nat.and_assoc, Nat.and_comm a k, Nat.and_assoc, e2]
theorem and_int {x y : Int} (hx : 0 ≤ x) (hy : 0 ≤ y) : (((x.toNat &&& y.toNat : Nat)) : Int) = Builtin.bitAnd x y := (PyProof.Rows.bitAnd_pp hx hy).symm
theorem rt_nat {v : Int} (h : 0 ≤ v) : (Ks153.of v.toNat).rights = (v / 36028797018963968 % 512).toNat := by
  have := f_rt h
  omega
theorem of_less {v : Int} {r : Nat} (h : 0 ≤ v) (h2 : v ≤ 18446744073709551615) (t1 : r < 512) :
    Ks153.of (v - v / 36028797018963968 % 512 * 36028797018963968 + r * 36028797018963968).toNat = { Ks153.of v.toNat with rights := r } := by
  refine of_fields (ad_lt _) (up_lt _) (lo_lt _) (pw_lt _) (sl_lt _) (by omega) ?_
  rw [f_addr h, f_up h, f_lo h, f_pw h, f_sl h]
  omega
theorem due_lessI {v good k : Int} (h : 0 ≤ v) (h2 : v ≤ 18446744073709551615) (g0 : 0 ≤ good) (g1 : good ≤ 1) (t0 : 0 ≤ k) :
    PyKs153.less v good k = [if good = 1 ∧ v / 4503599627370496 % 8 = 0 then 1 else 0, v - v / 36028797018963968 % 512 * 36028797018963968 + Builtin.bitAnd (v / 36028797018963968 % 512) k * 36028797018963968] := by
  have r1 : (Ks153.of v.toNat).rights &&& (k.toNat % 512) = (v / 36028797018963968 % 512).toNat &&& k.toNat := by
    rw [and_low9 _ _ (rt_lt _), rt_nat h]
  have r2 : (v / 36028797018963968 % 512).toNat &&& k.toNat < 512 := Nat.lt_of_le_of_lt Nat.and_le_left (by omega)
  have e := of_less h h2 r2
  have n := num_v (v := v - v / 36028797018963968 % 512 * 36028797018963968 + ((v / 36028797018963968 % 512).toNat &&& k.toNat : Nat) * 36028797018963968) (by omega) (by omega)
  rw [e] at n
  rw [due_less]
  unfold Ks153.less
  dsimp only
  rw [r1, n, ← and_int (by omega) t0]
  congr 1
  refine one_if ?_
  rw [Bool.and_eq_true, good_iff g0 g1, sl_iff h]
/-- seal, open -/
theorem has256 {y : Int} (h : 0 ≤ y) : ((Ks153.of y.toNat).has Ks153.SEALS) = true ↔ 256 ≤ y / 36028797018963968 % 512 := by
  unfold Ks153.Ref.has Ks153.SEALS
  rw [beq_iff_eq, rt_nat h]
  have k : (y / 36028797018963968 % 512).toNat &&& 2 ^ 8 = (y / 36028797018963968 % 512).toNat / 2 ^ 8 % 2 * 2 ^ 8 := PySem.W.kbt_nat 8 _
  have e : (256 : Nat) = 2 ^ 8 := by decide
  rw [e, k]
  omega
theorem covers_iff {y : Int} {a n : Nat} : (Ks153.of y.toNat).covers a n = true ↔ beg y ≤ a ∧ (a : Int) + n ≤ beg y + len y := by
  unfold Ks153.Ref.covers
  rw [Bool.and_eq_true, decide_eq_true_eq, decide_eq_true_eq, begins_beg, ends_eq, Int.natCast_add]
theorem mayBy_iff {y g : Int} {t : Nat} (h : 0 ≤ y) (g0 : 0 ≤ g) (g1 : g ≤ 1) :
    Ks153.mayBy (Ks153.of y.toNat, g.toNat != 0) t = true ↔ g = 1 ∧ y / 4503599627370496 % 8 = 0 ∧ 256 ≤ y / 36028797018963968 % 512 ∧ y % 4294967296 = t ∧ beg y ≤ t ∧ (t : Int) < beg y + len y := by
  unfold Ks153.mayBy
  dsimp only
  rw [Bool.and_eq_true, Bool.and_eq_true, Bool.and_eq_true, Bool.and_eq_true, good_iff g0 g1, sl_iff h, has256 h, covers_iff, beq_iff_eq]
  have a := f_addr h
  constructor
  · rintro ⟨⟨⟨⟨h1, h2⟩, h3⟩, h4⟩, h5, h6⟩
    exact ⟨h1, h2, h3, by omega, h5, by omega⟩
  · rintro ⟨h1, h2, h3, h4, h5, h6⟩
    exact ⟨⟨⟨⟨h1, h2⟩, h3⟩, by omega⟩, h5, by omega⟩
def mayI (y g : Int) : Prop := g = 1 ∧ y / 4503599627370496 % 8 = 0 ∧ 256 ≤ y / 36028797018963968 % 512 ∧ beg y ≤ y % 4294967296 ∧ y % 4294967296 < beg y + len y
instance (y g : Int) : Decidable (mayI y g) := by unfold mayI; infer_instance
theorem of_seal {v : Int} {k : Nat} (h : 0 ≤ v) (h2 : v ≤ 18446744073709551615) (t1 : k < 8) :
    Ks153.of (v - v / 4503599627370496 % 8 * 4503599627370496 + k * 4503599627370496).toNat = { Ks153.of v.toNat with kept := k } := by
  refine of_fields (ad_lt _) (up_lt _) (lo_lt _) (pw_lt _) (by omega) (rt_lt _) ?_
  rw [f_addr h, f_up h, f_lo h, f_pw h, f_rt h]
  omega
theorem due_sealI {v good y yg : Int} (h : 0 ≤ v) (h2 : v ≤ 18446744073709551615) (g0 : 0 ≤ good) (g1 : good ≤ 1) (hy : 0 ≤ y) (k0 : 0 ≤ yg) (k1 : yg ≤ 1) :
    PyKs153.seal_ v good y yg = if good = 1 ∧ v / 4503599627370496 % 8 = 0 ∧ 1 ≤ y % 4294967296 ∧ y % 4294967296 ≤ 7 ∧ mayI y yg then [1, v + y % 4294967296 * 4503599627370496] else [0, v] := by
  have a := f_addr hy
  have key : (((good.toNat != 0) && (Ks153.of v.toNat).kept == 0 && decide (1 ≤ (Ks153.of y.toNat).address) && decide ((Ks153.of y.toNat).address ≤ 7) && Ks153.mayBy (Ks153.of y.toNat, yg.toNat != 0) (Ks153.of y.toNat).address) = true) ↔ (good = 1 ∧ v / 4503599627370496 % 8 = 0 ∧ 1 ≤ y % 4294967296 ∧ y % 4294967296 ≤ 7 ∧ mayI y yg) := by
    unfold mayI
    rw [Bool.and_eq_true, Bool.and_eq_true, Bool.and_eq_true, Bool.and_eq_true, good_iff g0 g1, sl_iff h, mayBy_iff hy k0 k1, decide_eq_true_eq, decide_eq_true_eq]
    constructor
    · rintro ⟨⟨⟨⟨h1, h2⟩, h3⟩, h4⟩, h5, h6, h7, h8, h9, h10⟩
      exact ⟨h1, h2, by omega, by omega, h5, h6, h7, by omega, by omega⟩
    · rintro ⟨h1, h2, h3, h4, h5, h6, h7, h8, h9⟩
      exact ⟨⟨⟨⟨h1, h2⟩, by omega⟩, by omega⟩, h5, h6, h7, by omega, by omega, by omega⟩
  rw [due_seal]
  unfold Ks153.sealBy
  by_cases c : good = 1 ∧ v / 4503599627370496 % 8 = 0 ∧ 1 ≤ y % 4294967296 ∧ y % 4294967296 ≤ 7 ∧ mayI y yg
  · rw [if_pos c, if_pos (key.mpr c)]
    have e := of_seal (k := (Ks153.of y.toNat).address) h h2 (by omega)
    have n := num_v (v := v - v / 4503599627370496 % 8 * 4503599627370496 + (Ks153.of y.toNat).address * 4503599627370496) (by omega) (by omega)
    rw [e] at n
    dsimp only
    rw [n, a]
    show [(1 : Int), _] = _
    congr 2
    omega
  · rw [if_neg c, if_neg (fun e => c (key.mp e))]
    dsimp only
    rw [num_v h h2]
    rfl
theorem due_openI {v good y yg : Int} (h : 0 ≤ v) (h2 : v ≤ 18446744073709551615) (g0 : 0 ≤ good) (g1 : good ≤ 1) (hy : 0 ≤ y) (k0 : 0 ≤ yg) (k1 : yg ≤ 1) :
    PyKs153.open_seal v good y yg = if good = 1 ∧ v / 4503599627370496 % 8 ≠ 0 ∧ y % 4294967296 = v / 4503599627370496 % 8 ∧ mayI y yg then [1, v - v / 4503599627370496 % 8 * 4503599627370496] else [0, v] := by
  have a := f_addr hy
  have b := f_sl h
  have key : (((good.toNat != 0) && (Ks153.of v.toNat).kept != 0 && Ks153.mayBy (Ks153.of y.toNat, yg.toNat != 0) (Ks153.of v.toNat).kept) = true) ↔ (good = 1 ∧ v / 4503599627370496 % 8 ≠ 0 ∧ y % 4294967296 = v / 4503599627370496 % 8 ∧ mayI y yg) := by
    unfold mayI
    rw [Bool.and_eq_true, Bool.and_eq_true, good_iff g0 g1, bne_iff_ne, mayBy_iff hy k0 k1]
    constructor
    · rintro ⟨⟨h1, h2⟩, h5, h6, h7, h8, h9, h10⟩
      exact ⟨h1, by omega, by omega, h5, h6, h7, by omega, by omega⟩
    · rintro ⟨h1, h2, h3, h5, h6, h7, h8, h9⟩
      exact ⟨⟨h1, by omega⟩, h5, h6, h7, by omega, by omega, by omega⟩
  rw [due_open]
  unfold Ks153.openBy
  by_cases c : good = 1 ∧ v / 4503599627370496 % 8 ≠ 0 ∧ y % 4294967296 = v / 4503599627370496 % 8 ∧ mayI y yg
  · rw [if_pos c, if_pos (key.mpr c)]
    have e := of_seal (k := 0) h h2 (by omega)
    have n := num_v (v := v - v / 4503599627370496 % 8 * 4503599627370496 + ((0 : Nat) : Int) * 4503599627370496) (by omega) (by omega)
    rw [e] at n
    dsimp only
    rw [n]
    show [(1 : Int), _] = _
    congr 2
    omega
  · rw [if_neg c, if_neg (fun e => c (key.mp e))]
    dsimp only
    rw [num_v h h2]
    rfl
/-- in -/
theorem has_iff {w r : Int} (hw : 0 ≤ w) (hr : 0 ≤ r) : ((Ks153.of w.toNat).has r.toNat) = true ↔ Builtin.bitAnd (w / 36028797018963968 % 512) r = r := by
  unfold Ks153.Ref.has
  rw [beq_iff_eq, rt_nat hw, ← and_int (by omega) hr]
  omega
theorem due_inI {v w : Int} (h : 0 ≤ v) (hw : 0 ≤ w) :
    PyKs153.is_in v w = [if beg w ≤ beg v ∧ beg v + len v ≤ beg w + len w ∧ Builtin.bitAnd (w / 36028797018963968 % 512) (v / 36028797018963968 % 512) = v / 36028797018963968 % 512 ∧ v / 4503599627370496 % 8 = w / 4503599627370496 % 8 then 1 else 0] := by
  rw [due_in]
  congr 1
  refine one_if ?_
  unfold Ks153.Ref.in_ Ks153.Ref.inside
  have b := f_sl h
  have c := f_sl hw
  rw [Bool.and_eq_true, Bool.and_eq_true, Bool.and_eq_true, decide_eq_true_eq, decide_eq_true_eq, rt_nat h, has_iff hw (by omega), beq_iff_eq, begins_beg, begins_beg, ends_eq, ends_eq]
  constructor
  · rintro ⟨⟨⟨h1, h2⟩, h3⟩, h4⟩
    exact ⟨h1, h2, h3, by omega⟩
  · rintro ⟨h1, h2, h3, h4⟩
    exact ⟨⟨⟨h1, h2⟩, h3⟩, by omega⟩
/-- may -/
theorem due_mayI {v good at_ n k : Int} (h : 0 ≤ v) (g0 : 0 ≤ good) (g1 : good ≤ 1) (a0 : 0 ≤ at_) (n0 : 0 ≤ n) (k0 : 0 ≤ k) :
    PyKs153.may v good at_ n k = [if good = 0 then -1 else if v / 4503599627370496 % 8 ≠ 0 then -2 else if Builtin.bitAnd (v / 36028797018963968 % 512) (k % 512) ≠ k % 512 then -3 else if beg v ≤ at_ ∧ at_ + n ≤ beg v + len v then 0 else -4] := by
  rw [due_may]
  congr 1
  unfold Ks153.may
  dsimp only
  have b := f_sl h
  have e : k.toNat % 512 = (k % 512).toNat := by omega
  by_cases c1 : good = 0
  · rw [if_pos c1, if_pos (by subst c1; rfl)]
  · rw [if_neg c1, if_neg (by simp only [Bool.not_eq_true', Bool.not_eq_false]; exact (good_iff g0 g1).mpr (by omega))]
    by_cases c2 : v / 4503599627370496 % 8 ≠ 0
    · rw [if_pos c2, if_pos (by rw [bne_iff_ne]; omega)]
    · rw [if_neg c2, if_neg (by rw [bne_iff_ne]; omega), e]
      by_cases c3 : Builtin.bitAnd (v / 36028797018963968 % 512) (k % 512) ≠ k % 512
      · rw [if_pos c3, if_pos (by simp only [Bool.not_eq_true']; exact Bool.eq_false_iff.mpr (fun x => c3 ((has_iff h (by omega)).mp x)))]
      · rw [if_neg c3, if_neg (by simp only [Bool.not_eq_true', Bool.not_eq_false]; exact (has_iff h (by omega)).mpr (by omega))]
        have cv : (Ks153.of v.toNat).covers at_.toNat n.toNat = true ↔ beg v ≤ at_ ∧ at_ + n ≤ beg v + len v := by
          rw [covers_iff, Int.toNat_of_nonneg a0, Int.toNat_of_nonneg n0]
        by_cases c4 : beg v ≤ at_ ∧ at_ + n ≤ beg v + len v
        · rw [if_pos c4, if_neg (by simp only [Bool.not_eq_true', Bool.not_eq_false]; exact cv.mpr c4)]
        · rw [if_neg c4, if_pos (by simp only [Bool.not_eq_true']; exact Bool.eq_false_iff.mpr (fun x => c4 (cv.mp x)))]
/-- bound -/
theorem due_boundN {v good n just : Int} (h : 0 ≤ v) (h2 : v ≤ 18446744073709551615) (hp : Ks153.powerOf (v % 4294967296).toNat n.toNat = none) : PyKs153.bound v good n just = [0, v] := by
  have a : (v % 4294967296).toNat = (Ks153.of v.toNat).address := by
    have := f_addr h
    omega
  rw [a] at hp
  rw [due_bound]
  unfold Ks153.bound
  dsimp only
  rw [hp]
  dsimp only
  rw [num_v h h2]
  rfl
theorem due_boundI {v good n just k : Int} (h : 0 ≤ v) (h2 : v ≤ 18446744073709551615) (g0 : 0 ≤ good) (g1 : good ≤ 1) (n0 : 0 ≤ n) (j0 : 0 ≤ just) (j1 : just ≤ 1) (k0 : 0 ≤ k) (k1 : k ≤ 15)
    (hp : Ks153.powerOf (v % 4294967296).toNat n.toNat = some k.toNat) :
    PyKs153.bound v good n just = [if good = 1 ∧ v / 4503599627370496 % 8 = 0 ∧ v % 4294967296 + n ≤ beg v + len v ∧ (just = 0 ∨ (v % 4294967296 % 2 ^ (gp k).toNat = 0 ∧ (v % 4294967296 + n) % 2 ^ (gp k).toNat = 0)) then 1 else 0,
      v % 4294967296 + 4294967296 * ((v % 4294967296 + n + 2 ^ (gp k).toNat - 1) / 2 ^ (gp k).toNat % 256) + 1099511627776 * (v % 4294967296 / 2 ^ (gp k).toNat % 256) + 281474976710656 * k + 4503599627370496 * (v / 4503599627370496 % 8) + 36028797018963968 * (v / 36028797018963968 % 512)] := by
  have a : (v % 4294967296).toNat = (Ks153.of v.toNat).address := by
    have := f_addr h
    omega
  rw [a] at hp
  rw [due_bound]
  unfold Ks153.bound
  dsimp only
  rw [hp]
  dsimp only
  have g := gp_grain k.toNat
  rw [Int.toNat_of_nonneg k0] at g
  have u := up_cast ((Ks153.of v.toNat).address + n.toNat) k.toNat
  rw [Int.toNat_of_nonneg k0, Int.natCast_add, f_addr h, Int.toNat_of_nonneg n0] at u
  have d : (((Ks153.of v.toNat).address / Ks153.grainOf k.toNat : Nat) : Int) = v % 4294967296 / 2 ^ (gp k).toNat := by
    rw [Int.natCast_ediv, g, f_addr h]
  have n1 : (((Ks153.told (Ks153.of v.toNat) n.toNat k.toNat).num : Nat) : Int) = v % 4294967296 + 4294967296 * ((v % 4294967296 + n + 2 ^ (gp k).toNat - 1) / 2 ^ (gp k).toNat % 256) + 1099511627776 * (v % 4294967296 / 2 ^ (gp k).toNat % 256) + 281474976710656 * k + 4503599627370496 * (v / 4503599627370496 % 8) + 36028797018963968 * (v / 36028797018963968 % 512) := by
    unfold Ks153.told
    rw [fields_num, Int.natCast_emod, Int.natCast_emod, u, d, f_addr h, f_sl h, f_rt h, Int.toNat_of_nonneg k0]
    rfl
  rw [n1]
  congr 1
  refine one_if ?_
  have m1 : (((Ks153.of v.toNat).address % Ks153.grainOf k.toNat : Nat) : Int) = v % 4294967296 % 2 ^ (gp k).toNat := by
    rw [Int.natCast_emod, g, f_addr h]
  have m2 : ((((Ks153.of v.toNat).address + n.toNat) % Ks153.grainOf k.toNat : Nat) : Int) = (v % 4294967296 + n) % 2 ^ (gp k).toNat := by
    rw [Int.natCast_emod, Int.natCast_add, g, f_addr h, Int.toNat_of_nonneg n0]
  have jj : (!(just.toNat != 0) || Ks153.just (Ks153.of v.toNat).address n.toNat k.toNat) = true ↔ (just = 0 ∨ (v % 4294967296 % 2 ^ (gp k).toNat = 0 ∧ (v % 4294967296 + n) % 2 ^ (gp k).toNat = 0)) := by
    unfold Ks153.just
    rw [Bool.or_eq_true, Bool.and_eq_true, beq_iff_eq, beq_iff_eq, ← m1, ← m2]
    have e : (!(just.toNat != 0)) = true ↔ just = 0 := by
      rw [Bool.not_eq_true', bne_eq_false_iff_eq]
      omega
    rw [e]
    omega
  have bb := (beg_in h).2
  have fa := f_addr h
  rw [Bool.and_eq_true, Bool.and_eq_true, Bool.and_eq_true, good_iff g0 g1, sl_iff h, covers_iff, jj]
  constructor
  · rintro ⟨⟨⟨h1, h2⟩, h3, h4⟩, h5⟩
    exact ⟨h1, h2, by omega, h5⟩
  · rintro ⟨h1, h2, h3, h4⟩
    exact ⟨⟨⟨h1, h2⟩, by omega, by omega⟩, h4⟩
end Eb
namespace Eb
open PySem PySem.W PySem.Calls PyProof.Rows
/- Steps of the walk over whole numbers: masks, shifts, quotients as plain arithmetic. -/
section
variable {prog : Program} {w : World} {A : Around} {E : Value → Shared → Prop} {s : Shared} {x y : Int} {t u : Tok} {Q : Value → Shared → Prop}
theorem step_mask (k : Nat) (M N : Int) (hM : M = 2 ^ k - 1) (hN : N = 2 ^ k) (h : Q (.int (x % N) s.toks) { s with toks := s.toks + 1 }) :
    wpAny (model prog w) A (binaryOp .BitAnd (.int x t) (.int M u)) Q E s := by
  refine PyProof.Rows.and_int ?_
  rw [hM, kbt_mask x k, ← hN]
  exact h
theorem step_shr (k : Nat) (M N : Int) (hM : M = (k : Int)) (hN : N = 2 ^ k) (h : Q (.int (x / N) s.toks) { s with toks := s.toks + 1 }) :
    wpAny (model prog w) A (binaryOp .RShift (.int x t) (.int M u)) Q E s := by
  refine PyProof.Rows.rshift_int (by omega) ?_
  have e : M.toNat = k := by omega
  have p : (0 : Int) ≤ 2 ^ k := Int.le_of_lt (kbt_pos k)
  rw [e, Int.fdiv_eq_ediv_of_nonneg x p, ← hN]
  exact h
theorem step_shl (k : Nat) (M N : Int) (hM : M = (k : Int)) (hk : k ≤ 100) (hN : N = 2 ^ k) (h0 : 0 ≤ x) (h1 : x < 18446744073709551616) (h : Q (.int (x * N) s.toks) { s with toks := s.toks + 1 }) :
    wpAny (model prog w) A (binaryOp .LShift (.int x t) (.int M u)) Q E s := by
  refine PyProof.Rows.lshift_int_small (by omega) (by omega) (by omega) ?_
  have e : M.toNat = k := by omega
  rw [e, ← hN]
  exact h
theorem pow_lo (n : Nat) : (1 : Int) ≤ 2 ^ n := kbt_pos n
theorem pow_hi {n m : Nat} (h : n ≤ m) : (2 : Int) ^ n ≤ 2 ^ m := by
  rw [← kbt_cast, ← kbt_cast]
  exact Int.ofNat_le.mpr (Nat.pow_le_pow_right (by decide) h)
theorem step_pow (h0 : 0 ≤ y) (h1 : y ≤ 24) (h : (1 : Int) ≤ 2 ^ y.toNat → (2 : Int) ^ y.toNat ≤ 16777216 → Q (.int (2 ^ y.toNat) s.toks) { s with toks := s.toks + 1 }) :
    wpAny (model prog w) A (binaryOp .LShift (.int 1 t) (.int y u)) Q E s := by
  refine PyProof.Rows.lshift_int_small (by omega) (by omega) (by decide) ?_
  rw [Int.one_mul]
  exact h (pow_lo _) (pow_hi (m := 24) (by omega))
theorem step_div (hy : 0 < y) (hs : y < 18446744073709551616) (h : Q (.int (x / y) s.toks) { s with toks := s.toks + 1 }) :
    wpAny (model prog w) A (binaryOp .FloorDiv (.int x t) (.int y u)) Q E s := by
  refine PyProof.Rows.floordiv_int (by omega) ?_ (Or.inl (PyProof.noPylong_of_log2 ?_))
  · rw [Int.fdiv_eq_ediv_of_nonneg x (by omega)]
    exact h
  · have h0 : y.natAbs ≠ 0 := by omega
    have h64 : y.natAbs.log2 < 64 := (Nat.log2_lt h0).mpr (by omega)
    omega
theorem step_mod (hy : 0 < y) (h : 0 ≤ x % y → x % y < y → Q (.int (x % y) s.toks) { s with toks := s.toks + 1 }) :
    wpAny (model prog w) A (binaryOp .Mod (.int x t) (.int y u)) Q E s := by
  refine PyProof.Rows.mod_int (by omega) ?_
  rw [Int.fmod_eq_emod_of_nonneg x (by omega)]
  exact h (Int.emod_nonneg _ (by omega)) (Int.emod_lt_of_pos _ hy)
theorem step_mulR (lo : -18446744073709551616 < y) (hi : y < 18446744073709551616) (h : Q (.int (x * y) s.toks) { s with toks := s.toks + 1 }) :
    wpAny (model prog w) A (binaryOp .Mult (.int x t) (.int y u)) Q E s :=
  PyProof.Rows.mul_int h (PySem.IntMulOk.of_right (PySem.intBits_le_64 (by omega) (by omega)))
theorem step_mulL (lo : -18446744073709551616 < x) (hi : x < 18446744073709551616) (h : Q (.int (x * y) s.toks) { s with toks := s.toks + 1 }) :
    wpAny (model prog w) A (binaryOp .Mult (.int x t) (.int y u)) Q E s :=
  PyProof.Rows.mul_int h (PySem.IntMulOk.of_left (PySem.intBits_le_64 (by omega) (by omega)))
theorem step_andb (h0 : 0 ≤ x) (h1 : 0 ≤ y) (h : 0 ≤ Builtin.bitAnd x y → Builtin.bitAnd x y ≤ x → Builtin.bitAnd x y ≤ y → Q (.int (Builtin.bitAnd x y) s.toks) { s with toks := s.toks + 1 }) :
    wpAny (model prog w) A (binaryOp .BitAnd (.int x t) (.int y u)) Q E s := by
  refine PyProof.Rows.and_int ?_
  have e := PyProof.Rows.bitAnd_pp h0 h1
  have a := @Nat.and_le_left x.toNat y.toNat
  have b := @Nat.and_le_right x.toNat y.toNat
  exact h (by omega) (by omega) (by omega)
theorem step_beg {v : Int} (h0 : 0 ≤ v) (h : -4294967296 < Eb.beg v → Eb.beg v ≤ v % 4294967296 → Q (.int (Eb.beg v) s.toks) { s with toks := s.toks + 1 }) :
    wpAny (model prog w) A (binaryOp .Add (.int ((v % 4294967296 - v / 1099511627776 % 256 * 2 ^ (gp (v / 281474976710656 % 16)).toNat) / (256 * 2 ^ (gp (v / 281474976710656 % 16)).toNat) * (256 * 2 ^ (gp (v / 281474976710656 % 16)).toNat)) t) (.int (v / 1099511627776 % 256 * 2 ^ (gp (v / 281474976710656 % 16)).toNat) u)) Q E s := by
  refine PyProof.Rows.add_int ?_
  rw [Eb.beg_val h0]
  exact h (Eb.beg_in h0).1 (Eb.beg_in h0).2
theorem step_len {v : Int} (h0 : 0 ≤ v) (h : 0 ≤ Eb.len v → Eb.len v ≤ 4278190080 → Q (.int (Eb.len v) s.toks) { s with toks := s.toks + 1 }) :
    wpAny (model prog w) A (binaryOp .Mult (.int ((v / 4294967296 % 256 - v / 1099511627776 % 256) % 256) t) (.int (2 ^ (gp (v / 281474976710656 % 16)).toNat) u)) Q E s := by
  refine step_mulL (by omega) (by omega) ?_
  rw [← Eb.len_eq h0]
  exact h (Eb.len_in h0).1 (Eb.len_in h0).2
end
/- Bits. -/
theorem or_pp {x y : Int} (hx : 0 ≤ x) (hy : 0 ≤ y) : Builtin.bitOr x y = ((x.toNat ||| y.toNat : Nat) : Int) := by
  rw [PyProof.Rows.bitOr_and, PyProof.Rows.bitAnd_pp hx hy]
  have e := PyProof.Rows.nat_or_add_and x.toNat y.toNat
  omega
theorem nat_or_high (k a b : Nat) (h : b < 2 ^ k) : a * 2 ^ k ||| b = a * 2 ^ k + b := by
  rw [Nat.mul_comm, Nat.two_pow_add_eq_or_of_lt h]
theorem or_high (k : Nat) (a b N : Int) (hN : N = 2 ^ k) (ha : 0 ≤ a) (hb : 0 ≤ b) (h : b < N) : Builtin.bitOr (a * N) b = a * N + b := by
  have p : (0 : Int) < N := by rw [hN]; exact kbt_pos k
  have q : 0 ≤ a * N := Int.mul_nonneg ha (Int.le_of_lt p)
  have c : ((2 ^ k : Nat) : Int) = N := by rw [hN, kbt_cast]
  have e1 : (a * N).toNat = a.toNat * 2 ^ k := by
    have : ((a.toNat * 2 ^ k : Nat) : Int) = a * N := by
      rw [Int.natCast_mul, c, Int.toNat_of_nonneg ha]
    omega
  rw [or_pp q hb, e1, nat_or_high k _ _ (by omega), ← e1]
  omega
theorem or_low (k : Nat) (a b N : Int) (hN : N = 2 ^ k) (ha : 0 ≤ a) (hb : 0 ≤ b) (h : b < N) : Builtin.bitOr b (a * N) = b + a * N := by
  rw [PyProof.Rows.bitOr_comm, or_high k a b N hN ha hb h]
  omega
/- The request. -/
theorem dec_cons {c : Codec} {cs : List Codec} {d : WData} {ds : List WData} (h : (Codec.decAll (c :: cs) (d :: ds)).isSome = true) :
    (Codec.decAll [c] [d]).isSome = true ∧ (Codec.decAll cs ds).isSome = true := by
  have e : Codec.decAll (c :: cs) (d :: ds) = Codec.both Prod.mk (c.dec d) (Codec.decAll cs ds) := rfl
  have e1 : Codec.decAll [c] [d] = Codec.both Prod.mk (c.dec d) (some ()) := rfl
  rw [e] at h
  rw [e1]
  cases h1 : c.dec d with
  | none =>
    rw [h1] at h
    cases h
  | some a =>
    cases h2 : Codec.decAll cs ds with
    | none =>
      rw [h1, h2] at h
      cases h
    | some r => exact ⟨rfl, rfl⟩
theorem dec_join {c : Codec} {cs : List Codec} {d : WData} {ds : List WData} {a : c.denote} {r : Codec.denoteAll cs} (h1 : Codec.decAll [c] [d] = some (a, ())) (h2 : Codec.decAll cs ds = some r) :
    Codec.decAll (c :: cs) (d :: ds) = some (a, r) := by
  have e : Codec.decAll (c :: cs) (d :: ds) = Codec.both Prod.mk (c.dec d) (Codec.decAll cs ds) := rfl
  have e1 : Codec.decAll [c] [d] = Codec.both Prod.mk (c.dec d) (some ()) := rfl
  rw [e1] at h1
  rw [e, h2]
  cases h3 : c.dec d with
  | none =>
    rw [h3] at h1
    cases h1
  | some b =>
    rw [h3] at h1
    cases h1
    rfl
theorem dec_int {lo hi k : Int} (h : (Codec.decAll [.int lo hi] [WData.int k]).isSome = true) : Codec.decAll [.int lo hi] [WData.int k] = some (k, ()) ∧ lo ≤ k ∧ k ≤ hi := by
  have e : Codec.decAll [.int lo hi] [WData.int k] = Codec.both Prod.mk (if Codec.inInt lo hi k = true then some k else none) (some ()) := rfl
  rw [e] at h ⊢
  cases h1 : Codec.inInt lo hi k with
  | false =>
    rw [h1] at h
    cases h
  | true =>
    unfold Codec.inInt at h1
    simp only [Bool.and_eq_true, decide_eq_true_eq] at h1
    exact ⟨rfl, h1.1, h1.2⟩
theorem dec2 {a b c d x y : Int} (h : (Codec.decAll [.int a b, .int c d] [WData.int x, WData.int y]).isSome = true) :
    Codec.decAll [.int a b, .int c d] [WData.int x, WData.int y] = some (x, y, ()) ∧ (a ≤ x ∧ x ≤ b) ∧ (c ≤ y ∧ y ≤ d) := by
  obtain ⟨h1, h2⟩ := dec_cons h
  exact ⟨dec_join (dec_int h1).1 (dec_int h2).1, (dec_int h1).2, (dec_int h2).2⟩
theorem dec3 {a b c d e f x y z : Int} (h : (Codec.decAll [.int a b, .int c d, .int e f] [WData.int x, WData.int y, WData.int z]).isSome = true) :
    Codec.decAll [.int a b, .int c d, .int e f] [WData.int x, WData.int y, WData.int z] = some (x, y, z, ()) ∧ (a ≤ x ∧ x ≤ b) ∧ (c ≤ y ∧ y ≤ d) ∧ (e ≤ z ∧ z ≤ f) := by
  obtain ⟨h1, h2⟩ := dec_cons h
  exact ⟨dec_join (dec_int h1).1 (dec2 h2).1, (dec_int h1).2, (dec2 h2).2⟩
theorem dec4 {a b c d e f g i x y z r : Int} (h : (Codec.decAll [.int a b, .int c d, .int e f, .int g i] [WData.int x, WData.int y, WData.int z, WData.int r]).isSome = true) :
    Codec.decAll [.int a b, .int c d, .int e f, .int g i] [WData.int x, WData.int y, WData.int z, WData.int r] = some (x, y, z, r, ()) ∧ (a ≤ x ∧ x ≤ b) ∧ (c ≤ y ∧ y ≤ d) ∧ (e ≤ z ∧ z ≤ f) ∧ (g ≤ r ∧ r ≤ i) := by
  obtain ⟨h1, h2⟩ := dec_cons h
  exact ⟨dec_join (dec_int h1).1 (dec3 h2).1, (dec_int h1).2, (dec3 h2).2⟩
theorem dec5 {a b c d e f g i j l x y z r q : Int} (h : (Codec.decAll [.int a b, .int c d, .int e f, .int g i, .int j l] [WData.int x, WData.int y, WData.int z, WData.int r, WData.int q]).isSome = true) :
    Codec.decAll [.int a b, .int c d, .int e f, .int g i, .int j l] [WData.int x, WData.int y, WData.int z, WData.int r, WData.int q] = some (x, y, z, r, q, ()) ∧ (a ≤ x ∧ x ≤ b) ∧ (c ≤ y ∧ y ≤ d) ∧ (e ≤ z ∧ z ≤ f) ∧ (g ≤ r ∧ r ≤ i) ∧ (j ≤ q ∧ q ≤ l) := by
  obtain ⟨h1, h2⟩ := dec_cons h
  exact ⟨dec_join (dec_int h1).1 (dec4 h2).1, (dec_int h1).2, (dec4 h2).2⟩
theorem same_ds {ds : List PyData} {k : List Int} (h : ds = k.map PyData.int) : same (ofPy (PyData.list ds)) (WData.list (k.map WData.int)) = true := PySem.W.same_iff.mpr (PySem.W.os_list h)
theorem same_list {l k : List Int} (h : l = k) : same (WData.list (ofPys (l.map PyData.int))) (WData.list (k.map WData.int)) = true := by
  subst h
  rw [ofPys_ints]
  exact same_self _
end Eb
namespace Eb
open PySem PySem.W PySem.Calls PyProof.Rows
/- A field taken out of a number, and another laid in its place. -/
theorem nat_field (n b k : Nat) : n &&& b * 2 ^ k = (n / 2 ^ k &&& b) * 2 ^ k := by
  rw [← Nat.shiftLeft_eq, ← Nat.shiftLeft_eq, ← Nat.shiftRight_eq_div_pow]
  apply Nat.eq_of_testBit_eq
  intro i
  rw [Nat.testBit_and, Nat.testBit_shiftLeft, Nat.testBit_shiftLeft, Nat.testBit_and, Nat.testBit_shiftRight]
  by_cases h : k ≤ i
  · have e : k + (i - k) = i := by omega
    rw [e]
    simp [h]
  · simp [h]
theorem nat_clear {n M B : Nat} (h1 : M ||| B = 18446744073709551615) (h2 : M &&& B = 0) (hn : n < 18446744073709551616) : (n &&& M) + (n &&& B) = n := by
  have e := PyProof.Rows.nat_or_add_and (n &&& M) (n &&& B)
  have a : (n &&& M) &&& (n &&& B) = 0 := by
    rw [Nat.and_comm n B, ← Nat.and_assoc, Nat.and_assoc n M B, h2, Nat.and_zero, Nat.zero_and]
  have o : (n &&& M) ||| (n &&& B) = n := by
    rw [← Nat.and_or_distrib_left, h1]
    have q := Nat.and_two_pow_sub_one_eq_mod n 64
    have r : (2 : Nat) ^ 64 - 1 = 18446744073709551615 := by decide
    rw [r] at q
    rw [q]
    exact Nat.mod_eq_of_lt hn
  omega
/-- N = 2^k, W = 2^w, b = W - 1; M is every bit but these -/
structure Part (k w M b : Nat) (N W : Int) : Prop where
  or : M ||| b * 2 ^ k = 18446744073709551615
  and : M &&& b * 2 ^ k = 0
  eb : b = 2 ^ w - 1
  hN : N = ((2 ^ k : Nat) : Int)
  hW : W = ((2 ^ w : Nat) : Int)
  xor : (M : Int) = Builtin.bitXor 18446744073709551615 (b * N)
theorem Part.nat {k w M b : Nat} {N W : Int} (p : Part k w M b N W) {n : Nat} (hn : n < 18446744073709551616) : (n &&& M) + n / 2 ^ k % 2 ^ w * 2 ^ k = n := by
  have e := nat_clear p.or p.and hn
  rw [nat_field, p.eb, Nat.and_two_pow_sub_one_eq_mod] at e
  exact e
theorem Part.int {k w M b : Nat} {N W : Int} (p : Part k w M b N W) {x : Int} (h0 : 0 ≤ x) (h1 : x ≤ 18446744073709551615) : ((x.toNat &&& M : Nat) : Int) = x - x / N % W * N := by
  have e := p.nat (n := x.toNat) (by omega)
  have c : ((x.toNat / 2 ^ k % 2 ^ w * 2 ^ k : Nat) : Int) = x / N % W * N := by
    rw [Int.natCast_mul, Int.natCast_emod, Int.natCast_ediv, ← p.hN, ← p.hW, Int.toNat_of_nonneg h0]
  omega
theorem Part.put {k w M b : Nat} {N W : Int} (p : Part k w M b N W) {x q : Int} (h0 : 0 ≤ x) (h1 : x ≤ 18446744073709551615) (q0 : 0 ≤ q) (q1 : q < W) :
    Builtin.bitOr (x - x / N % W * N) (q * N) = x - x / N % W * N + q * N := by
  rw [← p.int h0 h1]
  have pw : 0 < 2 ^ k := Nat.pow_pos (by decide)
  have n0 : (0 : Int) < N := by rw [p.hN]; exact Int.ofNat_lt.mpr pw
  have m0 : 0 ≤ q * N := Int.mul_nonneg q0 (Int.le_of_lt n0)
  have e : (q * N).toNat = q.toNat * 2 ^ k := by
    have : ((q.toNat * 2 ^ k : Nat) : Int) = q * N := by
      rw [Int.natCast_mul, ← p.hN, Int.toNat_of_nonneg q0]
    omega
  have qb : q.toNat &&& b = q.toNat := by
    rw [p.eb, Nat.and_two_pow_sub_one_eq_mod]
    have := p.hW
    exact Nat.mod_eq_of_lt (by omega)
  have z : (x.toNat &&& M) &&& (q.toNat * 2 ^ k) = 0 := by
    rw [← qb]
    have f : (q.toNat &&& b) * 2 ^ k = (q.toNat * 2 ^ k) &&& (b * 2 ^ k) := by
      rw [nat_field, Nat.mul_div_cancel _ pw]
    rw [f, Nat.and_comm (q.toNat * 2 ^ k), ← Nat.and_assoc, Nat.and_assoc x.toNat M, p.and, Nat.and_zero, Nat.zero_and]
  rw [PyProof.Rows.bitOr_and, PyProof.Rows.bitAnd_pp (Int.natCast_nonneg _) m0, e, Int.toNat_natCast, z]
  omega
theorem part32 : Part 32 8 18446742978492891135 255 4294967296 256 := ⟨by decide +kernel, by decide +kernel, by decide, by decide, by decide, by decide +kernel⟩
theorem part40 : Part 40 8 18446463698244468735 255 1099511627776 256 := ⟨by decide +kernel, by decide +kernel, by decide, by decide, by decide, by decide +kernel⟩
theorem part48 : Part 48 4 18442521949058891775 15 281474976710656 16 := ⟨by decide +kernel, by decide +kernel, by decide, by decide, by decide, by decide +kernel⟩
theorem part52 : Part 52 3 18415218876317958143 7 4503599627370496 8 := ⟨by decide +kernel, by decide +kernel, by decide, by decide, by decide, by decide +kernel⟩
theorem part55 : Part 55 9 36028797018963967 511 36028797018963968 512 := ⟨by decide +kernel, by decide +kernel, by decide, by decide, by decide, by decide +kernel⟩
theorem part0 : Part 0 32 18446744069414584320 4294967295 1 4294967296 := ⟨by decide +kernel, by decide +kernel, by decide, by decide, by decide, by decide +kernel⟩
section
variable {prog : Program} {w : World} {A : Around} {E : Value → Shared → Prop} {s : Shared} {x y : Int} {t u : Tok} {Q : Value → Shared → Prop}
theorem step_shl0 (h1 : -18446744073709551616 < x) (h2 : x < 18446744073709551616) (h : Q (.int x s.toks) { s with toks := s.toks + 1 }) :
    wpAny (model prog w) A (binaryOp .LShift (.int x t) (.int 0 u)) Q E s := by
  refine PyProof.Rows.lshift_int_small (by decide) (by decide) (by omega) ?_
  have e : x * 2 ^ (0 : Int).toNat = x := by
    show x * 1 = x
    omega
  rw [e]
  exact h
theorem step_clear {k w' M b : Nat} {N W B : Int} (p : Part k w' M b N W) (hB : B = b) (h0 : 0 ≤ x) (h1 : x ≤ 18446744073709551615) (h : Q (.int (x - x / N % W * N) s.toks) { s with toks := s.toks + 1 }) :
    wpAny (model prog w) A (binaryOp .BitAnd (.int x t) (.int (Builtin.bitXor 18446744073709551615 (B * N)) u)) Q E s := by
  refine PyProof.Rows.and_int ?_
  rw [hB, ← p.xor, PyProof.Rows.bitAnd_pp h0 (Int.natCast_nonneg _), Int.toNat_natCast, p.int h0 h1]
  exact h
theorem step_put {k w' M b : Nat} {N W : Int} (p : Part k w' M b N W) (h0 : 0 ≤ x) (h1 : x ≤ 18446744073709551615) (q0 : 0 ≤ y) (q1 : y < W) (h : Q (.int (x - x / N % W * N + y * N) s.toks) { s with toks := s.toks + 1 }) :
    wpAny (model prog w) A (binaryOp .BitOr (.int (x - x / N % W * N) t) (.int (y * N) u)) Q E s := by
  refine PyProof.Rows.or_int ?_
  rw [p.put h0 h1 q0 q1]
  exact h
theorem step_clear0 (h0 : 0 ≤ x) (h1 : x ≤ 18446744073709551615) (h : Q (.int (x - x % 4294967296) s.toks) { s with toks := s.toks + 1 }) :
    wpAny (model prog w) A (binaryOp .BitAnd (.int x t) (.int (Builtin.bitXor 18446744073709551615 4294967295) u)) Q E s := by
  refine PyProof.Rows.and_int ?_
  have a := part0.xor
  have c : Builtin.bitXor 18446744073709551615 4294967295 = ((18446744069414584320 : Nat) : Int) := a.symm
  have d := part0.int h0 h1
  have e : x - x / 1 % 4294967296 * 1 = x - x % 4294967296 := by omega
  rw [c, PyProof.Rows.bitAnd_pp h0 (Int.natCast_nonneg _), Int.toNat_natCast, d, e]
  exact h
theorem step_put0 (h0 : 0 ≤ x) (h1 : x ≤ 18446744073709551615) (q0 : 0 ≤ y) (q1 : y < 4294967296) (h : Q (.int (x - x % 4294967296 + y) s.toks) { s with toks := s.toks + 1 }) :
    wpAny (model prog w) A (binaryOp .BitOr (.int (x - x % 4294967296) t) (.int y u)) Q E s := by
  refine PyProof.Rows.or_int ?_
  have d := part0.put h0 h1 q0 q1
  have e : x - x / 1 % 4294967296 * 1 = x - x % 4294967296 := by omega
  rw [e, Int.mul_one] at d
  rw [d]
  exact h
theorem step_mask9 (h : Q (.int (x % 512) s.toks) { s with toks := s.toks + 1 }) :
    wpAny (model prog w) A (binaryOp .BitAnd (.int (x % 512) t) (.int 511 u)) Q E s := by
  refine step_mask 9 511 512 (by decide) (by decide) ?_
  have e : x % 512 % 512 = x % 512 := by omega
  rw [e]
  exact h
theorem step_mask256 (h : Q (.int 256 s.toks) { s with toks := s.toks + 1 }) :
    wpAny (model prog w) A (binaryOp .BitAnd (.int 256 t) (.int 511 u)) Q E s := by
  refine step_mask 9 511 512 (by decide) (by decide) ?_
  exact h
end
theorem and256 {y : Int} : Builtin.bitAnd (y / 36028797018963968 % 512) 256 = 256 ↔ 256 ≤ y / 36028797018963968 % 512 := by
  rw [PyProof.Rows.bitAnd_pp (by omega) (by decide)]
  have k : (y / 36028797018963968 % 512).toNat &&& 2 ^ 8 = (y / 36028797018963968 % 512).toNat / 2 ^ 8 % 2 * 2 ^ 8 := PySem.W.kbt_nat 8 _
  have e : (256 : Int).toNat = 2 ^ 8 := by decide
  rw [e, k]
  omega
end Eb
namespace Eb
open PySem PySem.W PySem.Calls PyProof.Rows
/- room, as it is searched from 0 on -/
theorem fitR_of {n k : Int} (hn : 0 ≤ n) (hk : 0 ≤ k) : fitR n k.toNat ↔ (n + 2 ^ (gp k).toNat - 1) / 2 ^ (gp k).toNat - 0 / 2 ^ (gp k).toNat ≤ 255 := by
  rw [fitR_iff hn hk, Int.zero_ediv, Int.sub_zero]
theorem fitR_most {n k : Int} (h0 : 0 ≤ n) (hk : 0 ≤ k) (hk2 : k ≤ 15) (hf : fitR n k.toNat) : n ≤ 4278190080 := by
  rw [fitR_iff h0 hk] at hf
  have a := gp_hi hk2
  have b := gp_lo hk
  have g1 := pw_lo (gp k).toNat
  have g2 : (2 : Int) ^ (gp k).toNat ≤ 16777216 := pw_hi (m := 24) (by omega)
  have m := Int.mul_ediv_add_emod (n + 2 ^ (gp k).toNat - 1) (2 ^ (gp k).toNat)
  have m2 := Int.emod_lt_of_pos (n + 2 ^ (gp k).toNat - 1) (b := 2 ^ (gp k).toNat) (by omega)
  have c := Int.mul_le_mul_of_nonneg_left hf (show 0 ≤ (2 : Int) ^ (gp k).toNat by omega)
  omega
theorem room_none {n : Int} {pre : List Int} (h1 : 0 ≤ n) (hn : NoFit (fitR n) pre) (hl : 15 < pre.length) : PyKs153.room n = [-22] := by
  refine room_bad h1 ?_
  by_cases c : 4278190080 < n
  · exact Or.inr c
  · exact (room_all h1 (by omega) hn hl).elim
end Eb
namespace Eb
open PySem
/- may_change, its ways met -/
theorem mch_t {g a : Int} (h : (if g = 1 then a == 0 else g == 1) = true) : g = 1 ∧ a = 0 := by
  by_cases c : g = 1
  · rw [if_pos c] at h
    exact ⟨c, eq_of_beq h⟩
  · rw [if_neg c] at h
    exact (c (eq_of_beq h)).elim
theorem mch_f {g a : Int} (h : (if g = 1 then a == 0 else g == 1) = false) : ¬ (g = 1 ∧ a = 0) := by
  rintro ⟨h1, h2⟩
  subst h1 h2
  exact absurd h (by decide)
theorem and256_of {y : Int} (_ : 0 ≤ y) : Builtin.bitAnd (y / 36028797018963968 % 512) 256 = 256 ↔ 256 ≤ y / 36028797018963968 % 512 := and256
theorem two_eq {a b c d : Int} (h1 : a = c) (h2 : b = d) : [PySem.PyData.int a, PySem.PyData.int b] = List.map PySem.PyData.int [c, d] := by
  subst h1 h2
  rfl
end Eb
namespace Eb
open PySem PySem.W PySem.Calls PyProof.Rows
/- What is known of a reference ahead of the walk; steps that ask it and hand on nothing else. -/
theorem known {v : Int} (h : 0 ≤ v) : ((1 : Int) ≤ 2 ^ (gp (v / 281474976710656 % 16)).toNat ∧ (2 : Int) ^ (gp (v / 281474976710656 % 16)).toNat ≤ 16777216) ∧ (-4294967296 < beg v ∧ beg v ≤ v % 4294967296) ∧ (0 ≤ len v ∧ len v ≤ 4278190080) :=
  ⟨⟨pw_lo _, grain_hi⟩, beg_in h, len_in h⟩
section
variable {prog : Program} {w : World} {A : Around} {E : Value → Shared → Prop} {s : Shared} {x y : Int} {t u : Tok} {Q : Value → Shared → Prop}
theorem step_powA (_ : (2 : Int) ^ y.toNat ≤ 16777216) (h0 : 0 ≤ y) (h1 : y ≤ 24) (h : Q (.int (2 ^ y.toNat) s.toks) { s with toks := s.toks + 1 }) :
    wpAny (model prog w) A (binaryOp .LShift (.int 1 t) (.int y u)) Q E s := step_pow h0 h1 (fun _ _ => h)
theorem step_begA {v : Int} (_ : -4294967296 < Eb.beg v) (h0 : 0 ≤ v) (h : Q (.int (Eb.beg v) s.toks) { s with toks := s.toks + 1 }) :
    wpAny (model prog w) A (binaryOp .Add (.int ((v % 4294967296 - v / 1099511627776 % 256 * 2 ^ (gp (v / 281474976710656 % 16)).toNat) / (256 * 2 ^ (gp (v / 281474976710656 % 16)).toNat) * (256 * 2 ^ (gp (v / 281474976710656 % 16)).toNat)) t) (.int (v / 1099511627776 % 256 * 2 ^ (gp (v / 281474976710656 % 16)).toNat) u)) Q E s := step_beg h0 (fun _ _ => h)
theorem step_lenA {v : Int} (_ : Eb.len v ≤ 4278190080) (h0 : 0 ≤ v) (h : Q (.int (Eb.len v) s.toks) { s with toks := s.toks + 1 }) :
    wpAny (model prog w) A (binaryOp .Mult (.int ((v / 4294967296 % 256 - v / 1099511627776 % 256) % 256) t) (.int (2 ^ (gp (v / 281474976710656 % 16)).toNat) u)) Q E s := step_len h0 (fun _ _ => h)
theorem step_mod256 (h : Q (.int (x % 256) s.toks) { s with toks := s.toks + 1 }) :
    wpAny (model prog w) A (binaryOp .Mod (.int x t) (.int 256 u)) Q E s := step_mod (by decide) (fun _ _ => h)
end
end Eb
namespace Eb
open PySem PySem.W PySem.Calls PyProof.Rows
/- bound: the ways that cannot be; its marks; nothing rounded. -/
theorem eq_no {x y : Int} {P Q : Prop} (h : x ≠ y) (hq : Q) : if (x == y) = true then P else Q := by
  rw [if_neg (by rw [beq_iff_eq]; exact h)]
  exact hq
theorem eq_yes {x y : Int} {P Q : Prop} (h : x = y) (hp : P) : if (x == y) = true then P else Q := by
  rw [if_pos (by rw [beq_iff_eq]; exact h)]
  exact hp
theorem ne_no {x y : Int} {P Q : Prop} (h : x = y) (hq : Q) : if (x != y) = true then P else Q := by
  rw [if_neg (by rw [bne_iff_ne]; exact fun c => c h)]
  exact hq
theorem ne_yes {x y : Int} {P Q : Prop} (h : x ≠ y) (hp : P) : if (x != y) = true then P else Q := by
  rw [if_pos (by rw [bne_iff_ne]; exact h)]
  exact hp
theorem exact1 {a g : Int} (hg : 0 < g) : a / g * g = a ↔ a % g = 0 := by
  have m := Int.mul_ediv_add_emod a g
  rw [Int.mul_comm] at m
  omega
theorem exact2 {e g : Int} (hg : 0 < g) : (e + g - 1) / g * g = e ↔ e % g = 0 := by
  have m := Int.mul_ediv_add_emod (e + g - 1) g
  have m1 := Int.emod_nonneg (e + g - 1) (b := g) (by omega)
  have m2 := Int.emod_lt_of_pos (e + g - 1) hg
  rw [Int.mul_comm] at m
  constructor
  · intro h
    rw [← h, Int.mul_emod_left]
  · intro h
    have n := Int.mul_ediv_add_emod e g
    rw [h, Int.add_zero, Int.mul_comm] at n
    have d : (e + g - 1) / g = e / g := by
      have c : e + g - 1 = (g - 1) + (e / g) * g := by omega
      rw [c, Int.add_mul_ediv_right _ _ (by omega), Int.ediv_eq_zero_of_lt (by omega) (by omega)]
      omega
    rw [d]
    exact n
theorem put48 {v k : Int} (h : 0 ≤ v) (h2 : v ≤ 18446744073709551615) (k0 : 0 ≤ k) (k1 : k ≤ 15) :
    v - v / 281474976710656 % 16 * 281474976710656 + k * 281474976710656 = v % 281474976710656 + k * 281474976710656 + v / 4503599627370496 * 4503599627370496 := by
  omega
theorem stretch_val {v k f b : Int} (h : 0 ≤ v) (h2 : v ≤ 18446744073709551615) (k0 : 0 ≤ k) (k1 : k ≤ 15) (f0 : 0 ≤ f) (f1 : f < 256) (b0 : 0 ≤ b) (b1 : b < 256) {p l : Int}
    (hp : p = v - v / 281474976710656 % 16 * 281474976710656 + k * 281474976710656)
    (hl : l = p - p / 1099511627776 % 256 * 1099511627776 + f * 1099511627776) :
    l - l / 4294967296 % 256 * 4294967296 + b * 4294967296 = v % 4294967296 + 4294967296 * b + 1099511627776 * f + 281474976710656 * k + 4503599627370496 * (v / 4503599627370496 % 8) + 36028797018963968 * (v / 36028797018963968 % 512) := by
  rw [put48 h h2 k0 k1] at hp
  have p1 : p / 1099511627776 % 256 = v / 1099511627776 % 256 := by omega
  rw [p1] at hl
  have l1 : l / 4294967296 % 256 = v / 4294967296 % 256 := by omega
  rw [l1]
  omega
theorem exact1v {v g : Int} (_ : 0 ≤ v) (hg : 0 < g) : v % 4294967296 / g * g = v % 4294967296 ↔ v % 4294967296 % g = 0 := exact1 hg
theorem exact2v {v n g : Int} (_ : 0 ≤ v) (_ : 0 ≤ n) (hg : 0 < g) : (v % 4294967296 + n + g - 1) / g * g = v % 4294967296 + n ↔ (v % 4294967296 + n) % g = 0 := exact2 hg
end Eb
open PySem PySem.W PyProof.Rows
local macro_rules | `(tactic| walk_at "binaryOp BitAnd int int") => `(tactic| (k_here; (with_reducible refine' Eb.step_andb ?k1 ?k2 ?_); (case k1 => k_dflt omega); (case k2 => k_dflt omega); intro ha1 ha2 ha3))
local macro_rules | `(tactic| walk_at "binaryOp BitAnd int int") => `(tactic| (k_here; (with_reducible show wpAny _ _ (binaryOp Operator.BitAnd (Value.int _ _) (Value.int 4294967295 _)) _ _ _); k_dflt (refine Eb.step_mask 32 4294967295 4294967296 (by decide) (by decide) ?_)))
local macro_rules | `(tactic| walk_at "binaryOp BitAnd int int") => `(tactic| (k_here; (with_reducible show wpAny _ _ (binaryOp Operator.BitAnd (Value.int _ _) (Value.int 255 _)) _ _ _); k_dflt (refine Eb.step_mask 8 255 256 (by decide) (by decide) ?_)))
local macro_rules | `(tactic| walk_at "binaryOp BitAnd int int") => `(tactic| (k_here; (with_reducible show wpAny _ _ (binaryOp Operator.BitAnd (Value.int _ _) (Value.int 15 _)) _ _ _); k_dflt (refine Eb.step_mask 4 15 16 (by decide) (by decide) ?_)))
local macro_rules | `(tactic| walk_at "binaryOp BitAnd int int") => `(tactic| (k_here; (with_reducible show wpAny _ _ (binaryOp Operator.BitAnd (Value.int _ _) (Value.int 7 _)) _ _ _); k_dflt (refine Eb.step_mask 3 7 8 (by decide) (by decide) ?_)))
local macro_rules | `(tactic| walk_at "binaryOp BitAnd int int") => `(tactic| (k_here; (with_reducible show wpAny _ _ (binaryOp Operator.BitAnd (Value.int _ _) (Value.int 511 _)) _ _ _); k_dflt (refine Eb.step_mask 9 511 512 (by decide) (by decide) ?_)))
local macro_rules | `(tactic| walk_at "binaryOp RShift int int") => `(tactic| (k_here; (with_reducible show wpAny _ _ (binaryOp Operator.RShift (Value.int _ _) (Value.int 32 _)) _ _ _); k_dflt (refine Eb.step_shr 32 32 4294967296 (by decide) (by decide) ?_)))
local macro_rules | `(tactic| walk_at "binaryOp RShift int int") => `(tactic| (k_here; (with_reducible show wpAny _ _ (binaryOp Operator.RShift (Value.int _ _) (Value.int 40 _)) _ _ _); k_dflt (refine Eb.step_shr 40 40 1099511627776 (by decide) (by decide) ?_)))
local macro_rules | `(tactic| walk_at "binaryOp RShift int int") => `(tactic| (k_here; (with_reducible show wpAny _ _ (binaryOp Operator.RShift (Value.int _ _) (Value.int 48 _)) _ _ _); k_dflt (refine Eb.step_shr 48 48 281474976710656 (by decide) (by decide) ?_)))
local macro_rules | `(tactic| walk_at "binaryOp RShift int int") => `(tactic| (k_here; (with_reducible show wpAny _ _ (binaryOp Operator.RShift (Value.int _ _) (Value.int 52 _)) _ _ _); k_dflt (refine Eb.step_shr 52 52 4503599627370496 (by decide) (by decide) ?_)))
local macro_rules | `(tactic| walk_at "binaryOp RShift int int") => `(tactic| (k_here; (with_reducible show wpAny _ _ (binaryOp Operator.RShift (Value.int _ _) (Value.int 55 _)) _ _ _); k_dflt (refine Eb.step_shr 55 55 36028797018963968 (by decide) (by decide) ?_)))
local macro_rules | `(tactic| walk_at "binaryOp LShift int int") => `(tactic| (k_here; (with_reducible show wpAny _ _ (binaryOp Operator.LShift (Value.int _ _) (Value.int 32 _)) _ _ _); k_dflt (refine' Eb.step_shl 32 32 4294967296 (by decide) (by decide) (by decide) ?k1 ?k2 ?_; (case k1 => omega); (case k2 => omega))))
local macro_rules | `(tactic| walk_at "binaryOp LShift int int") => `(tactic| (k_here; (with_reducible show wpAny _ _ (binaryOp Operator.LShift (Value.int _ _) (Value.int 40 _)) _ _ _); k_dflt (refine' Eb.step_shl 40 40 1099511627776 (by decide) (by decide) (by decide) ?k1 ?k2 ?_; (case k1 => omega); (case k2 => omega))))
local macro_rules | `(tactic| walk_at "binaryOp LShift int int") => `(tactic| (k_here; (with_reducible show wpAny _ _ (binaryOp Operator.LShift (Value.int _ _) (Value.int 48 _)) _ _ _); k_dflt (refine' Eb.step_shl 48 48 281474976710656 (by decide) (by decide) (by decide) ?k1 ?k2 ?_; (case k1 => omega); (case k2 => omega))))
local macro_rules | `(tactic| walk_at "binaryOp LShift int int") => `(tactic| (k_here; (with_reducible show wpAny _ _ (binaryOp Operator.LShift (Value.int _ _) (Value.int 52 _)) _ _ _); k_dflt (refine' Eb.step_shl 52 52 4503599627370496 (by decide) (by decide) (by decide) ?k1 ?k2 ?_; (case k1 => omega); (case k2 => omega))))
local macro_rules | `(tactic| walk_at "binaryOp LShift int int") => `(tactic| (k_here; (with_reducible show wpAny _ _ (binaryOp Operator.LShift (Value.int _ _) (Value.int 55 _)) _ _ _); k_dflt (refine' Eb.step_shl 55 55 36028797018963968 (by decide) (by decide) (by decide) ?k1 ?k2 ?_; (case k1 => omega); (case k2 => omega))))
local macro_rules | `(tactic| walk_at "binaryOp LShift int int") => `(tactic| (k_here; (with_reducible show wpAny _ _ (binaryOp Operator.LShift (Value.int 1 _) (Value.int _ _)) _ _ _); k_dflt (refine' Eb.step_pow ?k1 ?k2 ?_; (case k1 => first | exact Eb.gp_lo (by omega) | omega); (case k2 => first | exact Eb.gp_hi (by omega) | omega)); intro hp1 hp2))
local macro_rules | `(tactic| walk_at "binaryOp FloorDiv int int") => `(tactic| (k_here; (with_reducible refine' Eb.step_div ?k1 ?k2 ?_); (case k1 => k_dflt omega); (case k2 => k_dflt omega)))
local macro_rules | `(tactic| walk_at "binaryOp Mod int int") => `(tactic| (k_here; (with_reducible refine' Eb.step_mod ?k1 ?_); (case k1 => k_dflt omega); intro hm1 hm2))
local macro_rules | `(tactic| walk_at "binaryOp Mult int int") => `(tactic| (k_here; (with_reducible refine' Eb.step_mulL ?k1 ?k2 ?_); (case k1 => k_dflt omega); (case k2 => k_dflt omega)))
local macro_rules | `(tactic| walk_at "binaryOp Mult int int") => `(tactic| (k_here; (with_reducible refine' Eb.step_mulR ?k1 ?k2 ?_); (case k1 => k_dflt omega); (case k2 => k_dflt omega)))
local macro_rules | `(tactic| walk_at "binaryOp Add int int") => `(tactic| (k_here; (with_reducible refine' Eb.step_beg ?k1 ?_); (case k1 => k_dflt omega); intro hg1 hg2))
local macro_rules | `(tactic| walk_at "binaryOp Mult int int") => `(tactic| (k_here; (with_reducible refine' Eb.step_len ?k1 ?_); (case k1 => k_dflt omega); intro hl1 hl2))
local macro_rules | `(tactic| walk_at "binaryOp LShift int int") => `(tactic| (k_here; (with_reducible show wpAny _ _ (binaryOp Operator.LShift (Value.int _ _) (Value.int 0 _)) _ _ _); k_dflt (refine' Eb.step_shl0 ?k1 ?k2 ?_; (case k1 => omega); (case k2 => omega))))
local macro_rules | `(tactic| walk_at "binaryOp BitAnd int int") => `(tactic| (k_here; (with_reducible show wpAny _ _ (binaryOp Operator.BitAnd (Value.int _ _) (Value.int (Builtin.bitXor 18446744073709551615 (255 * 4294967296)) _)) _ _ _); k_dflt (refine' Eb.step_clear Eb.part32 (by decide) ?k1 ?k2 ?_; (case k1 => omega); (case k2 => omega))))
local macro_rules | `(tactic| walk_at "binaryOp BitOr int int") => `(tactic| (k_here; (with_reducible refine' Eb.step_put Eb.part32 ?k1 ?k2 ?k3 ?k4 ?_); (case k1 => k_dflt omega); (case k2 => k_dflt omega); (case k3 => k_dflt omega); (case k4 => k_dflt omega)))
local macro_rules | `(tactic| walk_at "binaryOp BitAnd int int") => `(tactic| (k_here; (with_reducible show wpAny _ _ (binaryOp Operator.BitAnd (Value.int _ _) (Value.int (Builtin.bitXor 18446744073709551615 (255 * 1099511627776)) _)) _ _ _); k_dflt (refine' Eb.step_clear Eb.part40 (by decide) ?k1 ?k2 ?_; (case k1 => omega); (case k2 => omega))))
local macro_rules | `(tactic| walk_at "binaryOp BitOr int int") => `(tactic| (k_here; (with_reducible refine' Eb.step_put Eb.part40 ?k1 ?k2 ?k3 ?k4 ?_); (case k1 => k_dflt omega); (case k2 => k_dflt omega); (case k3 => k_dflt omega); (case k4 => k_dflt omega)))
local macro_rules | `(tactic| walk_at "binaryOp BitAnd int int") => `(tactic| (k_here; (with_reducible show wpAny _ _ (binaryOp Operator.BitAnd (Value.int _ _) (Value.int (Builtin.bitXor 18446744073709551615 (15 * 281474976710656)) _)) _ _ _); k_dflt (refine' Eb.step_clear Eb.part48 (by decide) ?k1 ?k2 ?_; (case k1 => omega); (case k2 => omega))))
local macro_rules | `(tactic| walk_at "binaryOp BitOr int int") => `(tactic| (k_here; (with_reducible refine' Eb.step_put Eb.part48 ?k1 ?k2 ?k3 ?k4 ?_); (case k1 => k_dflt omega); (case k2 => k_dflt omega); (case k3 => k_dflt omega); (case k4 => k_dflt omega)))
local macro_rules | `(tactic| walk_at "binaryOp BitAnd int int") => `(tactic| (k_here; (with_reducible show wpAny _ _ (binaryOp Operator.BitAnd (Value.int _ _) (Value.int (Builtin.bitXor 18446744073709551615 (7 * 4503599627370496)) _)) _ _ _); k_dflt (refine' Eb.step_clear Eb.part52 (by decide) ?k1 ?k2 ?_; (case k1 => omega); (case k2 => omega))))
local macro_rules | `(tactic| walk_at "binaryOp BitOr int int") => `(tactic| (k_here; (with_reducible refine' Eb.step_put Eb.part52 ?k1 ?k2 ?k3 ?k4 ?_); (case k1 => k_dflt omega); (case k2 => k_dflt omega); (case k3 => k_dflt omega); (case k4 => k_dflt omega)))
local macro_rules | `(tactic| walk_at "binaryOp BitAnd int int") => `(tactic| (k_here; (with_reducible show wpAny _ _ (binaryOp Operator.BitAnd (Value.int _ _) (Value.int (Builtin.bitXor 18446744073709551615 (511 * 36028797018963968)) _)) _ _ _); k_dflt (refine' Eb.step_clear Eb.part55 (by decide) ?k1 ?k2 ?_; (case k1 => omega); (case k2 => omega))))
local macro_rules | `(tactic| walk_at "binaryOp BitOr int int") => `(tactic| (k_here; (with_reducible refine' Eb.step_put Eb.part55 ?k1 ?k2 ?k3 ?k4 ?_); (case k1 => k_dflt omega); (case k2 => k_dflt omega); (case k3 => k_dflt omega); (case k4 => k_dflt omega)))
local macro_rules | `(tactic| walk_at "binaryOp BitAnd int int") => `(tactic| (k_here; (with_reducible show wpAny _ _ (binaryOp Operator.BitAnd (Value.int _ _) (Value.int (Builtin.bitXor 18446744073709551615 4294967295) _)) _ _ _); k_dflt (refine' Eb.step_clear0 ?k1 ?k2 ?_; (case k1 => omega); (case k2 => omega))))
local macro_rules | `(tactic| walk_at "binaryOp BitOr int int") => `(tactic| (k_here; (with_reducible refine' Eb.step_put0 ?k1 ?k2 ?k3 ?k4 ?_); (case k1 => k_dflt omega); (case k2 => k_dflt omega); (case k3 => k_dflt omega); (case k4 => k_dflt omega)))
local macro_rules | `(tactic| walk_at "binaryOp BitAnd int int") => `(tactic| (k_here; (with_reducible show wpAny _ _ (binaryOp Operator.BitAnd (Value.int (_ % 512) _) (Value.int 511 _)) _ _ _); k_dflt (refine' Eb.step_mask9  ?_)))
local macro_rules | `(tactic| walk_at "binaryOp BitAnd int int") => `(tactic| (k_here; (with_reducible show wpAny _ _ (binaryOp Operator.BitAnd (Value.int 256 _) (Value.int 511 _)) _ _ _); k_dflt (refine' Eb.step_mask256  ?_)))
local macro_rules | `(tactic| walk_at "eval Call") => `(tactic| (k_here; k_dflt (refine PyProof.Rows.Call_ ?_)))
local macro_rules | `(tactic| walk_at "binaryOp LShift int int") => `(tactic| (k_here; (with_reducible refine' Eb.step_powA ?k0 ?k1 ?k2 ?_); (case k0 => with_reducible assumption); (case k1 => k_dflt (first | exact Eb.gp_lo (by omega) | omega)); (case k2 => k_dflt (first | exact Eb.gp_hi (by omega) | omega))))
local macro_rules | `(tactic| walk_at "binaryOp Add int int") => `(tactic| (k_here; (with_reducible refine' Eb.step_begA ?k0 ?k1 ?_); (case k0 => with_reducible assumption); (case k1 => with_reducible assumption)))
local macro_rules | `(tactic| walk_at "binaryOp Mult int int") => `(tactic| (k_here; (with_reducible refine' Eb.step_lenA ?k0 ?k1 ?_); (case k0 => with_reducible assumption); (case k1 => with_reducible assumption)))
local macro_rules | `(tactic| walk_at "binaryOp Mod int int") => `(tactic| (k_here; (with_reducible refine' Eb.step_mod256 ?_)))
local macro_rules | `(tactic| walk_at "ite") => `(tactic| (k_here; first | (with_reducible refine Eb.eq_no (by with_reducible assumption) ?_) | (with_reducible refine Eb.eq_yes (by with_reducible assumption) ?_) | (with_reducible refine Eb.ne_no (by with_reducible assumption) ?_) | (with_reducible refine Eb.ne_yes (by with_reducible assumption) ?_)))
set_option maxRecDepth 100000 in
set_option maxHeartbeats 40000000 in
theorem PySem.Challenge.cw_eightbytes_s04_bound_holds : PySem.Challenge.rw_eightbytes_s04_bound.Holds := by
  k_with "call ref" => k_call_by "grain_power" Eb.gp
  k_with "tree" => (unfold Eb.gp; split <;> omega)
  k_with "state" => k_dflt (first | exact Eb.nofit_nil _ | exact Eb.nofit_more (by assumption) (by assumption) (fun h => absurd ((Eb.fitB_iff (by omega) (by omega) (by omega)).mp h) (by assumption)))
  k_with "pyIter ref" => k_search (fun pre => Eb.NoFit (Eb.fitB (Eb.Tag.val ‹Eb.Tag 0 _› % 4294967296) (Eb.Tag.val ‹Eb.Tag 2 _›)) pre)
  w_on
  k_headS
  case hw => exact ⟨[.int 0, .int 0, .int 0, .int 0], by decide +kernel, by decide +kernel⟩
  w_strict (k_goS0; (obtain ⟨⟨b0, c0⟩, ⟨b1, c1⟩, ⟨b2, c2⟩, ⟨b3, c3⟩⟩ := (Eb.dec4 (os_pre_isSome (r := PySem.Challenge.rw_eightbytes_s04_bound) (as := [WData.int _, WData.int _, WData.int _, WData.int _]) (by assumption))).2); (replace b0 : (0 : Int) ≤ _ := b0); (replace c0 : _ ≤ (18446744073709551615 : Int) := c0); (replace b1 : (0 : Int) ≤ _ := b1); (replace c1 : _ ≤ (1 : Int) := c1); (replace b2 : (0 : Int) ≤ _ := b2); (replace c2 : _ ≤ (4294967295 : Int) := c2); (replace b3 : (0 : Int) ≤ _ := b3); (replace c3 : _ ≤ (1 : Int) := c3); (have tg0 := Eb.tag 0 b0); (have tg1 := Eb.tag 1 b1); (have tg2 := Eb.tag 2 b2); (have tg3 := Eb.tag 3 b3); (obtain ⟨⟨p01, p02⟩, ⟨p03, p04⟩, ⟨p05, p06⟩⟩ := Eb.known b0); (all_goals try k_fold); k_steps; (all_goals (try (w_end; sp_is; wrow_close))); (all_goals (try k_data)); all_goals first | sp_left | w_report)
  all_goals (obtain ⟨e1, _⟩ := Eb.dec4 (os_pre_isSome hpre); refine os_post e1 ?_; refine Eb.same_ds ?_)
  all_goals first
    | (have e := Eb.due_boundN (good := Eb.Tag.val tg1) (n := Eb.Tag.val tg2) (just := Eb.Tag.val tg3) b0 c0 (by first | exact Eb.power_zero (by assumption) | exact Eb.power_miss (by assumption) (by decide)); exact congrArg (List.map PyData.int) e.symm)
    | (have hf := (Eb.fitB_iff (a := Eb.Tag.val tg0 % 4294967296) (n := Eb.Tag.val tg2) (k := kN) (by omega) b2 (by omega)).mpr (by assumption)
       have e := Eb.due_boundI (k := kN) b0 c0 b1 c1 b2 b3 c3 (by omega) (by omega) (Eb.power_hit (by assumption) b2 (by assumption) (by assumption) (by omega) hf)
       have x1 := Eb.exact1v (g := 2 ^ (Eb.gp kN).toNat) b0 (by omega)
       have x2 := Eb.exact2v (g := 2 ^ (Eb.gp kN).toNat) b0 b2 (by omega)
       first
         | rw [if_neg (by omega)] at e
         | rw [if_pos (by omega)] at e
         | rw [if_pos (by exact ⟨by assumption, by assumption, by assumption, Or.inr ⟨x1.mp (by assumption), x2.mp (by assumption)⟩⟩)] at e
         | rw [if_neg (by rintro ⟨_, _, _, h⟩; exact h.elim (by assumption) (fun q => absurd (x2.mpr q.2) (by assumption)))] at e
         | rw [if_neg (by rintro ⟨_, _, _, h⟩; exact h.elim (by assumption) (fun q => absurd (x1.mpr q.1) (by assumption)))] at e
       refine Eq.trans (Eb.two_eq rfl ?_) (congrArg (List.map PyData.int) e.symm)
       exact Eb.stretch_val b0 c0 (by omega) (by omega) (Int.emod_nonneg _ (by decide)) (Int.emod_lt_of_pos _ (by decide)) (Int.emod_nonneg _ (by decide)) (Int.emod_lt_of_pos _ (by decide)) rfl rfl)
#print axioms PySem.Challenge.cw_eightbytes_s04_bound_holds
