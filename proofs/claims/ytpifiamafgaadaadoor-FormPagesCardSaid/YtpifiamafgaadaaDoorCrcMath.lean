/- Plain mathematics of CRC-32C over natural numbers: the step of a bit, of four bits by a table, of a byte; linear, injective. No program. -/
namespace Go.Proofs.YtpifiamafgaadaaDoor.Crc

def P : Nat := 2197175160
def F : Nat := 4294967295
/-- a step of a bit 0 -/
def f (s : Nat) : Nat := (s / 2) ^^^ (if s % 2 = 1 then P else 0)
def T : List Nat := [0, 274646895, 549293790, 820201905, 1098587580, 1361435347, 1640403810, 1905808397, 2197175160, 2460548119, 2722870694, 2987750089, 3280807620, 3553878443, 3811616794, 4084100981]
/-- four bits by the table -/
def nib (s : Nat) : Nat := T.getD (s % 16) 0 ^^^ (s / 16)
def stepB (s x : Nat) : Nat := nib (nib (s ^^^ x))
def run (s : Nat) (l : List Nat) : Nat := l.foldl stepB s
def sumOf (l : List Nat) : Nat := run F l ^^^ F
/-- the document's step of a bit -/
def rstep (s b : Nat) : Nat := if (s % 2 + b) % 2 = 1 then (s / 2) ^^^ P else s / 2
def rbyte : Nat → Nat → Nat → Nat
  | 0, s, _ => s
  | k + 1, s, x => rbyte k (rstep s (x % 2)) (x / 2)
def rrun (s : Nat) (l : List Nat) : Nat := l.foldl (rbyte 8) s

theorem xor_mod2 (a b : Nat) : (a ^^^ b) % 2 = (a % 2 + b % 2) % 2 := by
  have h : ∀ n : Nat, n % 2 = (n.testBit 0).toNat := fun n => by rw [Nat.testBit_zero]; rcases Nat.mod_two_eq_zero_or_one n with h | h <;> simp [h]
  rw [h, h a, h b, Nat.testBit_xor]
  cases a.testBit 0 <;> cases b.testBit 0 <;> rfl
theorem xor_div2 (a b : Nat) : (a ^^^ b) / 2 = (a / 2) ^^^ (b / 2) := by
  have := Nat.shiftRight_xor_distrib (a := a) (b := b) (i := 1)
  simpa [Nat.shiftRight_eq_div_pow] using this
theorem xor_pow (n a b : Nat) : (a ^^^ b) / 2 ^ n = (a / 2 ^ n) ^^^ (b / 2 ^ n) := by
  have := Nat.shiftRight_xor_distrib (a := a) (b := b) (i := n)
  simpa [Nat.shiftRight_eq_div_pow] using this
theorem xmid (a b c d : Nat) : (a ^^^ b) ^^^ (c ^^^ d) = (a ^^^ c) ^^^ (b ^^^ d) := by
  rw [Nat.xor_assoc, ← Nat.xor_assoc b c d, Nat.xor_comm b c, Nat.xor_assoc c b d, ← Nat.xor_assoc]
theorem f_xor (a b : Nat) : f (a ^^^ b) = f a ^^^ f b := by
  unfold f
  rw [xor_div2, xor_mod2]
  rcases Nat.mod_two_eq_zero_or_one a with h | h <;> rcases Nat.mod_two_eq_zero_or_one b with g | g
  all_goals simp only [h, g, Nat.reduceAdd, Nat.reduceMod, Nat.reduceEqDiff, if_true, if_false, Nat.xor_zero, Nat.zero_ne_one]
  · rw [Nat.xor_assoc]
  · rw [Nat.xor_assoc, Nat.xor_assoc, Nat.xor_comm (b / 2) P]
  · rw [xmid, Nat.xor_self, Nat.xor_zero]
theorem f_zero : f 0 = 0 := rfl
def f4 (s : Nat) : Nat := f (f (f (f s)))
theorem f4_xor (a b : Nat) : f4 (a ^^^ b) = f4 a ^^^ f4 b := by unfold f4; rw [f_xor, f_xor, f_xor, f_xor]
theorem f_double (n : Nat) : f (2 * n) = n := by
  unfold f
  rw [if_neg (by omega), Nat.xor_zero]; omega
theorem f4_16 (n : Nat) : f4 (16 * n) = n := by
  unfold f4
  rw [show 16 * n = 2 * (2 * (2 * (2 * n))) from by omega, f_double, f_double, f_double, f_double]
theorem xor_right_cancel {a b c : Nat} (h : a ^^^ c = b ^^^ c) : a = b := by
  have := congrArg (· ^^^ c) h
  simpa [Nat.xor_assoc, Nat.xor_self] using this
theorem split_pow (n s : Nat) : s = (2 ^ n * (s / 2 ^ n)) ^^^ (s % 2 ^ n) := by
  have hp : 0 < 2 ^ n := Nat.two_pow_pos n
  have h1 := xor_pow n (2 ^ n * (s / 2 ^ n)) (s % 2 ^ n)
  have h2 := Nat.xor_mod_two_pow (a := 2 ^ n * (s / 2 ^ n)) (b := s % 2 ^ n) (n := n)
  rw [Nat.mul_div_cancel_left _ hp, Nat.div_eq_of_lt (Nat.mod_lt _ hp), Nat.xor_zero] at h1
  rw [Nat.mul_mod_right, Nat.mod_mod, Nat.zero_xor] at h2
  have h3 := Nat.div_add_mod ((2 ^ n * (s / 2 ^ n)) ^^^ (s % 2 ^ n)) (2 ^ n)
  rw [h1, h2, Nat.div_add_mod] at h3
  exact h3
theorem split16 (s : Nat) : s = (16 * (s / 16)) ^^^ (s % 16) := split_pow 4 s
theorem f4_tab : ∀ k, k < 16 → f4 k = T.getD k 0 := by decide
theorem nib_f4 (s : Nat) : nib s = f4 s := by
  have h := split16 s
  unfold nib
  rw [show f4 s = f4 ((16 * (s / 16)) ^^^ (s % 16)) from by rw [← h], f4_xor, f4_16, f4_tab _ (Nat.mod_lt _ (by omega)), Nat.xor_comm]
theorem stepB_eq (s x : Nat) : stepB s x = f4 (f4 (s ^^^ x)) := by unfold stepB; rw [nib_f4, nib_f4]
theorem rstep_eq (s b : Nat) (hb : b ≤ 1) : rstep s b = f (s ^^^ b) := by
  unfold rstep f
  rw [xor_div2, xor_mod2]
  have e : b / 2 = 0 := by omega
  have e2 : b % 2 = b := by omega
  rw [e, Nat.xor_zero, e2]
  split <;> simp
def fN : Nat → Nat → Nat
  | 0, s => s
  | k + 1, s => fN k (f s)
theorem split2 (x : Nat) : x = (2 * (x / 2)) ^^^ (x % 2) := split_pow 1 x
theorem rbyte_eq : ∀ (k s x : Nat), rbyte k s x ^^^ (x / 2 ^ k) = fN k (s ^^^ x)
  | 0, s, x => by simp [rbyte, fN]
  | k + 1, s, x => by
    have ih := rbyte_eq k (rstep s (x % 2)) (x / 2)
    rw [rbyte, fN, Nat.pow_succ, Nat.mul_comm (2 ^ k) 2, ← Nat.div_div_eq_div_mul, ih, rstep_eq _ _ (by omega)]
    congr 1
    have e : s ^^^ x = (s ^^^ (x % 2)) ^^^ (2 * (x / 2)) := by
      rw [Nat.xor_assoc, Nat.xor_comm (x % 2), ← split2]
    rw [e, f_xor (s ^^^ x % 2), f_double]
theorem rbyte_step (s x : Nat) (hx : x < 256) : rbyte 8 s x = stepB s x := by
  have h := rbyte_eq 8 s x
  have e : x / 2 ^ 8 = 0 := by omega
  rw [e, Nat.xor_zero] at h
  rw [h, stepB_eq]
  rfl
theorem rrun_eq : ∀ (l : List Nat) (s : Nat), (∀ x ∈ l, x < 256) → rrun s l = run s l
  | [], _, _ => rfl
  | x :: l, s, h => by
    have := rrun_eq l (stepB s x) (fun y hy => h y (List.mem_cons_of_mem _ hy))
    simp only [rrun, run, List.foldl_cons] at this ⊢
    rw [rbyte_step s x (h x (List.mem_cons_self ..)), this]

/-! bounds -/
theorem f_lt (s : Nat) (h : s < 4294967296) : f s < 4294967296 := by
  unfold f
  refine Nat.xor_lt_two_pow (n := 32) (by omega) ?_
  split <;> simp [P]
theorem f4_lt (s : Nat) (h : s < 4294967296) : f4 s < 4294967296 := f_lt _ (f_lt _ (f_lt _ (f_lt _ h)))
theorem nib_lt (s : Nat) (h : s < 4294967296) : nib s < 4294967296 := by rw [nib_f4]; exact f4_lt s h
theorem xor_lt (a b : Nat) (h : a < 4294967296) (g : b < 4294967296) : a ^^^ b < 4294967296 := Nat.xor_lt_two_pow (n := 32) h g
theorem stepB_lt (s x : Nat) (h : s < 4294967296) (hx : x < 256) : stepB s x < 4294967296 := nib_lt _ (nib_lt _ (xor_lt _ _ h (by omega)))
theorem run_lt : ∀ (l : List Nat) (s : Nat), s < 4294967296 → (∀ x ∈ l, x < 256) → run s l < 4294967296
  | [], _, h, _ => h
  | x :: l, s, h, g => run_lt l (stepB s x) (stepB_lt s x h (g x (List.mem_cons_self ..))) (fun y hy => g y (List.mem_cons_of_mem _ hy))
theorem F_lt : F < 4294967296 := by decide
theorem sumOf_lt (l : List Nat) (h : ∀ x ∈ l, x < 256) : sumOf l < 4294967296 := xor_lt _ _ (run_lt l F F_lt h) F_lt
theorem run_append (s : Nat) (a b : List Nat) : run s (a ++ b) = run (run s a) b := by simp [run, List.foldl_append]
theorem run_nil (s : Nat) : run s [] = s := rfl
theorem run_cons (s x : Nat) (l : List Nat) : run s (x :: l) = run (stepB s x) l := rfl

/-! injective -/
theorem P_top : P = 2147483648 + 49691512 := rfl
theorem half_P (h : Nat) (hh : h < 2147483648) : 2147483648 ≤ h ^^^ P := by
  have e : P / 2 ^ 31 = 1 := by decide
  have e2 : h / 2 ^ 31 = 0 := by omega
  have := xor_pow 31 h P
  rw [e, e2, Nat.zero_xor] at this
  omega
theorem f_inj (a b : Nat) (ha : a < 4294967296) (hb : b < 4294967296) (h : f a = f b) : a = b := by
  unfold f at h
  by_cases g : a % 2 = 1 <;> by_cases k : b % 2 = 1
  · rw [if_pos g, if_pos k] at h
    have : a / 2 = b / 2 := xor_right_cancel h
    omega
  · rw [if_pos g, if_neg k, Nat.xor_zero] at h
    have := half_P (a / 2) (by omega)
    omega
  · rw [if_neg g, if_pos k, Nat.xor_zero] at h
    have := half_P (b / 2) (by omega)
    omega
  · rw [if_neg g, if_neg k, Nat.xor_zero, Nat.xor_zero] at h
    omega
theorem f4_inj (a b : Nat) (ha : a < 4294967296) (hb : b < 4294967296) (h : f4 a = f4 b) : a = b :=
  f_inj _ _ ha hb (f_inj _ _ (f_lt _ ha) (f_lt _ hb) (f_inj _ _ (f_lt _ (f_lt _ ha)) (f_lt _ (f_lt _ hb)) (f_inj _ _ (f_lt _ (f_lt _ (f_lt _ ha))) (f_lt _ (f_lt _ (f_lt _ hb))) h)))
theorem stepB_inj (a b x y : Nat) (ha : a < 4294967296) (hb : b < 4294967296) (hx : x < 256) (hy : y < 256) (h : stepB a x = stepB b y) : a ^^^ x = b ^^^ y := by
  rw [stepB_eq, stepB_eq] at h
  have h1 := xor_lt a x ha (by omega)
  have h2 := xor_lt b y hb (by omega)
  exact f4_inj _ _ h1 h2 (f4_inj _ _ (f4_lt _ h1) (f4_lt _ h2) h)
theorem run_inj : ∀ (l : List Nat) (a b : Nat), a < 4294967296 → b < 4294967296 → (∀ x ∈ l, x < 256) → run a l = run b l → a = b
  | [], _, _, _, _, _, h => h
  | x :: l, a, b, ha, hb, hl, h => by
    have hx := hl x (List.mem_cons_self ..)
    have := run_inj l (stepB a x) (stepB b x) (stepB_lt a x ha hx) (stepB_lt b x hb hx) (fun y hy => hl y (List.mem_cons_of_mem _ hy)) h
    exact xor_right_cancel (stepB_inj a b x x ha hb hx hx this)
/-- linear -/
theorem stepB_xor (a b x y : Nat) : stepB (a ^^^ b) (x ^^^ y) = stepB a x ^^^ stepB b y := by
  rw [stepB_eq, stepB_eq, stepB_eq, ← f4_xor, ← f4_xor, xmid]
theorem run_xor : ∀ (l m : List Nat) (a b : Nat), l.length = m.length → run (a ^^^ b) (List.zipWith (· ^^^ ·) l m) = run a l ^^^ run b m
  | [], [], _, _, _ => rfl
  | x :: l, y :: m, a, b, h => by
    simp only [List.zipWith_cons_cons, run_cons, stepB_xor]
    exact run_xor l m _ _ (by simpa using h)
theorem zip_zeros : ∀ (l : List Nat), List.zipWith (· ^^^ ·) l (List.replicate l.length 0) = l
  | [] => rfl
  | x :: l => by simp only [List.length_cons, List.replicate_succ, List.zipWith_cons_cons, Nat.xor_zero, zip_zeros l]
/-- a sum behind noughts -/
def past (s n : Nat) : Nat := run s (List.replicate n 0)
theorem past_zero (s : Nat) : past s 0 = s := rfl
theorem past_succ (s n : Nat) : past s (n + 1) = past (stepB s 0) n := rfl
theorem past_snoc (s n : Nat) : past s (n + 1) = stepB (past s n) 0 := by
  unfold past; rw [List.replicate_succ', run_append]; rfl
theorem past_lt (s n : Nat) (h : s < 4294967296) : past s n < 4294967296 := run_lt _ s h (fun x hx => by rw [List.eq_of_mem_replicate hx]; omega)
theorem past_add (s a b : Nat) : past s (a + b) = past (past s a) b := by
  unfold past; rw [← List.replicate_append_replicate, run_append]
theorem run_past (u v : Nat) (l : List Nat) : run (u ^^^ v) l = run u l ^^^ past v l.length := by
  have := run_xor l (List.replicate l.length 0) u v (by simp)
  rwa [zip_zeros] at this
/-- THE STAGE's THEOREM, in numbers -/
theorem sum_append (a b : List Nat) : sumOf (a ++ b) = past (sumOf a) b.length ^^^ sumOf b := by
  unfold sumOf
  rw [run_append]
  have e : run F a = F ^^^ (run F a ^^^ F) := by rw [Nat.xor_comm (run F a), ← Nat.xor_assoc, Nat.xor_self, Nat.zero_xor]
  rw [show run (run F a) b = run (F ^^^ (run F a ^^^ F)) b from by rw [← e], run_past, Nat.xor_comm (run F b), Nat.xor_assoc]
theorem sum_zeros (n : Nat) : sumOf (List.replicate n 0) = past F n ^^^ F := rfl
theorem past_inj (n a b : Nat) (ha : a < 4294967296) (hb : b < 4294967296) (h : past a n = past b n) : a = b :=
  run_inj _ a b ha hb (fun x hx => by rw [List.eq_of_mem_replicate hx]; omega) h
end Go.Proofs.YtpifiamafgaadaaDoor.Crc
