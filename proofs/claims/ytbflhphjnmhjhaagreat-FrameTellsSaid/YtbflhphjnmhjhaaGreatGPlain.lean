/- Plain lists and numbers: numbers in bytes. Nothing of the program. -/
namespace Go.Proofs.YtbflhphjnmhjhaaGreat.Oct

/-- The number that bytes tell, the highest byte first. -/
def takeB (l : List UInt8) : Nat := l.foldl (fun a x => a * 256 + x.toNat) 0
/-- The number n in k bytes, the highest first. -/
def putB (n : Nat) : Nat → List UInt8
  | 0 => []
  | k + 1 => putB (n / 256) k ++ [UInt8.ofNat n]

theorem takeB_nil : takeB [] = 0 := rfl
theorem takeB_snoc (l : List UInt8) (x : UInt8) : takeB (l ++ [x]) = takeB l * 256 + x.toNat := by simp [takeB]
theorem foldB_lt (l : List UInt8) : ∀ a : Nat, l.foldl (fun a x => a * 256 + x.toNat) a < (a + 1) * 256 ^ l.length := by
  induction l with
  | nil => intro a; simp
  | cons x l ih =>
    intro a
    have h := ih (a * 256 + x.toNat)
    have hx := x.toNat_lt
    rw [List.foldl_cons, List.length_cons, Nat.pow_succ, Nat.mul_comm (256 ^ l.length) 256, ← Nat.mul_assoc]
    refine Nat.lt_of_lt_of_le h (Nat.mul_le_mul_right _ ?_)
    omega
theorem takeB_lt (l : List UInt8) : takeB l < 256 ^ l.length := by
  have := foldB_lt l 0
  rw [Nat.zero_add, Nat.one_mul] at this
  exact this
theorem putB_length (n k : Nat) : (putB n k).length = k := by
  induction k generalizing n with
  | zero => rfl
  | succ k ih => simp [putB, ih]
theorem takeB_putB (n k : Nat) : takeB (putB n k) = n % 256 ^ k := by
  induction k generalizing n with
  | zero => simp [putB, takeB, Nat.mod_one]
  | succ k ih =>
    rw [putB, takeB_snoc, ih, Nat.pow_succ]
    have h : (UInt8.ofNat n).toNat = n % 256 := by simp
    rw [h, Nat.mul_comm (256 ^ k) 256, Nat.mod_mul]
    omega

end Go.Proofs.YtbflhphjnmhjhaaGreat.Oct
