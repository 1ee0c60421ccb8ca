/- The walk of OctetTells: the program's answers are the document's; nothing that was there has turned. -/
import Derived.Test.YtfglpnfegfcmeaaOctRef3
import Derived.Test.YtfglpnfegfcmeaaOctArgs
namespace Go.Proofs.Ytfglpnfegfcmeaa
open Go.RowKit Oct

namespace Oct
/-- What the calls answer, whatever is handed in. -/
def PutIn (N S : Int) : Prop := 1 ≤ S ∧ S ≤ 4 ∧ 0 ≤ N ∧ N < 256 ^ S.toNat
instance (N S : Int) : Decidable (PutIn N S) := by unfold PutIn; infer_instance
def putV (N S : Int) : List UInt8 := if PutIn N S then putB N.toNat S.toNat else []
def putE (N S : Int) : Int := if PutIn N S then 0 else 2
def takeE (n : Nat) (i S : Int) : Int := if 1 ≤ S ∧ S ≤ 4 ∧ 0 ≤ i then if i + S ≤ n then 0 else 10 else 2
def takeV (xs : List UInt8) (n : Nat) (i S : Int) : Int := if takeE n i S = 0 then (takeB ((xs.drop i.toNat).take S.toNat) : Nat) else 0
def streamV (xs : List UInt8) (n : Nat) (i : Int) : Int := if takeE n i 4 = 0 then (takeB ((xs.drop i.toNat).take 4) % 2147483648 : Nat) else 0
def bitS (n : Nat) (i : Int) : Bool := decide (0 ≤ i ∧ i < 8 * n)
def bitV (xs : List UInt8) (n : Nat) (i : Int) : Int := if bitS n i then bitOf xs i.toNat else 0
def bitsS (n : Nat) (i k : Int) : Bool := decide (0 ≤ k ∧ k ≤ 30 ∧ 0 ≤ i ∧ i + k ≤ 8 * n)
def bitsV (xs : List UInt8) (n : Nat) (i k : Int) : Int := if bitsS n i k then codeOf xs i.toNat k.toNat else 0
def LayIn (n : Nat) (u cd k : Int) : Prop := 0 ≤ k ∧ k ≤ 30 ∧ 0 ≤ cd ∧ cd < 2 ^ k.toNat ∧ 0 ≤ u ∧ u ≤ 8 * n ∧ (n : Int) ≤ (u + 7) / 8
instance (n : Nat) (u cd k : Int) : Decidable (LayIn n u cd k) := by unfold LayIn; infer_instance
def layE (n : Nat) (u cd k : Int) : Int := if LayIn n u cd k then 0 else 2
def layU (n : Nat) (u cd k : Int) : Int := if LayIn n u cd k then u + k else 0
def LayR (xs : List UInt8) (n : Nat) (u cd k : Int) (ys : List UInt8) : Prop := if LayIn n u cd k then IsLaid xs u.toNat cd.toNat k.toNat ys else ys = []
theorem LayR.one {xs ys zs : List UInt8} {n : Nat} {u cd k : Int} (h : LayR xs n u cd k ys) (h' : LayR xs n u cd k zs) : ys = zs := by
  unfold LayR at h h'
  split at h
  · rename_i hl
    rw [if_pos hl] at h'
    exact isLaid_one h h'
  · rename_i hl
    rw [if_neg hl] at h'
    rw [h, h']
end Oct
/-- A row that a call hands back. -/
def Hands (v : Value) (W : World) (ys : List UInt8) : Prop := ∃ A n c, v = .slice A n c ∧ Bs W W.heap.size A n ys
theorem OwnB.hands {W : World} {B : Nat} {t : TypeId} {v : Value} {ys : List UInt8} (h : OwnB W B t v ys) : Hands v W ys := by
  obtain ⟨A, c, e, _, _, _, hb⟩ := h.form
  exact ⟨A, _, c, e, hb⟩
theorem Hands.nil_ (W : World) : Hands (.slice none 0 0) W [] := ⟨none, 0, 0, rfl, Bs.none_⟩

theorem put_tot (N S : Int) (w : World) :
    Calls Try.prog 9 #[.int .i64 N, .int .i64 S] w fun e w' => ∃ v, e = .returned (.tuple #[v, .int .i64 (putE N S)]) ∧ Hands v w' (putV N S) ∧ Below w.heap.size w w' := by
  unfold putV putE
  by_cases h : PutIn N S
  · rw [if_pos h, if_pos h]
    refine (put_ok N S w h.1 h.2.1 h.2.2.1 h.2.2.2).mono ?_
    rintro e w' ⟨v, rfl, ho, hb⟩
    exact ⟨v, rfl, ho.hands, hb⟩
  · rw [if_neg h, if_neg h]
    refine (put_no N S w h).mono ?_
    rintro e w' ⟨rfl, rfl⟩
    exact ⟨_, rfl, Hands.nil_ _, Below.refl _ _⟩
theorem rput_tot (N S : Int) (w : World) :
    Calls Try.prog 10 #[.int .i64 N, .int .i64 S] w fun e w' => ∃ v, e = .returned (.tuple #[v, .int .i64 (putE N S)]) ∧ Hands v w' (putV N S) ∧ Below w.heap.size w w' := by
  unfold putV putE
  by_cases h : PutIn N S
  · rw [if_pos h, if_pos h]
    refine (rput_ok N S w h.1 h.2.1 h.2.2.1 h.2.2.2).mono ?_
    rintro e w' ⟨v, rfl, ho, hb⟩
    exact ⟨v, rfl, ho.hands, hb⟩
  · rw [if_neg h, if_neg h]
    refine (rput_no N S w h).mono ?_
    rintro e w' ⟨rfl, rfl⟩
    exact ⟨_, rfl, Hands.nil_ _, Below.refl _ _⟩
theorem take_tot (A : Option Addr) (B n c : Nat) (xs : List UInt8) (i S : Int) (w : World) (hA : Bs w B A n xs) (hn : n ≤ 1000000) (hnc : n ≤ c) :
    Calls Try.prog 11 #[.slice A n c, .int .i64 i, .int .i64 S] w fun e w' => e = .returned (.tuple #[.int .i64 (takeV xs n i S), .int .i64 (takeE n i S)]) ∧ w = w' := by
  unfold takeV takeE
  by_cases h : 1 ≤ S ∧ S ≤ 4 ∧ 0 ≤ i
  · by_cases h2 : i + S ≤ n
    · simp only [if_pos h, if_pos h2]
      exact take_ok A B n c xs i S w hA h.2.2 h2 h.1 h.2.1 hn hnc
    · simp only [if_pos h, if_neg h2]
      exact take_short A n c i S w hn h.2.2 h.1 h.2.1 (by omega)
  · simp only [if_neg h]
    exact take_arg A n c i S w h
theorem rtake_tot (A : Option Addr) (B n c : Nat) (xs : List UInt8) (i S : Int) (w : World) (hA : Bs w B A n xs) (hn : n ≤ 1000000) :
    Calls Try.prog 12 #[.slice A n c, .int .i64 i, .int .i64 S] w fun e w' => e = .returned (.tuple #[.int .i64 (takeV xs n i S), .int .i64 (takeE n i S)]) ∧ w = w' := by
  unfold takeV takeE
  by_cases h : 1 ≤ S ∧ S ≤ 4 ∧ 0 ≤ i
  · by_cases h2 : i + S ≤ n
    · simp only [if_pos h, if_pos h2]
      exact rtake_ok A B n c xs i S w hA h.2.2 h2 h.1 h.2.1 hn
    · simp only [if_pos h, if_neg h2]
      exact rtake_short A n c i S w hn h.2.2 h.1 h.2.1 (by omega)
  · simp only [if_neg h]
    exact rtake_arg A n c i S w h
theorem stream_tot (A : Option Addr) (B n c : Nat) (xs : List UInt8) (i : Int) (w : World) (hA : Bs w B A n xs) (hn : n ≤ 1000000) (hnc : n ≤ c) :
    Calls Try.prog 13 #[.slice A n c, .int .i64 i] w fun e w' => e = .returned (.tuple #[.int .i64 (streamV xs n i), .int .i64 (takeE n i 4)]) ∧ w = w' := by
  unfold streamV takeE
  by_cases h : 0 ≤ i
  · have h' : (1 : Int) ≤ 4 ∧ (4 : Int) ≤ 4 ∧ 0 ≤ i := ⟨by omega, by omega, h⟩
    by_cases h2 : i + 4 ≤ n
    · simp only [if_pos h', if_pos h2]
      exact stream_ok A B n c xs i w hA h h2 hn hnc
    · simp only [if_pos h', if_neg h2]
      exact stream_short A n c i w hn h (by omega)
  · have h' : ¬ ((1 : Int) ≤ 4 ∧ (4 : Int) ≤ 4 ∧ 0 ≤ i) := by omega
    simp only [if_neg h']
    exact stream_arg A n c i w (by omega)
theorem rstream_tot (A : Option Addr) (B n c : Nat) (xs : List UInt8) (i : Int) (w : World) (hA : Bs w B A n xs) (hn : n ≤ 1000000) :
    Calls Try.prog 14 #[.slice A n c, .int .i64 i] w fun e w' => e = .returned (.tuple #[.int .i64 (streamV xs n i), .int .i64 (takeE n i 4)]) ∧ w = w' := by
  unfold streamV takeE
  by_cases h : 0 ≤ i
  · have h' : (1 : Int) ≤ 4 ∧ (4 : Int) ≤ 4 ∧ 0 ≤ i := ⟨by omega, by omega, h⟩
    by_cases h2 : i + 4 ≤ n
    · simp only [if_pos h', if_pos h2]
      exact rstream_ok A B n c xs i w hA h h2 hn
    · simp only [if_pos h', if_neg h2]
      exact rstream_short A n c i w hn h (by omega)
  · have h' : ¬ ((1 : Int) ≤ 4 ∧ (4 : Int) ≤ 4 ∧ 0 ≤ i) := by omega
    simp only [if_neg h']
    exact rstream_arg A n c i w (by omega)
theorem bit_tot (A : Option Addr) (B n c : Nat) (xs : List UInt8) (i : Int) (w : World) (hA : Bs w B A n xs) (hn : n ≤ 1000000) :
    Calls Try.prog 16 #[.slice A n c, .int .i64 i] w fun e w' => e = .returned (.tuple #[.int .i64 (bitV xs n i), .bool (bitS n i)]) ∧ w = w' := by
  unfold bitV bitS
  by_cases h : 0 ≤ i ∧ i < 8 * n
  · simp only [decide_eq_true h, if_true]
    exact bit_yes A B n c xs i w hA h.1 h.2 hn
  · simp only [decide_eq_false h, Bool.false_eq_true, if_false]
    exact bit_none A n c i w h hn
theorem rbit_tot (A : Option Addr) (B n c : Nat) (xs : List UInt8) (i : Int) (w : World) (hA : Bs w B A n xs) (hn : n ≤ 1000000) (hi : i ≤ 9223372036854775807) :
    Calls Try.prog 17 #[.slice A n c, .int .i64 i] w fun e w' => e = .returned (.tuple #[.int .i64 (bitV xs n i), .bool (bitS n i)]) ∧ w = w' := by
  unfold bitV bitS
  by_cases h : 0 ≤ i ∧ i < 8 * n
  · simp only [decide_eq_true h, if_true]
    exact rbit_yes A B n c xs i w hA h.1 h.2 hn
  · simp only [decide_eq_false h, Bool.false_eq_true, if_false]
    exact rbit_none A n c i w h hn hi
theorem bits_tot (A : Option Addr) (n c : Nat) (xs : List UInt8) (i k : Int) (w : World) (hA : Bs w w.heap.size A n xs) (hn : n ≤ 1000000) :
    Calls Try.prog 18 #[.slice A n c, .int .i64 i, .int .i64 k] w fun e w' => e = .returned (.tuple #[.int .i64 (bitsV xs n i k), .bool (bitsS n i k)]) ∧ Below w.heap.size w w' := by
  unfold bitsV bitsS
  by_cases h : 0 ≤ k ∧ k ≤ 30 ∧ 0 ≤ i ∧ i + k ≤ 8 * n
  · simp only [decide_eq_true h, if_true]
    exact bits_yes A n c xs i k w hA h.2.2.1 h.1 h.2.1 h.2.2.2 hn
  · simp only [decide_eq_false h, Bool.false_eq_true, if_false]
    exact bits_none A n c i k w h hn
theorem rbits_tot (A : Option Addr) (B n c : Nat) (xs : List UInt8) (i k : Int) (w : World) (hA : Bs w B A n xs) (hn : n ≤ 1000000) :
    Calls Try.prog 19 #[.slice A n c, .int .i64 i, .int .i64 k] w fun e w' => e = .returned (.tuple #[.int .i64 (bitsV xs n i k), .bool (bitsS n i k)]) ∧ w = w' := by
  unfold bitsV bitsS
  by_cases h : 0 ≤ k ∧ k ≤ 30 ∧ 0 ≤ i ∧ i + k ≤ 8 * n
  · simp only [decide_eq_true h, if_true]
    exact rbits_yes A B n c xs i k w hA h.2.2.1 h.1 h.2.1 h.2.2.2 hn
  · simp only [decide_eq_false h, Bool.false_eq_true, if_false]
    exact rbits_none A n c i k w h hn
theorem lay_tot (A : Option Addr) (n c : Nat) (xs : List UInt8) (u cd k : Int) (w : World) (hA : Bs w w.heap.size A n xs) (hn : n ≤ 1000000) :
    Calls Try.prog 20 #[.slice A n c, .int .i64 u, .int .i64 cd, .int .i64 k] w fun e w' =>
      ∃ v ys, e = .returned (.tuple #[v, .int .i64 (layU n u cd k), .int .i64 (layE n u cd k)]) ∧ LayR xs n u cd k ys ∧ Hands v w' ys ∧ Below w.heap.size w w' := by
  unfold layU layE LayR
  by_cases h : LayIn n u cd k
  · simp only [if_pos h]
    obtain ⟨h1, h2, h3, h4, h5, h6, h7⟩ := h
    refine (lay_ok A n c xs u cd k w hA h5 h3 h1 h2 h4 h6 h7 hn).mono ?_
    rintro e w' ⟨v, ys, rfl, hl, ho, hb⟩
    exact ⟨v, ys, rfl, hl, ho.hands, hb⟩
  · simp only [if_neg h]
    refine (lay_no A n c u cd k w h hn).mono ?_
    rintro e w' ⟨rfl, hb⟩
    exact ⟨_, [], rfl, rfl, Hands.nil_ _, hb⟩
theorem rlay_tot (A : Option Addr) (n c : Nat) (xs : List UInt8) (u cd k : Int) (w : World) (hA : Bs w w.heap.size A n xs) (hn : n ≤ 1000000) :
    Calls Try.prog 21 #[.slice A n c, .int .i64 u, .int .i64 cd, .int .i64 k] w fun e w' =>
      ∃ v ys, e = .returned (.tuple #[v, .int .i64 (layU n u cd k), .int .i64 (layE n u cd k)]) ∧ LayR xs n u cd k ys ∧ Hands v w' ys ∧ Below w.heap.size w w' := by
  unfold layU layE LayR
  by_cases h : LayIn n u cd k
  · simp only [if_pos h]
    obtain ⟨h1, h2, h3, h4, h5, h6, h7⟩ := h
    refine (rlay_ok A n c xs u cd k w hA h5 h3 h1 h2 h4 h6 h7 hn).mono ?_
    rintro e w' ⟨v, ys, rfl, hl, ho, hb⟩
    exact ⟨v, ys, rfl, hl, ho.hands, hb⟩
  · simp only [if_neg h]
    refine (rlay_no A n c u cd k w h hn).mono ?_
    rintro e w' ⟨rfl, rfl⟩
    exact ⟨_, [], rfl, rfl, Hands.nil_ _, Below.refl _ _⟩
set_option maxRecDepth 100000 in
theorem tells_great (A A' : Option Addr) (n c n' c' : Nat) (a2 a3 a4 a5 a6 a7 : Int) (w : World) (h : 300 < n ∨ 300 < n') (hm : n ≤ maxLen) (hm' : n' ≤ maxLen) :
    Calls Try.prog 3 #[.slice A n c, .slice A' n' c', .int .i64 a2, .int .i64 a3, .int .i64 a4, .int .i64 a5, .int .i64 a6, .int .i64 a7] w fun e w' => e = .returned (.bool true) ∧ Below w.heap.size w w' := by
  unfold maxLen at hm hm'
  by_cases h1 : 300 < n
  · clear h
    go_enter Try.func3, Try.ntmps3
    go_wp2_with (go_at_call 8; refine (wakes_any _).mono ?_; rintro e w' ⟨rfl, hb⟩)
    go_ret
    exact ⟨rfl, hb⟩
  · have d1 : decide (300 < (n' : Int)) = true := by simp; omega
    clear h
    go_enter Try.func3, Try.ntmps3
    go_wp2_with (go_at_call 8; refine (wakes_any _).mono ?_; rintro e w' ⟨rfl, hb⟩)
    go_ret
    exact ⟨rfl, hb⟩
end Go.Proofs.Ytfglpnfegfcmeaa
