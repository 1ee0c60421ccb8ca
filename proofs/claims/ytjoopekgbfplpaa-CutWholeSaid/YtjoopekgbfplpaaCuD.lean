/- Package cut: the iterator of whole frames. -/
import Derived.Test.YtjoopekgbfplpaaCuC
import Derived.Test.YtjoopekgbfplpaaGSeqS
import Derived.Stop.RegionWithIn
namespace Go.Proofs.Ytjoopekgbfplpaa
open Go.RowKit Oct Cu Go.Shelf
set_option linter.unusedVariables false
set_option linter.unusedSimpArgs false
attribute [local go_sem] Oper.semAt_some

def totL (l : List Pq) : Nat := ((l.map (·.f)).flatten).length
theorem totL_add (l : List Pq) (x : Pq) : totL (l ++ [x]) = totL l + x.f.length := by simp [totL]
/-- What is known of a piece that the iterator yields. -/
def VP (n0 : Nat) (xs : List UInt8) (pre : List Pq) (x : Pq) (W : World) : Prop := PayB W x ∧ (∀ k, payOn x k → n0 ≤ k) ∧ 9 ≤ x.f.length ∧ totL pre + x.f.length ≤ xs.length ∧ ∀ k, payOn x k → ∃ cs fr, W.heap[k]? = some (.cells cs 5 fr)
def pqv (x : Pq) : Value := .agg #[.int .i64 (hL x.f), .int .u8 (hK x.f), .int .u8 (hF x.f), .int .i64 (hS x.f), .slice x.A (x.f.length - 9) x.c]
/-- A step of the iterator's own: its variable turns. -/
def StB (B1 : Nat) (A B : World) : Prop := ∃ v, B = A.setCell ⟨B1, 0, none⟩ v
/-- What a round keeps: the cells of the blocks of p, and all blocks' places. -/
def KeepZ (p : Nat → Prop) (A B : World) : Prop := KeepC p A B ∧ A.heap.size ≤ B.heap.size
theorem Bs.setOther {w : World} {B n g i : Nat} {A : Option Addr} {xs : List UInt8} {v : Value} (h : Bs w B A n xs) (hne : ∀ b o, A = some ⟨b, o, none⟩ → b ≠ g) : Bs (w.setCell ⟨g, i, none⟩ v) B A n xs :=
  ⟨h.1, fun hn => by
    obtain ⟨b, o, e, hb, hc⟩ := h.2 hn
    exact ⟨b, o, e, hb, fun j hj => (World.cell?_setCell_other w _ _ v (fun e2 => hne b o e (congrArg Addr.block e2).symm)).trans (hc j hj)⟩⟩
def cellLen (w : World) (B1 : Nat) : Nat := match w.cell? ⟨B1, 0, none⟩ with
  | some (.slice _ n _) => n
  | _ => 0
theorem cellLen_of {w : World} {B1 : Nat} {A : Option Addr} {n c : Nat} (h : w.cell? ⟨B1, 0, none⟩ = some (.slice A n c)) : cellLen w B1 = n := by unfold cellLen; rw [h]
theorem c_pieces (A : Option Addr) (n c : Nat) (w : World) :
    Calls Try.prog 19 #[.slice A n c] w fun e w' =>
      e = .returned (.func (.func 29) #[] #[.pointer (some ⟨w.heap.size, 0, none⟩)]) ∧ w.alloc (.cells #[.slice A n c] 22) = w' := by
  go_enter Try.func19, Try.ntmps19
  go_wp2
  go_ret
  exact ⟨rfl, rfl⟩
set_option maxRecDepth 100000 in
set_option maxHeartbeats 4000000 in
theorem pieces1_in (k : Nat) (hk : 1 ≤ k) (l B1 n0 bk : Nat) (A : Option Addr) (n c : Nat) (xs : List UInt8) (p : Nat → Prop) (J : List Pq → World → Prop) (W : World) (hJ : AbidesFrom W.heap.size J) (hSt : ∀ (pre : List Pq) (A B : World), J pre A → StB B1 A B → J pre B)
    (hY : ∀ pre (x : Pq) W1, J pre W1 → VP n0 xs pre x W1 → pre.length < xs.length → YieldAt Fence.wide (k - 1) Try.prog l #[pqv x] W1 fun e W' => e = .returned (.bool true) ∧ J (pre ++ [x]) W' ∧ KeepZ p W1 W')
    (hp1 : p B1) (hpk : p bk) (hB1 : B1 < n0) (hbk : bk < n0) (hne : bk ≠ B1) (hn0 : n0 ≤ W.heap.size)
    (hc : W.heap[B1]? = some (.cells #[.slice A n c] 22)) (hA : Bs W n0 A n xs) (hAk : 0 < n → ∃ o, A = some ⟨bk, o, none⟩) (hnc : n ≤ c) (hN : A = none → c = 0) (hn : n ≤ 100000) (h0 : J [] W) :
    CallsIn Fence.wide k Try.prog 29 #[.func (.yield l) #[] #[], .pointer (some ⟨B1, 0, none⟩)] W fun e W' => (∃ v, e = .returned v) ∧ ∃ ys : List Pq, ys.map (·.f) = fs xs ∧ J ys W' := by
  have HY := Lib.hid hY
  have HJ := Lib.hid hJ
  have HST := Lib.hid hSt
  clear hY hJ hSt
  refine callsIn_of_wp Try.func29 rfl trivial ?_ rfl
  simp only [Try.ntmps29, List.size_toArray, List.length_cons, List.length_nil, Nat.reduceAdd, Nat.reduceSub, Array.replicate_succ, Array.replicate_zero, List.push_toArray, List.append_toArray, List.nil_append, List.cons_append]
  gi_wp2
  have HC := Lib.hid hc
  clear hc
  gi_loopw [3, 4, 5] (fun _ _ _ wr => ∃ (j : Nat) (A1 : Option Addr) (n1 c1 : Nat) (ys : List Pq), wr.heap[B1]? = some (.cells #[.slice A1 n1 c1] 22) ∧ Bs wr n0 A1 n1 (cutR j xs) ∧ (0 < n1 → ∃ o, A1 = some ⟨bk, o, none⟩) ∧ n1 ≤ c1 ∧ (A1 = none → c1 = 0) ∧ ys.map (·.f) = cutF j xs ∧ J ys wr ∧ W.heap.size ≤ wr.heap.size) (fun _ _ _ wr => cellLen wr B1)
  case atStart => exact ⟨0, A, n, c, [], HC.out, hA, hAk, hnc, hN, rfl, h0, Nat.le_refl _⟩
  case round =>
    obtain ⟨j, A1, n1, c1, ys, hcell, hbs, hbk1, hnc1, hN1, hys, hJ1, hsz⟩ := hrel
    have hn1 : n1 ≤ n := by
      have h1 := hbs.1
      have h2 := cut_len j xs
      have h3 := hA.1
      omega
    have hlen1 : (cutR j xs).length = n1 := hbs.1
    have hcb : wr.cell? ⟨B1, 0, none⟩ = some (.slice A1 n1 c1) := cells1_row hcell
    have HCELL := Lib.hid hcell
    have HBS := Lib.hid hbs
    have HBK := Lib.hid hbk1
    have HYS := Lib.hid hys
    have HJ1 := Lib.hid hJ1
    clear hcell hbs hbk1 hys hJ1
    by_cases h9 : 9 ≤ n1
    · obtain ⟨o1, rfl⟩ := HBK.out (by omega)
      have hHd : ∀ w0, Bs w0 w0.heap.size (some ⟨bk, o1, none⟩) n1 (cutR j xs) → Calls Try.prog 20 #[.slice (some ⟨bk, o1, none⟩) n1 c1] w0 fun e w' => e = .returned (.tuple #[.agg #[.int .i64 (hL (cutR j xs)), .int .u8 (hK (cutR j xs)), .int .u8 (hF (cutR j xs)), .int .i64 (hS (cutR j xs))], .bool true]) ∧ Below w0.heap.size w0 w' :=
        fun w0 h => c_headOf_yes _ _ _ _ _ h h9 hnc1
      have hB0 : Bs wr wr.heap.size (some ⟨bk, o1, none⟩) n1 (cutR j xs) := HBS.out.more (by omega)
      have HB0 := Lib.hid hB0
      clear hB0
      by_cases hL1 : hL (cutR j xs) ≤ 16384
      · by_cases h2 : 9 + hL (cutR j xs) ≤ n1
        · have hF : Fits (cutR j xs) := ⟨by omega, hL1, by omega⟩
          have hmore := cut_more j xs hF
          have hht := hd_take (cutR j xs) (9 + hL (cutR j xs)) (by omega)
          have hfl : ((cutR j xs).take (9 + hL (cutR j xs))).length = 9 + hL (cutR j xs) := by rw [List.length_take]; omega
          have hfd : ((cutR j xs).take (9 + hL (cutR j xs))).drop 9 = ((cutR j xs).drop 9).take (hL (cutR j xs)) := by rw [List.drop_take]; congr 1; omega
          have HD := Lib.hid hHd
          have HM := Lib.hid hmore
          have HHT := Lib.hid hht
          have HFL := Lib.hid hfl
          have HFD := Lib.hid hfd
          clear hHd hmore hht hfl hfd hF
          obtain ⟨L, hLe⟩ : ∃ L, hL (cutR j xs) = L := ⟨_, rfl⟩
          obtain ⟨K, hKe⟩ : ∃ K, hK (cutR j xs) = K := ⟨_, rfl⟩
          obtain ⟨F, hFe⟩ : ∃ F, hF (cutR j xs) = F := ⟨_, rfl⟩
          obtain ⟨S, hSe⟩ : ∃ S, hS (cutR j xs) = S := ⟨_, rfl⟩
          rw [hLe] at h2 hL1
          rw [hLe, hKe, hFe, hSe] at HD HHT
          rw [hLe] at HM HFL HFD
          have HLE := Lib.hid hLe
          clear hLe hKe hFe hSe
          have HT := Lib.hid ((HBS.out.cut h9 hnc1).take (k := L) (by omega))
          have HR := Lib.hid (HBS.out.cut (k := 9 + L) h2 hnc1)
          obtain ⟨A2, hA2⟩ : ∃ A2, (if c1 = 9 then some (⟨bk, o1, none⟩ : Addr) else some ⟨bk, o1 + 9, none⟩) = A2 := ⟨_, rfl⟩
          obtain ⟨A3, hA3⟩ : ∃ A3, (if c1 = 9 + L then some (⟨bk, o1, none⟩ : Addr) else some ⟨bk, o1 + (9 + L), none⟩) = A3 := ⟨_, rfl⟩
          have hN2 : A2 = none → c1 - 9 = 0 := fun h => if_some_ne (hA2.trans h)
          have hN3 : A3 = none → c1 - (9 + L) = 0 := fun h => if_some_ne (hA3.trans h)
          have hK3 : ∃ o, A3 = some ⟨bk, o, none⟩ := by rw [← hA3]; split <;> exact ⟨_, rfl⟩
          have HN2 := Lib.hid hN2
          have HN3 := Lib.hid hN3
          have HK3 := Lib.hid hK3
          clear hN2 hN3 hK3
          rw [hA2] at HT
          rw [hA3] at HR
          have s1 : IntKind.i64.wrap (9 + (L : Int)) = 9 + (L : Int) := IntWalk.i64_in _ (by omega)
          have s2 : 0 ≤ 9 + (L : Int) := by omega
          have s3 : (9 + (L : Int)).toNat = 9 + L := by omega
          have s4 : 9 ≤ 9 + (L : Int) := by omega
          have s5 : 9 + (L : Int) ≤ (c1 : Int) := by omega
          have s6 : 9 + (L : Int) ≤ (n1 : Int) := by omega
          have s9 : (9 : Int) ≤ (n1 : Int) := by omega
          have s10 : (9 : Int) ≤ (c1 : Int) := by omega
          have hb1 : decide ((16384 : Int) < (L : Int)) = false := decide_eq_false (by omega)
          have hb2 : decide ((L : Int) ≤ (n1 : Int) - 9) = true := decide_eq_true (by omega)
          gi_wp2_with (first
            | go_skip
            | (refine ⟨trivial, ?_⟩; gi_at_call 20; (with_reducible refine (callsIn_wide.2 (HD.out wr HB0.out)).mono ?_); rintro e w1 ⟨rfl, hb3⟩; have HB1 := Lib.hid hb3; have hz1 := hb3.size; have hcb1 : w1.cell? ⟨B1, 0, none⟩ = some (.slice (some ⟨bk, o1, none⟩) n1 c1) := (hb3.cell (p := ⟨B1, 0, none⟩) (by simp only; omega)).trans hcb; clear hb3 hcb)
            | (refine ⟨trivial, ?_⟩; gi_at_call 21; (with_reducible refine (callsIn_wide.2 (c_tooLong' _ _ _ _ false hb1 _)).mono ?_); rintro e w2 ⟨rfl, hb3⟩; obtain ⟨q0, q1, q2, q3⟩ := (Four.new w1 38 (.int .i64 L) (.int .u8 K) (.int .u8 F) (.int .i64 S)).below hb3 (by simp); have hcb2 : w2.cell? ⟨B1, 0, none⟩ = some (.slice (some ⟨bk, o1, none⟩) n1 c1) := (hb3.cell (p := ⟨B1, 0, none⟩) (by simp; omega)).trans ((World.cell?_alloc_lt w1 _ _ (by simp only; omega)).trans hcb1); have HB2 := Lib.hid (below_lit HB1.out hb3); have hz2 := hb3.size; simp only [World.size_alloc] at hz2; clear hb3 hcb1)
            | (refine ⟨trivial, ?_⟩; gi_at_call 28; (with_reducible refine (callsIn_wide.2 (c_whole' _ _ _ _ _ n1 _ (by omega) true hb2 _)).mono ?_); rintro e w3 ⟨rfl, hb3⟩; have HQ3 := Lib.hid (Four.below (g := w1.heap.size) ⟨q0, q1, q2, q3⟩ hb3 (by omega)); have hcb3 : w3.cell? ⟨B1, 0, none⟩ = some (.slice (some ⟨bk, o1, none⟩) n1 c1) := (hb3.cell (p := ⟨B1, 0, none⟩) (by simp only; omega)).trans hcb2; have HB3 := Lib.hid (below_step HB2.out hb3); have hz3 := hb3.size; clear hb3 hcb2 q0 q1 q2 q3; obtain ⟨q0, q1, q2, q3⟩ := HQ3.out)
            | (refine ⟨trivial, ?_⟩; go_at_K))
          have hT3 : Bs w3.drew w3.drew.heap.size A2 L (((cutR j xs).drop 9).take L) := ((HT.out.below (HB3.out.mono (by omega))).drew).more (show n0 ≤ w3.heap.size by omega)
          have HT3 := Lib.hid hT3
          have hz3' : w1.heap.size < w3.heap.size := by omega
          clear hT3
          have hvp : ∀ (w4 : World) A4 c4, HandS w4 w3.drew.heap.size A4 L c4 (((cutR j xs).drop 9).take L) → (∀ k o, A4 = some ⟨k, o, none⟩ → ∃ cs fr, w4.heap[k]? = some (.cells cs 5 fr)) → VP n0 xs ys ⟨(cutR j xs).take (9 + L), A4, c4⟩ w4 := fun w4 A4 c4 hh hty => by
            have hfl := HFL.out
            have hfd := HFD.out
            have e9 : 9 + L - 9 = L := by omega
            refine ⟨⟨?_, ?_, hh.2.2.2⟩, fun k hk => ?_, ?_, ?_, fun k hk => hty k _ hk.2.choose_spec⟩
            · simp only
              rw [hfl, hfd, e9]
              exact hh.1
            · simp only
              rw [hfl, e9]
              exact hh.2.2.1
            · obtain ⟨hk1, o, e⟩ := hk
              simp only at hk1 e
              rw [hfl, e9] at hk1
              have := hh.2.1 hk1 k o e
              have h3 : w3.drew.heap.size = w3.heap.size := rfl
              omega
            · simp only
              omega
            · have h1 := congrArg List.length (cut_all j xs)
              rw [List.length_append, ← HYS.out] at h1
              unfold totL
              simp only
              omega
          have hpv : ∀ A4 c4, pqv ⟨(cutR j xs).take (9 + L), A4, c4⟩ = .agg #[.int .i64 L, .int .u8 K, .int .u8 F, .int .i64 S, .slice A4 L c4] := fun A4 c4 => by
            have h1 := HHT.out
            have e9 : 9 + L - 9 = L := by omega
            unfold pqv
            simp only
            rw [h1.1, h1.2.1, h1.2.2.1, h1.2.2.2, HFL.out, e9]
          have hyl : ys.length < xs.length := by
            have h1 := cut_len j xs
            have h2 : ys.length = (cutF j xs).length := by rw [← HYS.out, List.length_map]
            omega
          have HVP := Lib.hid hvp
          have HPV := Lib.hid hpv
          have HYL := Lib.hid hyl
          clear hvp hpv hyl
          gi_region_with (first
            | (refine ⟨trivial, ?_⟩; gi_at_call 22; (with_reducible refine (callsIn_wide.2 (c_own2 A2 L (c1 - 9) _ _ HT3.out HN2.out (by omega))).mono ?_); rintro e w4 ⟨A4, c4, rfl, hh, hty, hb4⟩; have HB4 := Lib.hid (below_step HB3.out.drew hb4); have hz4 : w3.heap.size ≤ w4.heap.size := hb4.size; obtain ⟨r0, r1, r2, r3⟩ := Four.below (g := w1.heap.size) (Four.drew ⟨q0, q1, q2, q3⟩) hb4 hz3'; have hcb4 : w4.cell? ⟨B1, 0, none⟩ = some (.slice (some ⟨bk, o1, none⟩) n1 c1) := (hb4.cell (p := ⟨B1, 0, none⟩) (show B1 < w3.heap.size by omega)).trans hcb3; obtain ⟨fn, tmps, assign, body, hy, hR⟩ := HY.out ys ⟨(cutR j xs).take (9 + L), A4, c4⟩ w4 (AbidesFrom.below HJ.out HJ1.out HB4.out) (HVP.out w4 A4 c4 hh hty) HYL.out; have HRY := Lib.hid hR; rw [show pqv ⟨(cutR j xs).take (9 + L), A4, c4⟩ = .agg #[.int .i64 L, .int .u8 K, .int .u8 F, .int .i64 S, .slice A4 L c4] from HPV.out A4 c4] at hy; clear hR hh hty hb4)
            | ((with_reducible refine HRY.out.mono ?_); rintro e w5 ⟨rfl, hJ5, hk5⟩; have HJ5 := Lib.hid hJ5; have HK5 := Lib.hid hk5; clear hJ5 hk5 hcb4 r0 r1 r2 r3; have hz5 : w4.heap.size ≤ w5.heap.size := HK5.out.2; have hcell5 : w5.heap[B1]? = some (.cells #[.slice (some ⟨bk, o1, none⟩) n1 c1] 22) := HK5.out.1 B1 _ hp1 ((HB4.out.block B1 (by omega)).trans HCELL.out) rfl; have HC5 := Lib.hid hcell5; have hcb5 := cells1_row hcell5; have hfz5 := frozen_of_row w5 B1 0 _ _ hcell5; clear hcell5))
          all_goals
            gi_wp2
            go_roundw
            case rel =>
              refine ⟨j + 1, A3, n1 - (9 + L), c1 - (9 + L), ys ++ [⟨(cutR j xs).take (9 + L), A4, c4⟩], (Go.heap_setCell_same w5 B1 0 _ _ _ HC5.out).trans rfl, ?_, fun _ => HK3.out, by omega, HN3.out, ?_, HST.out _ _ _ HJ5.out ⟨_, rfl⟩, ?_⟩
              · rw [HM.out.2]
                refine Bs.setOther (HK5.out.1.bs (HR.out.below (HB4.out.mono (by omega))) ?_) ?_
                · intro b o e
                  obtain ⟨o', e'⟩ := HK3.out
                  rw [e] at e'
                  cases e'
                  exact hpk
                · intro b o e
                  obtain ⟨o', e'⟩ := HK3.out
                  rw [e] at e'
                  cases e'
                  exact hne
              · rw [List.map_append, HYS.out, HM.out.1]; rfl
              · rw [World.size_setCell]; omega
            case measure =>
              rw [cellLen_of (World.cell?_setCell_same' _ _ _ (by rw [hcb5]; rfl)), cellLen_of (cells1_row HCELL.out)]
              omega
        · have hnf : ¬ Fits (cutR j xs) := fun h => by unfold Fits at h; omega
          have hfin := fs_at j xs hnf
          have HFIN := Lib.hid hfin
          have HD := Lib.hid hHd
          clear hfin hHd hnf
          obtain ⟨L, hLe⟩ : ∃ L, hL (cutR j xs) = L := ⟨_, rfl⟩
          obtain ⟨K, hKe⟩ : ∃ K, hK (cutR j xs) = K := ⟨_, rfl⟩
          obtain ⟨F, hFe⟩ : ∃ F, hF (cutR j xs) = F := ⟨_, rfl⟩
          obtain ⟨S, hSe⟩ : ∃ S, hS (cutR j xs) = S := ⟨_, rfl⟩
          rw [hLe] at h2 hL1
          rw [hLe, hKe, hFe, hSe] at HD
          clear hLe hKe hFe hSe
          have hb1 : decide ((16384 : Int) < (L : Int)) = false := decide_eq_false (by omega)
          have hb2 : decide ((L : Int) ≤ (n1 : Int) - 9) = false := decide_eq_false (by omega)
          gi_wp2_with (first
            | go_skip
            | (refine ⟨trivial, ?_⟩; gi_at_call 20; (with_reducible refine (callsIn_wide.2 (HD.out wr HB0.out)).mono ?_); rintro e w1 ⟨rfl, hb3⟩; have HB1 := Lib.hid hb3; have hz1 := hb3.size; have hcb1 : w1.cell? ⟨B1, 0, none⟩ = some (.slice (some ⟨bk, o1, none⟩) n1 c1) := (hb3.cell (p := ⟨B1, 0, none⟩) (by simp only; omega)).trans hcb; clear hb3 hcb)
            | (refine ⟨trivial, ?_⟩; gi_at_call 21; (with_reducible refine (callsIn_wide.2 (c_tooLong' _ _ _ _ false hb1 _)).mono ?_); rintro e w2 ⟨rfl, hb3⟩; obtain ⟨q0, q1, q2, q3⟩ := (Four.new w1 38 (.int .i64 L) (.int .u8 K) (.int .u8 F) (.int .i64 S)).below hb3 (by simp); have hcb2 : w2.cell? ⟨B1, 0, none⟩ = some (.slice (some ⟨bk, o1, none⟩) n1 c1) := (hb3.cell (p := ⟨B1, 0, none⟩) (by simp; omega)).trans ((World.cell?_alloc_lt w1 _ _ (by simp only; omega)).trans hcb1); have HB2 := Lib.hid (below_lit HB1.out hb3); clear hb3 hcb1)
            | (refine ⟨trivial, ?_⟩; gi_at_call 28; (with_reducible refine (callsIn_wide.2 (c_whole' _ _ _ _ _ n1 _ (by omega) false hb2 _)).mono ?_); rintro e w3 ⟨rfl, hb3⟩; have HB3 := Lib.hid (below_step HB2.out hb3); clear hb3)
            | (refine ⟨trivial, ?_⟩; go_at_K))
          refine bodyPost_ret (results_none rfl _ _ _) rfl ⟨⟨_, rfl⟩, ys, HYS.out.trans HFIN.out.1, ?_⟩
          exact AbidesFrom.below HJ.out HJ1.out HB3.out
      · have hnf : ¬ Fits (cutR j xs) := fun h => by unfold Fits at h; omega
        have hfin := fs_at j xs hnf
        have HFIN := Lib.hid hfin
        have HD := Lib.hid hHd
        clear hfin hHd hnf
        obtain ⟨L, hLe⟩ : ∃ L, hL (cutR j xs) = L := ⟨_, rfl⟩
        obtain ⟨K, hKe⟩ : ∃ K, hK (cutR j xs) = K := ⟨_, rfl⟩
        obtain ⟨F, hFe⟩ : ∃ F, hF (cutR j xs) = F := ⟨_, rfl⟩
        obtain ⟨S, hSe⟩ : ∃ S, hS (cutR j xs) = S := ⟨_, rfl⟩
        rw [hLe] at hL1
        rw [hLe, hKe, hFe, hSe] at HD
        clear hLe hKe hFe hSe
        have hb1 : decide ((16384 : Int) < (L : Int)) = true := decide_eq_true (by omega)
        gi_wp2_with (first
          | go_skip
          | (refine ⟨trivial, ?_⟩; gi_at_call 20; (with_reducible refine (callsIn_wide.2 (HD.out wr HB0.out)).mono ?_); rintro e w1 ⟨rfl, hb3⟩; have HB1 := Lib.hid hb3; have hz1 := hb3.size; clear hb3)
          | (refine ⟨trivial, ?_⟩; gi_at_call 21; (with_reducible refine (callsIn_wide.2 (c_tooLong' _ _ _ _ true hb1 _)).mono ?_); rintro e w2 ⟨rfl, hb3⟩; have HB2 := Lib.hid (below_lit HB1.out hb3); clear hb3)
          | (refine ⟨trivial, ?_⟩; go_at_K))
        refine bodyPost_ret (results_none rfl _ _ _) rfl ⟨⟨_, rfl⟩, ys, HYS.out.trans HFIN.out.1, ?_⟩
        exact AbidesFrom.below HJ.out HJ1.out HB2.out
    · have hnf : ¬ Fits (cutR j xs) := fun h => by unfold Fits at h; omega
      have hfin := fs_at j xs hnf
      have HFIN := Lib.hid hfin
      clear hfin
      gi_wp2_with (first
        | go_skip
        | (refine ⟨trivial, ?_⟩; gi_at_call 20; (with_reducible refine (callsIn_wide.2 (c_headOf_no A1 n1 c1 wr (by omega))).mono ?_); rintro e w1 ⟨rfl, hb1⟩; have HB1 := Lib.hid hb1; have hb1s := hb1.size; clear hb1)
        | (refine ⟨trivial, ?_⟩; go_at_K))
      refine bodyPost_ret (results_none rfl _ _ _) rfl ⟨⟨_, rfl⟩, ys, HYS.out.trans HFIN.out.1, ?_⟩
      exact AbidesFrom.below HJ.out (AbidesFrom.below HJ.out HJ1.out HB1.out) ((Below.refl _ w1).alloc (Nat.le_refl _) _)
/-- The whole frames, as an iterator's word. -/
theorem pieces_stops (k : Nat) (hk : 1 ≤ k) (B1 bk : Nat) (A : Option Addr) (n c : Nat) (xs : List UInt8) (p : Nat → Prop) (w : World) (hp1 : p B1) (hpk : p bk) (hB1 : B1 < w.heap.size) (hbk : bk < w.heap.size) (hne : bk ≠ B1)
    (hc : w.heap[B1]? = some (.cells #[.slice A n c] 22)) (hA : Bs w w.heap.size A n xs) (hAk : 0 < n → ∃ o, A = some ⟨bk, o, none⟩) (hnc : n ≤ c) (hN : A = none → c = 0) (hn : n ≤ 100000) :
    SeqS Fence.wide k Try.prog 29 #[.pointer (some ⟨B1, 0, none⟩)] (fun x : Pq => #[.agg #[.int .i64 (hL x.f), .int .u8 (hK x.f), .int .u8 (hF x.f), .int .i64 (hS x.f), .slice x.A (x.f.length - 9) x.c]]) (KeepZ p) (StB B1) (VP w.heap.size xs) (fun ys => ys.map (·.f) = fs xs) xs.length w := fun l J W hW hJ hSt hY h0 =>
  pieces1_in k hk l B1 w.heap.size bk A n c xs p J W hJ hSt hY hp1 hpk hB1 hbk hne hW.size ((hW.block B1 hB1).trans hc) (hA.below hW) hAk hnc hN hn h0
end Go.Proofs.Ytjoopekgbfplpaa
