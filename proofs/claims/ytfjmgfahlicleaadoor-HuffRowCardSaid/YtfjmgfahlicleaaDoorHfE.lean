/- Package huff: newBook. -/
import Derived.Test.YtfjmgfahlicleaaDoorHfD
import Derived.Lib.Strings
namespace Go.Proofs.YtfjmgfahlicleaaDoor
open Go.RowKit Hf
set_option linter.unusedVariables false
set_option linter.unusedSimpArgs false
theorem Hf.book_below {B : Nat} {w w1 : World} (hB : B ≤ w.heap.size) (h : w.drew.grownBy w1 (some B)) : Below B w w1 :=
  ((Below.refl B w).drew).grown h hB (fun k e => by cases e; exact Nat.le_refl _)
theorem Hf.key3F : ∀ j : Fin 13, (shelf (3 + j.val)).1 = 112 + j.val ∧ (shelf (3 + j.val)).2.1 = 11 := by decide +kernel
theorem Hf.key3 (j : Nat) (hj : j < 13) : keyV (3 + j) = .agg #[.int .i64 (((1792 + 16 * j : Nat) : Int) / 16), .int .i64 11] := by
  have h := key3F ⟨j, hj⟩
  simp only at h
  unfold keyV
  rw [h.1, h.2, show ((1792 + 16 * j : Nat) : Int) / 16 = ((112 + j : Nat) : Int) by omega]
  rfl
theorem Hf.ne_empty {s : ByteArray} (h : 16 ≤ s.size) : (!s.toList.isEmpty) = true := by
  cases hs : s.toList with
  | nil =>
    have h1 : s.size = s.data.toList.length := Lib.size_eq s
    rw [Lib.toList_data] at hs
    rw [hs, List.length_nil] at h1
    omega
  | cons a l => rfl
theorem Hf.is_empty {s : ByteArray} (h : s.size = 0) : (!s.toList.isEmpty) = false := by
  have h1 : s.size = s.data.toList.length := Lib.size_eq s
  rw [Lib.toList_data, List.eq_nil_of_length_eq_zero (h1.symm.trans h)]
  rfl
set_option maxRecDepth 100000 in
set_option maxHeartbeats 2000000 in
theorem h_book (w : World) (hR : Rws w) :
    Calls Tryd.prog 27 #[] w fun e w' => e = .returned (.map (some w.heap.size)) ∧ MapL w' Tryd.prog 61 w.heap.size (bookL 16) ∧ Below w.heap.size w w' := by
  have HR := Lib.hid hR
  have hR1 : Rws (w.alloc (.map #[] 0)) := hR.on ((Below.refl _ w).alloc (Nat.le_refl _) _)
  have HR1 := Lib.hid hR1
  clear hR hR1
  have hr0 : (Instr.makeMap 47 (some (.int .i64 16))).run Tryd.prog w = .ok (.map (some w.heap.size)) (w.alloc (.map #[] 0)) := by rfl
  go_enter Tryd.func27, Tryd.ntmps27
  go_wp2_with (with_reducible refine wpList_load_rows HR1.out rfl rfl ?_)
  go_loopw [8] (fun t wr => ∃ k : Nat, k ≤ 4 ∧ t = .int .i64 (k : Int) ∧ MapL wr Tryd.prog 61 w.heap.size (bookL (if k = 4 then 16 else k)) ∧ Below w.heap.size w wr) (fun t _ => 4 - (intOf t).toNat)
  case atStart => exact ⟨0, Nat.zero_le _, rfl, MapL.made w _ _, (Below.refl _ _).alloc (Nat.le_refl _) _⟩
  case round =>
    obtain ⟨k, hk, rfl, hm, hbel⟩ := hrel
    obtain ⟨wo, rfl⟩ : ∃ wo : World, wo = wr := ⟨_, rfl⟩
    have HB := Lib.hid hbel
    have HM := Lib.hid hm
    have hk4 : k = 0 ∨ k = 1 ∨ k = 2 ∨ k = 3 ∨ k = 4 := by omega
    clear hbel hm hr0
    obtain rfl | rfl | rfl | rfl | rfl := hk4
    · have i0 := idx0 wo
      go_wp2
      have hz0 := HB.out.size
      have hmm : MapL (wo.alloc (.cells #[.int .i64 5, .int .i64 0, .string (rowS 0)] 42)) Tryd.prog 61 w.heap.size (bookL 0) := HM.out.below ((Below.refl _ _).alloc (Nat.le_refl _) _)
      have hbb : Below w.heap.size w (wo.alloc (.cells #[.int .i64 5, .int .i64 0, .string (rowS 0)] 42)) := HB.out.alloc hz0 _
      have hltb := HM.out.lt
      obtain ⟨g, hg⟩ : ∃ g, wo.heap.size = g := ⟨_, rfl⟩
      have hbox : (wo.alloc (.cells #[.int .i64 5, .int .i64 0, .string (rowS 0)] 42)).heap[g]? = some (.cells #[.int .i64 5, .int .i64 0, .string (rowS 0)] 42) := by rw [← hg]; exact World.alloc_heap_new wo _
      rw [hg] at hz0 hltb ⊢
      have HBX := Lib.hid hbox
      clear hbox
      go_loopw [4, 5] (fun t u wi => ∃ j : Nat, j ≤ 1 ∧ t = .int .i64 ((0 + 16 * j : Nat) : Int) ∧ u = .string (rest 0 j) ∧ MapL wi Tryd.prog 61 w.heap.size (bookL (0 + j)) ∧ Below w.heap.size w wi ∧ wi.heap[g]? = some (.cells #[.int .i64 5, .int .i64 0, .string (rowS 0)] 42)) (fun _ u _ => match u with | .string s => s.size | _ => 0)
      case atStart => exact ⟨0, Nat.zero_le _, rfl, rfl, hmm, hbb, HBX.out⟩
      case round =>
        obtain ⟨j, hj, rfl, rfl, hmi, hbi, hgi⟩ := hrel
        have HMI := Lib.hid hmi
        have HBI := Lib.hid hbi
        have HGI := Lib.hid hgi
        clear hmi hbi hgi hmm hbb
        by_cases hlt : j < 1
        · obtain rfl : j = 0 := by omega
          have hcut := rest_cut 0 (by omega)
          have hkey : keyV (0 + 0) = .agg #[.int .i64 (((0 + 16 * 0 : Nat) : Int) / 16), .int .i64 5] := rfl
          have hC0 : 0 + 16 * 0 ≤ 2000 := by omega
          have hC1 : 0 + 16 * 0 + 16 = 0 + 16 * (0 + 1) := by omega
          have he := ne_empty (show 16 ≤ (rest 0 0).size from by rw [hcut.2.2.1]; exact Nat.le_refl _)
          obtain ⟨w1, hrun, hm1, hg1⟩ := book_put (0 + 0) (by omega) wr.drew w.heap.size (HMI.out.same rfl)
          rw [hkey, ← hcut.1] at hrun
          have HM1 := Lib.hid hm1
          have HG1 := Lib.hid hg1
          have HCUT := Lib.hid hcut
          have c0 := cell_of_row wr g 0 _ _ _ HGI.out
          have c1 : wr.cell? ⟨g, 0, none⟩ = some (.int .i64 5) := c0
          have hsz : 16 ≤ (rest 0 0).size := by rw [hcut.2.2.1]; exact Nat.le_refl _
          have isz : (16 : Int) ≤ ((rest 0 0).size : Int) := by omega
          clear c0 hm1 hg1 hcut hkey
          generalize 0 + 16 * 0 = C at hrun hC0 hC1 ⊢
          have HC1 := Lib.hid hC1
          clear hC1
          go_wp2
          go_region
          go_wp2
          go_roundw
          case rel => exact ⟨0 + 1, by omega, by rw [← HC1.out]; go_num, by rw [HCUT.out.2.1], HM1.out, HBI.out.trans (book_below (HBI.out.size) HG1.out), (HG1.out.block g (Array.getElem?_eq_some_iff.1 HGI.out).1 (fun e => by cases e; omega)).trans HGI.out⟩
          case measure => show ((rest 0 0).extract 16 (rest 0 0).size).size < (rest 0 0).size; rw [HCUT.out.2.1, rest_size, rest_size]; have := row_len ⟨0, by omega⟩; (try simp only at this); omega
        · obtain rfl : j = 1 := by omega
          have he := is_empty (rest_cut 0 (by omega)).2.2.2
          go_wp2
          go_roundw
          case rel => exact ⟨1, by omega, rfl, HMI.out, HBI.out⟩
          case measure => simp [intOf]
    · have i1 := idx1 wo
      go_wp2
      have hz0 := HB.out.size
      have hmm : MapL (wo.alloc (.cells #[.int .i64 6, .int .i64 32, .string (rowS 1)] 42)) Tryd.prog 61 w.heap.size (bookL 1) := HM.out.below ((Below.refl _ _).alloc (Nat.le_refl _) _)
      have hbb : Below w.heap.size w (wo.alloc (.cells #[.int .i64 6, .int .i64 32, .string (rowS 1)] 42)) := HB.out.alloc hz0 _
      have hltb := HM.out.lt
      obtain ⟨g, hg⟩ : ∃ g, wo.heap.size = g := ⟨_, rfl⟩
      have hbox : (wo.alloc (.cells #[.int .i64 6, .int .i64 32, .string (rowS 1)] 42)).heap[g]? = some (.cells #[.int .i64 6, .int .i64 32, .string (rowS 1)] 42) := by rw [← hg]; exact World.alloc_heap_new wo _
      rw [hg] at hz0 hltb ⊢
      have HBX := Lib.hid hbox
      clear hbox
      go_loopw [4, 5] (fun t u wi => ∃ j : Nat, j ≤ 1 ∧ t = .int .i64 ((32 + 16 * j : Nat) : Int) ∧ u = .string (rest 1 j) ∧ MapL wi Tryd.prog 61 w.heap.size (bookL (1 + j)) ∧ Below w.heap.size w wi ∧ wi.heap[g]? = some (.cells #[.int .i64 6, .int .i64 32, .string (rowS 1)] 42)) (fun _ u _ => match u with | .string s => s.size | _ => 0)
      case atStart => exact ⟨0, Nat.zero_le _, rfl, rfl, hmm, hbb, HBX.out⟩
      case round =>
        obtain ⟨j, hj, rfl, rfl, hmi, hbi, hgi⟩ := hrel
        have HMI := Lib.hid hmi
        have HBI := Lib.hid hbi
        have HGI := Lib.hid hgi
        clear hmi hbi hgi hmm hbb
        by_cases hlt : j < 1
        · obtain rfl : j = 0 := by omega
          have hcut := rest_cut 1 (by omega)
          have hkey : keyV (1 + 0) = .agg #[.int .i64 (((32 + 16 * 0 : Nat) : Int) / 16), .int .i64 6] := rfl
          have hC0 : 32 + 16 * 0 ≤ 2000 := by omega
          have hC1 : 32 + 16 * 0 + 16 = 32 + 16 * (0 + 1) := by omega
          have he := ne_empty (show 16 ≤ (rest 1 0).size from by rw [hcut.2.2.1]; exact Nat.le_refl _)
          obtain ⟨w1, hrun, hm1, hg1⟩ := book_put (1 + 0) (by omega) wr.drew w.heap.size (HMI.out.same rfl)
          rw [hkey, ← hcut.1] at hrun
          have HM1 := Lib.hid hm1
          have HG1 := Lib.hid hg1
          have HCUT := Lib.hid hcut
          have c0 := cell_of_row wr g 0 _ _ _ HGI.out
          have c1 : wr.cell? ⟨g, 0, none⟩ = some (.int .i64 6) := c0
          have hsz : 16 ≤ (rest 1 0).size := by rw [hcut.2.2.1]; exact Nat.le_refl _
          have isz : (16 : Int) ≤ ((rest 1 0).size : Int) := by omega
          clear c0 hm1 hg1 hcut hkey
          generalize 32 + 16 * 0 = C at hrun hC0 hC1 ⊢
          have HC1 := Lib.hid hC1
          clear hC1
          go_wp2
          go_region
          go_wp2
          go_roundw
          case rel => exact ⟨0 + 1, by omega, by rw [← HC1.out]; go_num, by rw [HCUT.out.2.1], HM1.out, HBI.out.trans (book_below (HBI.out.size) HG1.out), (HG1.out.block g (Array.getElem?_eq_some_iff.1 HGI.out).1 (fun e => by cases e; omega)).trans HGI.out⟩
          case measure => show ((rest 1 0).extract 16 (rest 1 0).size).size < (rest 1 0).size; rw [HCUT.out.2.1, rest_size, rest_size]; have := row_len ⟨1, by omega⟩; (try simp only at this); omega
        · obtain rfl : j = 1 := by omega
          have he := is_empty (rest_cut 1 (by omega)).2.2.2
          go_wp2
          go_roundw
          case rel => exact ⟨2, by omega, rfl, HMI.out, HBI.out⟩
          case measure => simp [intOf]
    · have i2 := idx2 wo
      go_wp2
      have hz0 := HB.out.size
      have hmm : MapL (wo.alloc (.cells #[.int .i64 7, .int .i64 96, .string (rowS 2)] 42)) Tryd.prog 61 w.heap.size (bookL 2) := HM.out.below ((Below.refl _ _).alloc (Nat.le_refl _) _)
      have hbb : Below w.heap.size w (wo.alloc (.cells #[.int .i64 7, .int .i64 96, .string (rowS 2)] 42)) := HB.out.alloc hz0 _
      have hltb := HM.out.lt
      obtain ⟨g, hg⟩ : ∃ g, wo.heap.size = g := ⟨_, rfl⟩
      have hbox : (wo.alloc (.cells #[.int .i64 7, .int .i64 96, .string (rowS 2)] 42)).heap[g]? = some (.cells #[.int .i64 7, .int .i64 96, .string (rowS 2)] 42) := by rw [← hg]; exact World.alloc_heap_new wo _
      rw [hg] at hz0 hltb ⊢
      have HBX := Lib.hid hbox
      clear hbox
      go_loopw [4, 5] (fun t u wi => ∃ j : Nat, j ≤ 1 ∧ t = .int .i64 ((96 + 16 * j : Nat) : Int) ∧ u = .string (rest 2 j) ∧ MapL wi Tryd.prog 61 w.heap.size (bookL (2 + j)) ∧ Below w.heap.size w wi ∧ wi.heap[g]? = some (.cells #[.int .i64 7, .int .i64 96, .string (rowS 2)] 42)) (fun _ u _ => match u with | .string s => s.size | _ => 0)
      case atStart => exact ⟨0, Nat.zero_le _, rfl, rfl, hmm, hbb, HBX.out⟩
      case round =>
        obtain ⟨j, hj, rfl, rfl, hmi, hbi, hgi⟩ := hrel
        have HMI := Lib.hid hmi
        have HBI := Lib.hid hbi
        have HGI := Lib.hid hgi
        clear hmi hbi hgi hmm hbb
        by_cases hlt : j < 1
        · obtain rfl : j = 0 := by omega
          have hcut := rest_cut 2 (by omega)
          have hkey : keyV (2 + 0) = .agg #[.int .i64 (((96 + 16 * 0 : Nat) : Int) / 16), .int .i64 7] := rfl
          have hC0 : 96 + 16 * 0 ≤ 2000 := by omega
          have hC1 : 96 + 16 * 0 + 16 = 96 + 16 * (0 + 1) := by omega
          have he := ne_empty (show 16 ≤ (rest 2 0).size from by rw [hcut.2.2.1]; exact Nat.le_refl _)
          obtain ⟨w1, hrun, hm1, hg1⟩ := book_put (2 + 0) (by omega) wr.drew w.heap.size (HMI.out.same rfl)
          rw [hkey, ← hcut.1] at hrun
          have HM1 := Lib.hid hm1
          have HG1 := Lib.hid hg1
          have HCUT := Lib.hid hcut
          have c0 := cell_of_row wr g 0 _ _ _ HGI.out
          have c1 : wr.cell? ⟨g, 0, none⟩ = some (.int .i64 7) := c0
          have hsz : 16 ≤ (rest 2 0).size := by rw [hcut.2.2.1]; exact Nat.le_refl _
          have isz : (16 : Int) ≤ ((rest 2 0).size : Int) := by omega
          clear c0 hm1 hg1 hcut hkey
          generalize 96 + 16 * 0 = C at hrun hC0 hC1 ⊢
          have HC1 := Lib.hid hC1
          clear hC1
          go_wp2
          go_region
          go_wp2
          go_roundw
          case rel => exact ⟨0 + 1, by omega, by rw [← HC1.out]; go_num, by rw [HCUT.out.2.1], HM1.out, HBI.out.trans (book_below (HBI.out.size) HG1.out), (HG1.out.block g (Array.getElem?_eq_some_iff.1 HGI.out).1 (fun e => by cases e; omega)).trans HGI.out⟩
          case measure => show ((rest 2 0).extract 16 (rest 2 0).size).size < (rest 2 0).size; rw [HCUT.out.2.1, rest_size, rest_size]; have := row_len ⟨2, by omega⟩; (try simp only at this); omega
        · obtain rfl : j = 1 := by omega
          have he := is_empty (rest_cut 2 (by omega)).2.2.2
          go_wp2
          go_roundw
          case rel => exact ⟨3, by omega, rfl, HMI.out, HBI.out⟩
          case measure => simp [intOf]
    · have i3 := idx3 wo
      go_wp2
      have hz0 := HB.out.size
      have hmm : MapL (wo.alloc (.cells #[.int .i64 11, .int .i64 1792, .string (rowS 3)] 42)) Tryd.prog 61 w.heap.size (bookL 3) := HM.out.below ((Below.refl _ _).alloc (Nat.le_refl _) _)
      have hbb : Below w.heap.size w (wo.alloc (.cells #[.int .i64 11, .int .i64 1792, .string (rowS 3)] 42)) := HB.out.alloc hz0 _
      have hltb := HM.out.lt
      obtain ⟨g, hg⟩ : ∃ g, wo.heap.size = g := ⟨_, rfl⟩
      have hbox : (wo.alloc (.cells #[.int .i64 11, .int .i64 1792, .string (rowS 3)] 42)).heap[g]? = some (.cells #[.int .i64 11, .int .i64 1792, .string (rowS 3)] 42) := by rw [← hg]; exact World.alloc_heap_new wo _
      rw [hg] at hz0 hltb ⊢
      have HBX := Lib.hid hbox
      clear hbox
      go_loopw [4, 5] (fun t u wi => ∃ j : Nat, j ≤ 13 ∧ t = .int .i64 ((1792 + 16 * j : Nat) : Int) ∧ u = .string (rest 3 j) ∧ MapL wi Tryd.prog 61 w.heap.size (bookL (3 + j)) ∧ Below w.heap.size w wi ∧ wi.heap[g]? = some (.cells #[.int .i64 11, .int .i64 1792, .string (rowS 3)] 42)) (fun _ u _ => match u with | .string s => s.size | _ => 0)
      case atStart => exact ⟨0, Nat.zero_le _, rfl, rfl, hmm, hbb, HBX.out⟩
      case round =>
        obtain ⟨j, hj, rfl, rfl, hmi, hbi, hgi⟩ := hrel
        have HMI := Lib.hid hmi
        have HBI := Lib.hid hbi
        have HGI := Lib.hid hgi
        clear hmi hbi hgi hmm hbb
        by_cases hlt : j < 13
        · skip
          have hcut := rest_cut3 j (by omega)
          have hkey : keyV (3 + j) = .agg #[.int .i64 (((1792 + 16 * j : Nat) : Int) / 16), .int .i64 11] := key3 j (by omega)
          have hC0 : 1792 + 16 * j ≤ 2000 := by omega
          have hC1 : 1792 + 16 * j + 16 = 1792 + 16 * (j + 1) := by omega
          have he := ne_empty (show 16 ≤ (rest 3 j).size from hcut.2.2)
          obtain ⟨w1, hrun, hm1, hg1⟩ := book_put (3 + j) (by omega) wr.drew w.heap.size (HMI.out.same rfl)
          rw [hkey, ← hcut.1] at hrun
          have HM1 := Lib.hid hm1
          have HG1 := Lib.hid hg1
          have HCUT := Lib.hid hcut
          have c0 := cell_of_row wr g 0 _ _ _ HGI.out
          have c1 : wr.cell? ⟨g, 0, none⟩ = some (.int .i64 11) := c0
          have hsz : 16 ≤ (rest 3 j).size := hcut.2.2
          have isz : (16 : Int) ≤ ((rest 3 j).size : Int) := by omega
          clear c0 hm1 hg1 hcut hkey
          generalize 1792 + 16 * j = C at hrun hC0 hC1 ⊢
          have HC1 := Lib.hid hC1
          clear hC1
          go_wp2
          go_region
          go_wp2
          go_roundw
          case rel => exact ⟨j + 1, by omega, by rw [← HC1.out]; go_num, by rw [HCUT.out.2.1], HM1.out, HBI.out.trans (book_below (HBI.out.size) HG1.out), (HG1.out.block g (Array.getElem?_eq_some_iff.1 HGI.out).1 (fun e => by cases e; omega)).trans HGI.out⟩
          case measure => show ((rest 3 j).extract 16 (rest 3 j).size).size < (rest 3 j).size; rw [HCUT.out.2.1, rest_size, rest_size]; have := And.intro row_len3 trivial; (try simp only at this); omega
        · obtain rfl : j = 13 := by omega
          have he := is_empty rest_end3
          go_wp2
          go_roundw
          case rel => exact ⟨4, by omega, rfl, HMI.out, HBI.out⟩
          case measure => simp [intOf]
    · go_wp2
      go_ret
      exact ⟨rfl, HM.out, HB.out⟩
end Go.Proofs.YtfjmgfahlicleaaDoor
