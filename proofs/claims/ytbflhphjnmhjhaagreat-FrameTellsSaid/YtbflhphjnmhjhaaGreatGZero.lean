/- append of so many noughts (append(s, make([]byte, k)...)) onto bytes of the call's own. Plain, over any program. -/
import Derived.Lib.AppendZerosOnto
import Derived.Test.YtbflhphjnmhjhaaGreatGApp
namespace Go.Proofs.YtbflhphjnmhjhaaGreat
open Go.RowKit

theorem zeros_u8 (k : Nat) : Builtin.zeroCells (Value.int .u8 0).cells k = ((List.replicate k (0 : UInt8)).map bv).toArray := by
  apply Array.ext'
  simp [Builtin.zeroCells, Value.cells, bv, List.map_replicate]
  apply List.ext_getElem
  · simp
  · intro j h1 h2
    simp [Nat.mod_one]
theorem run_append_room_zeros {P : Program} (w : World) (t tn ty e : TypeId) (i : TypeInfo) (z : Value) (kq kn : IntKind) (ht : P.underlying t = some (.slice e)) (htn : P.underlying tn = some (.int kn)) (hi : P.info? e = some i) (hz : i.zero = some z)
    (g sLen sCap k : Nat) (cur : Array Value) (hg : w.heap[g]? = some (.cells cur e (0, 0))) (hzs : z.cells.size = i.size) (hs : 0 < i.size)
    (h1 : ∀ u ∈ (Builtin.zeroCells z.cells k).toList, u.oneCell' = true) (hroom : sLen + k ≤ sCap) (hfit : (sLen + k) * i.size ≤ cur.size) (h63 : (k : Int) ≤ 9223372036854775807) (h48 : k * i.bytes ≤ 281474976710656) :
    (Builtin.append_ #[t, tn] ty #[.slice (some ⟨g, 0, none⟩) sLen sCap, .int kq k]).run P w =
      .ok (.slice (some ⟨g, 0, none⟩) (sLen + k) sCap) (w.setRow g (cur.toList.take (sLen * i.size) ++ (Builtin.zeroCells z.cells k).toList ++ cur.toList.drop (sLen * i.size + (Builtin.zeroCells z.cells k).toList.length)).toArray) := by
  have hl : (Builtin.zeroCells z.cells k).toList.length = k * i.size := by rw [Array.length_toList, size_zeroCells, hzs]
  have hst := run_storeCells_at P g (sLen * i.size) e (Builtin.zeroCells z.cells k).toList 0 cur w hg (by rw [hl]; rw [Nat.add_mul] at hfit; simpa using hfit) h1
  simp only [Nat.add_zero] at hst
  have hw : IntKind.i64.wrap (k : Int) = k := by rw [IntKind.wrap_i64]; omega
  have h48i : ¬ (281474976710656 < (k : Int) * (i.bytes : Int)) := by
    rw [← Int.natCast_mul]
    omega
  have hneg : ¬ ((k : Int) < 0) := by omega
  rcases Nat.eq_zero_or_pos k with h0 | h0
  · subst h0
    have hn : (Builtin.zeroCells z.cells 0).toList = [] := List.eq_nil_of_length_eq_zero (by rw [hl]; simp)
    rw [hn] at hst ⊢
    have hw0 : IntKind.i64.wrap 0 = 0 := by rw [IntKind.wrap_i64]; rfl
    simp [Builtin.append_, run_underlying ht, run_underlying htn, sizeOf, typeInfo, zeroValue, hi, hz, asInt, asIntOf, hw0, Addr.add_lit] at hst hroom ⊢
    rw [if_pos hroom]
    simp [hst]
  · have hns : ¬ (k * i.size = 0) := Nat.mul_ne_zero (by omega) (by omega)
    simp [Builtin.append_, run_underlying ht, run_underlying htn, sizeOf, typeInfo, zeroValue, hi, hz, asInt, asIntOf, hw, hneg, hns, h48i, hroom, Addr.add_lit, hst]
theorem run_append_own_zeros {P : Program} (w : World) (base : Nat) (t tn ty e : TypeId) (i : TypeInfo) (kq kn : IntKind) (ht : P.underlying t = some (.slice e)) (htn : P.underlying tn = some (.int kn)) (hi : P.info? e = some i) (hz : i.zero = some (.int .u8 0)) (hsize : i.size = 1) (hby : i.bytes = 1)
    (v : Value) (ys : List UInt8) (hown : OwnB w base e v ys) (k : Nat) (hlen : ys.length + k ≤ 1000000) (hbase : base ≤ w.heap.size) :
    ∃ v' w', (Builtin.append_ #[t, tn] ty #[v, .int kq k]).run P w = .ok v' w' ∧ OwnB w' base e v' (ys ++ List.replicate k 0) ∧ w.grownBy w' v.ownBlock ∧ (v'.ownBlock = v.ownBlock ∨ v'.ownBlock = some w.heap.size) := by
  have hzc := zeros_u8 k
  have hmap : (ys ++ List.replicate k (0 : UInt8)).map bv = ys.map bv ++ (Builtin.zeroCells (Value.int .u8 0).cells k).toList := by rw [List.map_append, hzc]
  have hkl : (Builtin.zeroCells (Value.int .u8 0).cells k).toList.length = k := by rw [hzc]; simp
  have h1 : ∀ u ∈ (Builtin.zeroCells (Value.int .u8 0).cells k).toList, u.oneCell' = true := by rw [hzc]; exact bv_one _
  have hlt : (ys ++ List.replicate k (0 : UInt8)).length = ys.length + k := by simp
  have fresh : ∀ old, old < ys.length + k → ∀ row : Option Nat,
      OwnB (w.drew.alloc (.cells ((ys.map bv).toArray ++ Builtin.zeroCells (Value.int .u8 0).cells k ++ Builtin.zeroCells (Value.int .u8 0).cells (grownCap w (ys.length + k) old e - (ys.length + k))) e)) base e
        (.slice (some ⟨w.heap.size, 0, none⟩) (ys.length + k) (grownCap w (ys.length + k) old e)) (ys ++ List.replicate k 0) ∧
      w.grownBy (w.drew.alloc (.cells ((ys.map bv).toArray ++ Builtin.zeroCells (Value.int .u8 0).cells k ++ Builtin.zeroCells (Value.int .u8 0).cells (grownCap w (ys.length + k) old e - (ys.length + k))) e)) row := by
    intro old ho row
    have hge := grownCap_ge w (ys.length + k) old e
    have hcm : grownCap w (ys.length + k) old e ≤ maxLen := grownCap_le_maxLen w (ys.length + k) old e (by unfold maxLen; omega)
    refine ⟨⟨by simp, .inr ⟨w.heap.size, _, _, by rw [hlt], hbase, heap_alloc_new w.drew _, by omega, hcm, ?_, ?_⟩⟩, ⟨rfl, rfl, rfl, by simp, fun k hk _ => Below.heap_alloc w.drew _ _ hk⟩⟩
    · simp only [Array.size_append, size_zeroCells]
      simp [Value.cells]
      omega
    · rw [hmap, hlt]
      simp only [Array.toList_append]
      exact List.take_left' (by simp [hkl])
  rcases hown.2 with ⟨rfl, h0⟩ | ⟨g, cap, cur, rfl, hbg, hg, hnc, hcm, hcs, htake⟩
  · obtain rfl : ys = [] := List.eq_nil_of_length_eq_zero h0
    rcases Nat.eq_zero_or_pos k with hk | hk
    · subst hk
      refine ⟨.slice none 0 0, w, ?_, by simpa using OwnB.nil_ w base e, World.grownBy.refl _ _, .inl rfl⟩
      have hw0 : IntKind.i64.wrap 0 = 0 := by rw [IntKind.wrap_i64]; rfl
      simp [Builtin.append_, run_underlying ht, run_underlying htn, sizeOf, typeInfo, zeroValue, hi, hz, asInt, asIntOf, hw0]
    · have hr := Lib.run_append_nil_zeros w t tn ty e i (.int .u8 0) kq kn ht htn hi hz k hk (by omega) (by omega) (by rw [hby]; omega)
      have hf := fresh 0 (by simpa using hk) (Value.ownBlock (.slice none 0 0))
      simp only [List.length_nil, Nat.zero_add, List.map_nil, List.nil_append, Array.empty_append] at hf ⊢
      exact ⟨_, _, hr, hf.1, hf.2, .inr rfl⟩
  · by_cases hroom : ys.length + k ≤ cap
    · have hr := run_append_room_zeros (P := P) w t tn ty e i (.int .u8 0) kq kn ht htn hi hz g ys.length cap k cur hg (by rw [hsize]; rfl) (by omega) h1 hroom (by rw [hcs, hsize]; omega) (by omega) (by rw [hby]; omega)
      refine ⟨_, _, hr, ⟨by simp, .inr ⟨g, cap, _, by rw [hlt], hbg, setRow_heap w g cur _ e _ hg, by omega, hcm, ?_, ?_⟩⟩, ⟨rfl, rfl, rfl, by simp, fun k _ hk => setRow_other w g k _ (fun e => hk (by simp [Value.ownBlock, e]))⟩, .inl rfl⟩
      · rw [hsize]
        simp only [List.size_toArray, List.length_append, List.length_take, List.length_drop, Array.length_toList, hkl]
        have := hkl
        simp only [Array.length_toList] at this
        omega
      · rw [hmap, hlt, hsize, htake]
        exact List.take_left' (by simp [hkl])
    · have holds : ∀ j u, (ys.map bv)[j]? = some u → w.drew.cell? ((⟨g, 0, none⟩ : Addr).add j) = some u := by
        have h2 : w.ownsRow base e 1 (.slice (some ⟨g, 0, none⟩) ys.length cap) ys.length (ys.map bv) := hown
        exact World.ownsRow.cells (w := w.drew) h2 (g := g) rfl
      have hold := run_firstCells_some (P := P) w.drew i.size ys.length ⟨g, 0, none⟩ ys.length cap (ys.map bv) (by rw [hsize]; simp) holds
      have hk : 0 < k := by omega
      have hr := Lib.run_append_grow_zeros w t tn ty e i (.int .u8 0) kq kn ht htn hi hz (some ⟨g, 0, none⟩) ys.length cap (ys.map bv) hold k hk (by omega) (by omega) (by omega) (by rw [hby]; omega) (by rw [hby]; exact growslice_fits (by omega) (by omega))
      have hf := fresh cap (by omega) (Value.ownBlock (.slice (some ⟨g, 0, none⟩) ys.length cap))
      exact ⟨_, _, hr, hf.1, hf.2, .inr rfl⟩
section
variable {P : Program} (w : World) {ops : Array Oper} {rest : List Oper} {o : Oper} {a : Act} {K : Act → World → Prop} {Q : Exit → Act → World → Prop} {E : Prop} (hgd : o.guard = none) (s x : Operand) (t tn : TypeId)
    (ho : o.op = .call { callee := .builtin .append, args := #[s, x], argTypes := #[t, tn] })
    (base : Nat) (e : TypeId) (i : TypeInfo) (kq kn : IntKind) (ht : P.underlying t = some (.slice e)) (htn : P.underlying tn = some (.int kn)) (hi : P.info? e = some i) (hz : i.zero = some (.int .u8 0)) (hsize : i.size = 1) (hby : i.bytes = 1)
    (v : Value) (ys : List UInt8) (hs : a.eval s = v) (hown : OwnB w base e v ys) (k : Nat) (hx : a.eval x = .int kq k) (hlen : ys.length + k ≤ 1000000) (hbase : base ≤ w.heap.size)
include hgd ho ht htn hi hz hsize hby hs hown hx hlen hbase
theorem wpList_append_zeros
    (h : ∀ v' w', OwnB w' base e v' (ys ++ List.replicate k 0) → Below base w w' → wpList P ops Q rest (a.put o.dst v') w') : wpList P ops Q (o :: rest) a w := by
  obtain ⟨v', w', hr, h2, h3, _⟩ := run_append_own_zeros (P := P) w base t tn o.type e i kq kn ht htn hi hz hsize hby v ys hown k hlen hbase
  exact Lib.wpList_append_run w hgd s x t tn ho v (.int kq k) hs hx v' w' hr (h v' w' h2 ((Below.refl base w).grown h3 hbase (fun k hk => (World.ownsRow.lt hown k hk).1)))
end
end Go.Proofs.YtbflhphjnmhjhaaGreat
