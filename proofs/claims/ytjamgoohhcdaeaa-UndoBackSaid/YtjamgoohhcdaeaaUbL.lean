/- The law UndoBack, for every input. -/
import Derived.Test.YtjamgoohhcdaeaaEvU
import Derived.Test.YtjamgoohhcdaeaaUbq2
import Derived.Test.YtjamgoohhcdaeaaUbt
import Derived.Test.YtjamgoohhcdaeaaTail
namespace Go.Proofs.Ytjamgoohhcdaeaa
open Go.ChangeShapes Go.WideShapes Go.ChangeAt Go.RowKit
namespace Ev
namespace UndoBack
set_option linter.unusedVariables false
def el0R (x : Int) : Prop := (IntKind.u8.min ≤ x ∧ x ≤ IntKind.u8.max)
theorem el0 {H : Type} {enc : TypeId × Value → H} {w : World} {O : Obj} {o cap i : Nat} (hE : Elems enc Try.prog w 5 O o cap) (hi : i < cap) : ∃ x : Int, RowOK O (o + i * 1) [.k .u8 x] ∧ el0R x := by
  obtain ⟨C, ty, fr, cs, hO, hl, hc, ht⟩ := hE i hi
  have cw : Try.prog.cellsOf 5 = 1 := by kernel_rfl
  rw [cw] at hc
  have c0 : Try.prog.cellsOf 5 = 1 := by kernel_rfl
  obtain ⟨x0, e0, b0⟩ := trd_int Try.underlying5 ht
  have e0 : cs[0]? = some (Value.int .u8 x0) := by rw [e0]; rfl
  have row : RowOK O (o + i * 1) [.k .u8 x0] := elem_row hO hc (show 1 ≤ 1 from by decide) fun j b hj => by
    have := (cellsC (k := 0) e0 (b := .k .u8 x0) (by simp [sameC]) (fun j b h => by simp at h) (l := [])) j b hj
    simpa using this
  exact ⟨x0, row, b0⟩
def el1R (x : Int) : Prop := (IntKind.i64.min ≤ x ∧ x ≤ IntKind.i64.max)
theorem el1 {H : Type} {enc : TypeId × Value → H} {w : World} {O : Obj} {o cap i : Nat} (hE : Elems enc Try.prog w 3 O o cap) (hi : i < cap) : ∃ x : Int, RowOK O (o + i * 1) [.i x] ∧ el1R x := by
  obtain ⟨C, ty, fr, cs, hO, hl, hc, ht⟩ := hE i hi
  have cw : Try.prog.cellsOf 3 = 1 := by kernel_rfl
  rw [cw] at hc
  have c0 : Try.prog.cellsOf 3 = 1 := by kernel_rfl
  obtain ⟨x0, e0, b0⟩ := trd_int Try.underlying3 ht
  have e0 : cs[0]? = some (Value.int .i64 x0) := by rw [e0]; rfl
  have row : RowOK O (o + i * 1) [.i x0] := elem_row hO hc (show 1 ≤ 1 from by decide) fun j b hj => by
    have := (cellsC (k := 0) e0 (b := .i x0) (by simp [sameC]) (fun j b h => by simp at h) (l := [])) j b hj
    simpa using this
  exact ⟨x0, row, b0⟩
theorem own : ownKnob Try.prog.godebug = none := by kernel_rfl
set_option maxRecDepth 100000 in
theorem lifted (os : Os) (started : os.Started) (H : Type) (enc : TypeId × Value → H) :
    ReturnsInHanded {} Try.checked os 3 .any (Rows.undoBackSpec.pre6 enc Try.prog Try.f3 Rows.undoBackRow.domain false) (Rows.undoBackSpec.post enc Try.prog Try.f3 false true false false) := by
  refine law_frame (C := Try.checked) own started (by kernel_rfl) Try.func3 rfl rfl Try.underlying4 ?_ (by kernel_rfl) (by kernel_rfl)
    (ChangeSpec.witness6 (enc := enc) (C := Try.checked) false ⟨#[], #[.slice none 0 0, .slice none 0 0], []⟩ 8 (by kernel_rfl) (by kernel_rfl) (by kernel_rfl) (by kernel_rfl)) ?_
  · intro ds hlen
    have hlen : ds.length = 2 := hlen.trans (by kernel_rfl)
    match ds, hlen with
    | [_, _], _ => rfl
  intro W base args ds p hval hA hlt hsz
  rw [Try.params3] at hA hval
  obtain ⟨v0, vs0, d0, ds0, p0, q0, hargs, rfl, rfl, h0, r0⟩ := trodAll_cons hA
  obtain ⟨v1, vs1, d1, ds1, p1, q1, rfl, rfl, rfl, h1, r1⟩ := trodAll_cons r0
  obtain ⟨rfl, rfl, rfl⟩ := trodAll_nil r1
  obtain rfl : args = #[v0, v1] := by cases args; simp_all
  rcases arg_row Try.underlying22 (hval 0 22 v0 rfl rfl) h0 with rfl | ⟨b0, o0, n0, c0, O0, rfl, hl0, hc0, hB0, hE0⟩
  ·
    rcases arg_row Try.underlying23 (hval 1 23 v1 rfl rfl) h1 with rfl | ⟨b1, o1, n1, c1, O1, rfl, hl1, hc1, hB1, hE1⟩
    ·
      exact law_of (law07_UndoBack_4_spec   100000 _ (Ub.runs4 (by omega))) [] rfl hro_nil (VRl_cons (.atom rfl) (VRl_cons (.atom rfl) VRl_nil)) rfl
    ·
      obtain ⟨G1, hG1⟩ := pick1 fun i (hi : i < n1) => el1 hE1 (show i < c1 by omega)
      obtain ⟨L1, hL1⟩ : ∃ L, L = (List.range n1).map G1 := ⟨_, rfl⟩
      have hn1 : L1.length = n1 := by rw [hL1]; simp
      have hg1 : ∀ i, i < n1 → L1.getD i 0 = G1 i := fun i hi => by rw [hL1]; simp [hi]
      have F1 : ∀ i, i < L1.length → RowOK O1 (o1 + i * 1) [.i (L1.getD i 0)] := fun i hi => by rw [hn1] at hi; rw [hg1 i hi]; exact (hG1 i hi).1
      have R1 : ∀ i, i < L1.length → el1R (L1.getD i 0) := fun i hi => by rw [hn1] at hi; rw [hg1 i hi]; exact (hG1 i hi).2
      rw [← hn1]
      rw [← hn1] at hl1
      exact law_of (law07_UndoBack_3_spec o1 (L1) L1.length c1 O1 F1 100000 _ (Ub.runs3 (by omega))) [b1] rfl (hro_cons hB1 hro_nil) (VRl_cons (.atom rfl) (VRl_cons (ro_slice rfl hl1) VRl_nil)) rfl
  ·
    obtain ⟨G0, hG0⟩ := pick1 fun i (hi : i < n0) => el0 hE0 (show i < c0 by omega)
    obtain ⟨L0, hL0⟩ : ∃ L, L = (List.range n0).map G0 := ⟨_, rfl⟩
    have hn0 : L0.length = n0 := by rw [hL0]; simp
    have hg0 : ∀ i, i < n0 → L0.getD i 0 = G0 i := fun i hi => by rw [hL0]; simp [hi]
    have F0 : ∀ i, i < L0.length → RowOK O0 (o0 + i * 1) [.k .u8 (L0.getD i 0)] := fun i hi => by rw [hn0] at hi; rw [hg0 i hi]; exact (hG0 i hi).1
    have R0 : ∀ i, i < L0.length → el0R (L0.getD i 0) := fun i hi => by rw [hn0] at hi; rw [hg0 i hi]; exact (hG0 i hi).2
    rw [← hn0]
    rw [← hn0] at hl0
    rcases arg_row Try.underlying23 (hval 1 23 v1 rfl rfl) h1 with rfl | ⟨b1, o1, n1, c1, O1, rfl, hl1, hc1, hB1, hE1⟩
    ·
      exact law_of (law07_UndoBack_2_spec o0 (L0) L0.length c0 O0 F0 100000 _ (Ub.runs2 (by omega))) [b0] rfl (hro_cons hB0 hro_nil) (VRl_cons (ro_slice rfl hl0) (VRl_cons (.atom rfl) VRl_nil)) rfl
    ·
      obtain ⟨G1, hG1⟩ := pick1 fun i (hi : i < n1) => el1 hE1 (show i < c1 by omega)
      obtain ⟨L1, hL1⟩ : ∃ L, L = (List.range n1).map G1 := ⟨_, rfl⟩
      have hn1 : L1.length = n1 := by rw [hL1]; simp
      have hg1 : ∀ i, i < n1 → L1.getD i 0 = G1 i := fun i hi => by rw [hL1]; simp [hi]
      have F1 : ∀ i, i < L1.length → RowOK O1 (o1 + i * 1) [.i (L1.getD i 0)] := fun i hi => by rw [hn1] at hi; rw [hg1 i hi]; exact (hG1 i hi).1
      have R1 : ∀ i, i < L1.length → el1R (L1.getD i 0) := fun i hi => by rw [hn1] at hi; rw [hg1 i hi]; exact (hG1 i hi).2
      rw [← hn1]
      rw [← hn1] at hl1
      exact law_of (law07_UndoBack_spec o0 (L0) L0.length c0 o1 (L1) L1.length c1 O0 F0 O1 F1 100000 _ (Ub.runs (Nat.le_refl _) R0 (Nat.le_refl _) (by omega))) [b0, b1] rfl (hro_cons hB0 (hro_cons hB1 hro_nil)) (VRl_cons (ro_slice rfl hl0) (VRl_cons (ro_slice rfl hl1) VRl_nil)) rfl
theorem over : Rows.undoBackRow.holds Try.pinned (OpenSpec.ofChange Rows.undoBackSpec) :=
  OpenClaim.holds_of_wide 3 Try.f3 rfl rfl rfl rfl rfl rfl rfl ⟨rfl, rfl, rfl, rfl, rfl⟩ rfl rfl rfl rfl rfl (by kernel_rfl) Try.func3 (by kernel_rfl)
    (of_decide_eq_true (by kernel_rfl)) (by unfold Func.isWrapper; first | (rw [if_pos (by decide +kernel)]; kernel_rfl) | (rw [if_neg (by decide +kernel)]; exact ⟨rfl, rfl⟩))
    (fun os started H enc _ => lifted os started H enc)
/-- The statement. -/
theorem proved : Rows.UndoBackSaid := over
#print axioms proved
end UndoBack
end Ev
end Go.Proofs.Ytjamgoohhcdaeaa
