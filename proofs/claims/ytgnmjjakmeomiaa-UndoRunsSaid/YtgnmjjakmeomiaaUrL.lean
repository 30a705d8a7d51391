/- The law UndoRuns, for every input. -/
import Derived.Test.YtgnmjjakmeomiaaEvU
import Derived.Test.YtgnmjjakmeomiaaUrq6
import Derived.Test.YtgnmjjakmeomiaaUrt
import Derived.Test.YtgnmjjakmeomiaaTail
namespace Go.Proofs.Ytgnmjjakmeomiaa
open Go.ChangeShapes Go.WideShapes Go.ChangeAt Go.RowKit
namespace Ev
namespace UndoRuns
set_option linter.unusedVariables false
theorem ZeF {cs : List Value} {p r a m j q : Nat} {v : Value} (h : (((((cs.drop p).take r).drop a).take m).drop j).take q = [v]) (hq : q = 1) : cs[p + (a + j)]? = some v := by
 have h := Zfs h hq
 rw [List.getElem?_take] at h
 split at h
 ·rwa [List.getElem?_drop] at h
 ·cases h
def el1R (x : RA) : Prop := (IntKind.i64.min ≤ x.a0 ∧ x.a0 ≤ IntKind.i64.max) ∧ (IntKind.i64.min ≤ x.a1 ∧ x.a1 ≤ IntKind.i64.max) ∧ (IntKind.i64.min ≤ x.a2 ∧ x.a2 ≤ IntKind.i64.max) ∧ (IntKind.i64.min ≤ x.a3 ∧ x.a3 ≤ IntKind.i64.max) ∧ (IntKind.i64.min ≤ x.a4 ∧ x.a4 ≤ IntKind.i64.max) ∧ (IntKind.i64.min ≤ x.a5 ∧ x.a5 ≤ IntKind.i64.max) ∧ (IntKind.i64.min ≤ x.a7 ∧ x.a7 ≤ IntKind.i64.max)
theorem el1 {H : Type} {enc : TypeId × Value → H} {w : World} {O : Obj} {o cap i : Nat} (hE : ZoQ enc Try.prog w 40 O o cap) (hi : i < cap) : ∃ x : RA, Zjz O (o + i * 8) [.i x.a0, .i x.a1, .i x.a2, .i x.a3, .i x.a4, .i x.a5, .b x.a6, .i x.a7] ∧ el1R x := by
 obtain ⟨C, ty, fr, cs, hO, hl, hc, ht⟩ := hE i hi
 have cw : Try.prog.cellsOf 40 = 8 := by kernel_rfl
 rw [cw] at hc
 have h0 := Zc9 Try.underlying40 ht 0 rfl
 have h1 := Zc9 Try.underlying40 ht 1 rfl
 have h2 := Zc9 Try.underlying38 h1 0 rfl
 have h3 := Zc9 Try.underlying35 h2 0 rfl
 have h4 := Zc9 Try.underlying35 h2 1 rfl
 have h5 := Zc9 Try.underlying38 h1 1 rfl
 have h6 := Zc9 Try.underlying38 h1 2 rfl
 have h7 := Zc9 Try.underlying35 h6 0 rfl
 have h8 := Zc9 Try.underlying35 h6 1 rfl
 have h9 := Zc9 Try.underlying38 h1 3 rfl
 have h10 := Zc9 Try.underlying38 h1 4 rfl
 have c0 : Try.prog.cellsOf 3 = 1 := by kernel_rfl
 obtain ⟨x0, e0, b0⟩ := Zfo Try.underlying3 h0
 have e0 := ZjN e0 c0
 have c1 : Try.prog.cellsOf 33 = 1 := by kernel_rfl
 obtain ⟨x1, e1, b1⟩ := Zfo Try.underlying33 h3
 have e1 := ZeF e1 c1
 have c2 : Try.prog.cellsOf 3 = 1 := by kernel_rfl
 obtain ⟨x2, e2, b2⟩ := Zfo Try.underlying3 h4
 have e2 := ZeF e2 c2
 have c3 : Try.prog.cellsOf 3 = 1 := by kernel_rfl
 obtain ⟨x3, e3, b3⟩ := Zfo Try.underlying3 h5
 have e3 := Zfs e3 c3
 have c4 : Try.prog.cellsOf 33 = 1 := by kernel_rfl
 obtain ⟨x4, e4, b4⟩ := Zfo Try.underlying33 h7
 have e4 := ZeF e4 c4
 have c5 : Try.prog.cellsOf 3 = 1 := by kernel_rfl
 obtain ⟨x5, e5, b5⟩ := Zfo Try.underlying3 h8
 have e5 := ZeF e5 c5
 have c6 : Try.prog.cellsOf 4 = 1 := by kernel_rfl
 obtain ⟨x6, e6⟩ := ZoA Try.underlying4 h9
 have e6 := Zfs e6 c6
 have c7 : Try.prog.cellsOf 36 = 1 := by kernel_rfl
 obtain ⟨x7, e7, b7⟩ := Zfo Try.underlying36 h10
 have e7 := Zfs e7 c7
 have row : Zjz O (o + i * 8) [.i x0, .i x1, .i x2, .i x3, .i x4, .i x5, .b x6, .i x7] := ZoC hO hc (show 8 ≤ 8 from by decide) fun j b hj => by
  have := (Zf5 (k := 0) e0 (b := .i x0) (by simp [Zaz]) (Zf5 (k := 1) e1 (b := .i x1) (by simp [Zaz]) (Zf5 (k := 2) e2 (b := .i x2) (by simp [Zaz]) (Zf5 (k := 3) e3 (b := .i x3) (by simp [Zaz]) (Zf5 (k := 4) e4 (b := .i x4) (by simp [Zaz]) (Zf5 (k := 5) e5 (b := .i x5) (by simp [Zaz]) (Zf5 (k := 6) e6 (b := .b x6) (by simp [Zaz]) (Zf5 (k := 7) e7 (b := .i x7) (by simp [Zaz]) (fun j b h => by simp at h) (l := []))))))))) j b hj
  simpa using this
 exact ⟨⟨x0, x1, x2, x3, x4, x5, x6, x7⟩, row, ⟨b0, b1, b2, b3, b4, b5, b7⟩⟩
theorem own : ownKnob Try.prog.godebug = none := by kernel_rfl
set_option maxRecDepth 100000 in
theorem lifted (os : Os) (started : os.Started) (H : Type) (enc : TypeId × Value → H) :
  ReturnsInHanded {} Try.checked os 3 .any (Rows.undoRunsSpec.pre6 enc Try.prog Try.f3 Rows.undoRunsRow.domain false) (Rows.undoRunsSpec.post enc Try.prog Try.f3 false true false false) := by
 refine Zoe (C := Try.checked) own started (by kernel_rfl) Try.func3 rfl rfl Try.underlying4 ?_ (by kernel_rfl) (by kernel_rfl)
  (ChangeSpec.witness6 (enc := enc) (C := Try.checked) false ⟨#[], #[.int .i64 0, .slice none 0 0], []⟩ 8 (by kernel_rfl) (by kernel_rfl) (by kernel_rfl) (by kernel_rfl)) ?_
 ·intro ds hlen
  have hlen : ds.length = 2 := hlen.trans (by kernel_rfl)
  match ds, hlen with
  | [_, _], _ => rfl
 intro W base args ds p hval hA hlt hsz
 rw [Try.params3] at hA hval
 obtain ⟨v0, vs0, d0, ds0, p0, q0, hargs, rfl, rfl, h0, r0⟩ := trodAll_cons hA
 obtain ⟨v1, vs1, d1, ds1, p1, q1, rfl, rfl, rfl, h1, r1⟩ := trodAll_cons r0
 obtain ⟨rfl, rfl, rfl⟩ := trodAll_nil r1
 obtain rfl : args = #[v0, v1] := by cases args; simp_all
 obtain ⟨z0, rfl, w0⟩ := ZnH (k := .i64) (by kernel_rfl) (ZnI (by kernel_rfl) (hval 0 3 v0 rfl rfl))
 rcases Zpe Try.underlying22 (hval 1 22 v1 rfl rfl) h1 with rfl | ⟨b1, o1, n1, c1, O1, rfl, hl1, hc1, hB1, hE1⟩
 ·
  exact Zoh (Zh7 z0  100000 _ (Ur.runs2 (by omega))) [] rfl Zno (ZhG (.atom rfl) (ZhG (.atom rfl) Znh)) rfl
 ·
  obtain ⟨G1, hG1⟩ := pick1 fun i (hi : i < n1) => el1 hE1 (show i < c1 by omega)
  obtain ⟨L1, hL1⟩ : ∃ L, L = (List.range n1).map G1 := ⟨_, rfl⟩
  have hn1 : L1.length = n1 := by rw [hL1]; simp
  have hg1 : ∀ i, i < n1 → L1.getD i RA.z = G1 i := fun i hi => by rw [hL1]; simp [hi]
  have F1 : ∀ i, i < L1.length → Zjz O1 (o1 + i * 8) [.i (L1.getD i RA.z).a0, .i (L1.getD i RA.z).a1, .i (L1.getD i RA.z).a2, .i (L1.getD i RA.z).a3, .i (L1.getD i RA.z).a4, .i (L1.getD i RA.z).a5, .b (L1.getD i RA.z).a6, .i (L1.getD i RA.z).a7] := fun i hi => by rw [hn1] at hi; rw [hg1 i hi]; exact (hG1 i hi).1
  have R1 : ∀ i, i < L1.length → el1R (L1.getD i RA.z) := fun i hi => by rw [hn1] at hi; rw [hg1 i hi]; exact (hG1 i hi).2
  rw [← hn1]
  rw [← hn1] at hl1
  exact Zoh (Zi3 z0 o1 (L1) L1.length c1 O1 F1 100000 _ (Ur.runs (Nat.le_refl _) (by omega))) [b1] rfl (ZoB hB1 Zno) (ZhG (.atom rfl) (ZhG (Zo9 rfl hl1) Znh)) rfl
theorem over : Rows.undoRunsRow.holds Try.pinned (OpenSpec.ofChange Rows.undoRunsSpec) :=
 OpenClaim.holds_of_wide 3 Try.f3 rfl rfl rfl rfl rfl rfl rfl ⟨rfl, rfl, rfl, rfl, rfl⟩ rfl rfl rfl rfl rfl (by kernel_rfl) Try.func3 (by kernel_rfl)
  (of_decide_eq_true (by kernel_rfl)) (by unfold Func.isWrapper; first | (rw [if_pos (by decide +kernel)]; kernel_rfl) | (rw [if_neg (by decide +kernel)]; exact ⟨rfl, rfl⟩))
  (fun os started H enc _ => lifted os started H enc)
theorem proved : Rows.UndoRunsSaid := over
#print axioms proved
end UndoRuns
end Ev
end Go.Proofs.Ytgnmjjakmeomiaa
