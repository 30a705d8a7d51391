/- The law ProgBytes, for every input. -/
import Derived.Test.YtjfmadhcbgdakaaEvU
import Derived.Test.YtjfmadhcbgdakaaPbq4
import Derived.Test.YtjfmadhcbgdakaaPbt
import Derived.Test.YtjfmadhcbgdakaaTail
namespace Go.Proofs.Ytjfmadhcbgdakaa
open Go.ChangeShapes Go.WideShapes Go.ChangeAt Go.RowKit
namespace Ev
namespace ProgBytes
set_option linter.unusedVariables false
def el0R (x : R_iiii) : Prop := (IntKind.i64.min ≤ x.a0 ∧ x.a0 ≤ IntKind.i64.max) ∧ (IntKind.i64.min ≤ x.a1 ∧ x.a1 ≤ IntKind.i64.max) ∧ (IntKind.i64.min ≤ x.a2 ∧ x.a2 ≤ IntKind.i64.max) ∧ (IntKind.i64.min ≤ x.a3 ∧ x.a3 ≤ IntKind.i64.max)
theorem el0 {H : Type} {enc : TypeId × Value → H} {w : World} {O : Obj} {o cap i : Nat} (hE : Zug enc Try.prog w 44 O o cap) (hi : i < cap) : ∃ x : R_iiii, Zat O (o + i * 4) [.i x.a0, .i x.a1, .i x.a2, .i x.a3] ∧ el0R x := by
 obtain ⟨C, ty, fr, cs, hO, hl, hc, ht⟩ := hE i hi
 have cw : Try.prog.cellsOf 44 = 4 := by kernel_rfl
 rw [cw] at hc
 have h0 := Zj8 Try.underlying44 ht 0 rfl
 have h1 := Zj8 Try.underlying44 ht 1 rfl
 have h2 := Zj8 Try.underlying44 ht 2 rfl
 have h3 := Zj8 Try.underlying44 ht 3 rfl
 have c0 : Try.prog.cellsOf 42 = 1 := by kernel_rfl
 obtain ⟨x0, e0, b0⟩ := Zko Try.underlying42 h0
 have e0 := Zh3 e0 c0
 have c1 : Try.prog.cellsOf 3 = 1 := by kernel_rfl
 obtain ⟨x1, e1, b1⟩ := Zko Try.underlying3 h1
 have e1 := Zh3 e1 c1
 have c2 : Try.prog.cellsOf 3 = 1 := by kernel_rfl
 obtain ⟨x2, e2, b2⟩ := Zko Try.underlying3 h2
 have e2 := Zh3 e2 c2
 have c3 : Try.prog.cellsOf 3 = 1 := by kernel_rfl
 obtain ⟨x3, e3, b3⟩ := Zko Try.underlying3 h3
 have e3 := Zh3 e3 c3
 have row : Zat O (o + i * 4) [.i x0, .i x1, .i x2, .i x3] := Zsq hO hc (show 4 ≤ 4 from by decide) fun j b hj => by
  have := (Zm5 (k := 0) e0 (b := .i x0) (by simp [ZaI]) (Zm5 (k := 1) e1 (b := .i x1) (by simp [ZaI]) (Zm5 (k := 2) e2 (b := .i x2) (by simp [ZaI]) (Zm5 (k := 3) e3 (b := .i x3) (by simp [ZaI]) (fun j b h => by simp at h) (l := []))))) j b hj
  simpa using this
 exact ⟨⟨x0, x1, x2, x3⟩, row, ⟨b0, b1, b2, b3⟩⟩
def Zvn (x : Int) : Prop := (IntKind.u8.min ≤ x ∧ x ≤ IntKind.u8.max)
theorem el1 {H : Type} {enc : TypeId × Value → H} {w : World} {O : Obj} {o cap i : Nat} (hE : Zug enc Try.prog w 5 O o cap) (hi : i < cap) : ∃ x : Int, Zat O (o + i * 1) [.k .u8 x] ∧ Zvn x := by
 obtain ⟨C, ty, fr, cs, hO, hl, hc, ht⟩ := hE i hi
 have cw : Try.prog.cellsOf 5 = 1 := by kernel_rfl
 rw [cw] at hc
 have c0 : Try.prog.cellsOf 5 = 1 := by kernel_rfl
 obtain ⟨x0, e0, b0⟩ := Zko Try.underlying5 ht
 have e0 : cs[0]? = some (Value.int .u8 x0) := by rw [e0]; rfl
 have row : Zat O (o + i * 1) [.k .u8 x0] := Zsq hO hc (show 1 ≤ 1 from by decide) fun j b hj => by
  have := (Zm5 (k := 0) e0 (b := .k .u8 x0) (by simp [ZaI]) (fun j b h => by simp at h) (l := [])) j b hj
  simpa using this
 exact ⟨x0, row, b0⟩
theorem own : ownKnob Try.prog.godebug = none := by kernel_rfl
set_option maxRecDepth 100000 in
theorem lifted (os : Os) (started : os.Started) (H : Type) (enc : TypeId × Value → H) :
  ReturnsInHanded {} Try.checked os 3 .any (Rows.progBytesSpec.pre6 enc Try.prog Try.f3 Rows.progBytesRow.domain false) (Rows.progBytesSpec.post enc Try.prog Try.f3 false true false false) := by
 refine Zu9 (C := Try.checked) own started (by kernel_rfl) Try.func3 rfl rfl Try.underlying4 ?_ (by kernel_rfl) (by kernel_rfl)
  (ChangeSpec.witness6 (enc := enc) (C := Try.checked) false ⟨#[], #[.slice none 0 0, .slice none 0 0], []⟩ 8 (by kernel_rfl) (by kernel_rfl) (by kernel_rfl) (by kernel_rfl)) ?_
 ·intro ds hlen
  have hlen : ds.length = 2 := hlen.trans (by kernel_rfl)
  match ds, hlen with
  | [_, _], _ => rfl
 intro W base args ds p hval hA hlt hsz
 rw [Try.params3] at hA hval
 obtain ⟨v0, vs0, d0, ds0, p0, q0, hargs, rfl, rfl, h0, r0⟩ := trodAll_cons hA
 obtain ⟨v1, vs1, d1, ds1, p1, q1, rfl, rfl, rfl, h1, r1⟩ := trodAll_cons r0
 obtain ⟨rfl, rfl, rfl⟩ := trodAll_nil r1
 obtain rfl : args = #[v0, v1] := by cases args; simp_all
 rcases Zqa Try.underlying22 (hval 0 22 v0 rfl rfl) h0 with rfl | ⟨b0, o0, n0, c0, O0, rfl, hl0, hc0, hB0, hE0⟩
 ·
  rcases Zqa Try.underlying23 (hval 1 23 v1 rfl rfl) h1 with rfl | ⟨b1, o1, n1, c1, O1, rfl, hl1, hc1, hB1, hE1⟩
  ·
   exact Zpt (ZjX   100000 _ (Pb.runs4 (by omega))) [] rfl ZnH (ZfH (.atom rfl) (ZfH (.atom rfl) ZnD)) rfl
  ·
   obtain ⟨G1, hG1⟩ := Zuh fun i (hi : i < n1) => el1 hE1 (show i < c1 by omega)
   obtain ⟨L1, hL1⟩ : ∃ L, L = (List.range n1).map G1 := ⟨_, rfl⟩
   have hn1 : L1.length = n1 := by rw [hL1]; simp
   have hg1 : ∀ i, i < n1 → L1.getD i 0 = G1 i := fun i hi => by rw [hL1]; simp [hi]
   have F1 : ∀ i, i < L1.length → Zat O1 (o1 + i * 1) [.k .u8 (L1.getD i 0)] := fun i hi => by rw [hn1] at hi; rw [hg1 i hi]; exact (hG1 i hi).1
   have R1 : ∀ i, i < L1.length → Zvn (L1.getD i 0) := fun i hi => by rw [hn1] at hi; rw [hg1 i hi]; exact (hG1 i hi).2
   rw [← hn1]
   rw [← hn1] at hl1
   exact Zpt (ZjW o1 (L1) L1.length c1 O1 F1 100000 _ (Pb.runs3 R1 (Nat.le_refl _) hl1 (by omega))) [b1] rfl (Zlf hB1 ZnH) (ZfH (.atom rfl) (ZfH (Zle rfl hl1) ZnD)) rfl
 ·
  obtain ⟨G0, hG0⟩ := Zuh fun i (hi : i < n0) => el0 hE0 (show i < c0 by omega)
  obtain ⟨L0, hL0⟩ : ∃ L, L = (List.range n0).map G0 := ⟨_, rfl⟩
  have hn0 : L0.length = n0 := by rw [hL0]; simp
  have hg0 : ∀ i, i < n0 → L0.getD i R_iiii.z = G0 i := fun i hi => by rw [hL0]; simp [hi]
  have F0 : ∀ i, i < L0.length → Zat O0 (o0 + i * 4) [.i (L0.getD i R_iiii.z).a0, .i (L0.getD i R_iiii.z).a1, .i (L0.getD i R_iiii.z).a2, .i (L0.getD i R_iiii.z).a3] := fun i hi => by rw [hn0] at hi; rw [hg0 i hi]; exact (hG0 i hi).1
  have R0 : ∀ i, i < L0.length → el0R (L0.getD i R_iiii.z) := fun i hi => by rw [hn0] at hi; rw [hg0 i hi]; exact (hG0 i hi).2
  rw [← hn0]
  rw [← hn0] at hl0
  rcases Zqa Try.underlying23 (hval 1 23 v1 rfl rfl) h1 with rfl | ⟨b1, o1, n1, c1, O1, rfl, hl1, hc1, hB1, hE1⟩
  ·
   exact Zpt (ZjV o0 (L0) L0.length c0 O0 F0 100000 _ (Pb.runs2 (Nat.le_refl _) hl0 (by omega))) [b0] rfl (Zlf hB0 ZnH) (ZfH (Zle rfl hl0) (ZfH (.atom rfl) ZnD)) rfl
  ·
   obtain ⟨G1, hG1⟩ := Zuh fun i (hi : i < n1) => el1 hE1 (show i < c1 by omega)
   obtain ⟨L1, hL1⟩ : ∃ L, L = (List.range n1).map G1 := ⟨_, rfl⟩
   have hn1 : L1.length = n1 := by rw [hL1]; simp
   have hg1 : ∀ i, i < n1 → L1.getD i 0 = G1 i := fun i hi => by rw [hL1]; simp [hi]
   have F1 : ∀ i, i < L1.length → Zat O1 (o1 + i * 1) [.k .u8 (L1.getD i 0)] := fun i hi => by rw [hn1] at hi; rw [hg1 i hi]; exact (hG1 i hi).1
   have R1 : ∀ i, i < L1.length → Zvn (L1.getD i 0) := fun i hi => by rw [hn1] at hi; rw [hg1 i hi]; exact (hG1 i hi).2
   rw [← hn1]
   rw [← hn1] at hl1
   exact Zpt (Zlt o0 (L0) L0.length c0 o1 (L1) L1.length c1 O0 F0 O1 F1 100000 _ (Pb.runs (Nat.le_refl _) hl0 R1 (Nat.le_refl _) hl1 (by omega))) [b0, b1] rfl (Zlf hB0 (Zlf hB1 ZnH)) (ZfH (Zle rfl hl0) (ZfH (Zle rfl hl1) ZnD)) rfl
theorem over : Rows.progBytesRow.holds Try.pinned (OpenSpec.ofChange Rows.progBytesSpec) :=
 OpenClaim.holds_of_wide 3 Try.f3 rfl rfl rfl rfl rfl rfl rfl ⟨rfl, rfl, rfl, rfl, rfl⟩ rfl rfl rfl rfl rfl (by kernel_rfl) Try.func3 (by kernel_rfl)
  (of_decide_eq_true (by kernel_rfl)) (by unfold Func.isWrapper; first | (rw [if_pos (by decide +kernel)]; kernel_rfl) | (rw [if_neg (by decide +kernel)]; exact ⟨rfl, rfl⟩))
  (fun os started H enc _ => lifted os started H enc)
theorem proved : Rows.ProgBytesSaid := over
#print axioms proved
end ProgBytes
end Ev
end Go.Proofs.Ytjfmadhcbgdakaa
