/- Part 4. -/
import Derived.Test.YthloaienmacfkaaZac
/- Calls do what the plain functions say. -/
namespace Go.Proofs.Ythloaienmacfkaa
open Go.RowKit
namespace Ev
set_option linter.unusedVariables false
set_option maxRecDepth 100000
noncomputable def Zid (a0 : Int) : ZaI → Value
 | .r0 => Value.tuple #[Value.pointer none, vi (50 : Int)]
 | .r1 => Value.tuple #[vp 0 0, vq]
noncomputable def Zhk (a0 : Int) : ZaI → List (Option AObj)
 | .r0 => []
 | .r1 => [some (.cells (Zf eI 64 [vi a0] (List.replicate 64 (0 : Int)) []) 57)]

theorem ZjU (a0 : Int) (N : Nat) : Fx Try.prog Z7 Try.f5 [] #[vi a0] (Zid a0) (Zhk a0) (ZcH a0 N) := by
 unfold ZcH
 refine Zib (fun g0 => ?_) (fun g0 => ?_)
 ·
  exact Zff (r := (.r0 : ZaI)) (fu := 4000) (orc := (Zs [(0, true)] [] [] [] [])) (live := []) (u := Value.tuple #[Value.pointer none, vi (50 : Int)]) (bl := []) (ob := [((decide (a0 < (1 : Int))), true)]) (by kernel_rfl) (oY Zj) rfl (by decide) (by rfl) rr trivial
 ·
  refine Zib (fun g1 => ?_) (fun g1 => ?_)
  ·
   exact Zff (r := (.r0 : ZaI)) (fu := 4000) (orc := (Zs [(0, false), (1, true)] [] [] [] [])) (live := []) (u := Value.tuple #[Value.pointer none, vi (50 : Int)]) (bl := []) (ob := [((decide (a0 > (64 : Int))), true), ((decide (a0 < (1 : Int))), false)]) (by kernel_rfl) (oY <| oN Zj) rfl (by decide) (by rfl) rr trivial
  ·
   exact Zff (r := (.r1 : ZaI)) (fu := 4000) (orc := (Zs [(0, false), (1, false)] [] [] [] [])) (live := [0]) (u := Value.tuple #[vp 0 0, vq]) (bl := [some (.cells (Zf eI 64 [vi a0] (List.replicate 64 (0 : Int)) []) 57)]) (ob := [((decide (a0 > (64 : Int))), false), ((decide (a0 < (1 : Int))), false)]) (by kernel_rfl) (oN <| oN Zj) rfl (by decide) (by rfl) rr ⟨⟨rfl, ⟨[], by kernel_rfl⟩, by kernel_rfl⟩, trivial⟩

theorem Zfg (a0 : Int) (N : Nat) (r : ZaI) (h : ZcH a0 N = some r) : LSpec Try.prog 5 #[vi a0] [] (Zid a0 r) (Zhk a0 r) :=
 ZkF ZcV Try.func5 (by kernel_rfl) (by kernel_rfl) (fun r => by cases r <;> exact ZaR _ rfl) (ZjU a0 N) h

noncomputable def Zhl (a0 : Int) (n : Nat) : ZbV := .call [] (Value.tuple #[Value.pointer none, vi (50 : Int)]) [] 0
def ZeF (A : Array Value) (a0 : Int) (n : Nat) : Prop := Zai Try.prog 5 A [] (Value.tuple #[Value.pointer none, vi (50 : Int)]) [] n 0

theorem Zhm (A : Array Value) (a0 : Int) (N : Nat) (h : ZcH a0 N = some (.r0)) (n : Nat) (hA : A = #[vi a0]) (hnd : ([] : List Nat).Nodup) (hlt : ∀ k ∈ ([] : List Nat), k < n) : ZeF A a0  n :=
 Zbj hA (LSpec.callL (show LSpec Try.prog 5 #[vi a0] [] (Value.tuple #[Value.pointer none, vi (50 : Int)]) [] from Zfg a0 N _ h) [] n [] rfl hnd hlt (show 0 ≤ 0 from by decide) (show ∀ j ∈ ([] : List Nat), j < 0 from by decide) (by rfl) trivial (by rfl) trivial trivial rfl rfl rfl rfl rfl)

noncomputable def Zhn (a0 : Int) (n : Nat) : ZbV := .call [] (Value.tuple #[vp n 0, vq]) [(n, some (.cells (Zf eI 64 [vi a0] (List.replicate 64 (0 : Int)) []) 57))] 1
def ZeG (A : Array Value) (a0 : Int) (n : Nat) : Prop := Zai Try.prog 5 A [] (Value.tuple #[vp n 0, vq]) [(n, some (.cells (Zf eI 64 [vi a0] (List.replicate 64 (0 : Int)) []) 57))] n 1

theorem Zho (A : Array Value) (a0 : Int) (N : Nat) (h : ZcH a0 N = some (.r1)) (n : Nat) (hA : A = #[vi a0]) (hnd : ([] : List Nat).Nodup) (hlt : ∀ k ∈ ([] : List Nat), k < n) : ZeG A a0  n :=
 Zbj hA (LSpec.callL (show LSpec Try.prog 5 #[vi a0] [] (Value.tuple #[vp 0 0, vq]) [some (.cells (Zf eI 64 [vi a0] (List.replicate 64 (0 : Int)) []) 57)] from Zfg a0 N _ h) [] n [0] rfl hnd hlt (show 0 ≤ 1 from by decide) (show ∀ j ∈ ([0] : List Nat), j < 1 from by decide) (by rfl) trivial (by rfl) ⟨(by kernel_rfl), trivial⟩ ⟨(by decide), trivial⟩ rfl rfl rfl rfl (Zak (ZaZ rfl (ZgN (by kernel_rfl))) rfl))

noncomputable def Zie (a0 : Int) : ZaJ → Value
 | .r0 => Value.tuple #[Value.agg #[vn], vi (50 : Int)]
 | .r1 => Value.tuple #[Value.agg #[vs 0 0 (a0).toNat (a0).toNat], vq]
noncomputable def Zhp (a0 : Int) : ZaJ → List (Option AObj)
 | .r0 => []
 | .r1 => [some (.cells (Zd eI (List.replicate (a0).toNat (0 : Int))) 3)]

theorem ZjV (a0 : Int) (N : Nat) : Fx Try.prog Z7 Try.f6 [] #[vi a0] (Zie a0) (Zhp a0) (Zci a0 N) := by
 unfold Zci
 refine Zib (fun g0 => ?_) (fun g0 => ?_)
 ·
  exact Zff (r := (.r0 : ZaJ)) (fu := 4000) (orc := (Zs [(0, true)] [] [] [] [])) (live := []) (u := Value.tuple #[Value.agg #[vn], vi (50 : Int)]) (bl := []) (ob := [((decide (a0 < (1 : Int))), true)]) (by kernel_rfl) (oY Zj) rfl (by decide) (by rfl) rr trivial
 ·
  refine Zib (fun g1 => ?_) (fun g1 => ?_)
  ·
   exact Zff (r := (.r0 : ZaJ)) (fu := 4000) (orc := (Zs [(0, false), (1, true)] [] [] [] [])) (live := []) (u := Value.tuple #[Value.agg #[vn], vi (50 : Int)]) (bl := []) (ob := [((decide (a0 > (64 : Int))), true), ((decide (a0 < (1 : Int))), false)]) (by kernel_rfl) (oY <| oN Zj) rfl (by decide) (by rfl) rr trivial
  ·
   exact Zff (r := (.r1 : ZaJ)) (fu := 4000) (orc := (Zs [(0, false), (1, false)] [] [] [] [(0, .mk (a0).toNat (a0).toNat (Zd eI (List.replicate (a0).toNat (0 : Int))))])) (live := [1]) (u := Value.tuple #[Value.agg #[vs 1 0 (a0).toNat (a0).toNat], vq]) (bl := [some (.cells (Zd eI (List.replicate (a0).toNat (0 : Int))) 3)]) (ob := [(dP ((a0).toNat ≤ (a0).toNat ∧ (a0).toNat ≤ 100000 ∧ Ev.rep [vq] ((a0).toNat * 1) = (Zd eI (List.replicate (a0).toNat (0 : Int)))), true), (a0 == Int.ofNat (a0).toNat, true), (a0 == Int.ofNat (a0).toNat, true), ((decide (a0 > (64 : Int))), false), ((decide (a0 < (1 : Int))), false)]) (by kernel_rfl) (Za (Zh ⟨by omega, by omega, ZmC (E := eI) (0 : Int) (a0).toNat (by decide) rfl rfl⟩) <| oI <| oI <| oN <| oN Zj) rfl (by decide) (by rfl) rr ⟨(Zn (E := eI) (α := Int) _ (List.replicate (a0).toNat (0 : Int)) _), trivial⟩

theorem Zfh (a0 : Int) (N : Nat) (r : ZaJ) (h : Zci a0 N = some r) : LSpec Try.prog 6 #[vi a0] [] (Zie a0 r) (Zhp a0 r) :=
 ZkF ZcV Try.func6 (by kernel_rfl) (by kernel_rfl) (fun r => by cases r <;> exact ZaR _ rfl) (ZjV a0 N) h

noncomputable def Zhq (a0 : Int) (n : Nat) : ZbV := .call [] (Value.tuple #[Value.agg #[vn], vi (50 : Int)]) [] 0
def ZeH (A : Array Value) (a0 : Int) (n : Nat) : Prop := Zai Try.prog 6 A [] (Value.tuple #[Value.agg #[vn], vi (50 : Int)]) [] n 0

theorem Zhr (A : Array Value) (a0 : Int) (N : Nat) (h : Zci a0 N = some (.r0)) (n : Nat) (hA : A = #[vi a0]) (hnd : ([] : List Nat).Nodup) (hlt : ∀ k ∈ ([] : List Nat), k < n) : ZeH A a0  n :=
 Zbj hA (LSpec.callL (show LSpec Try.prog 6 #[vi a0] [] (Value.tuple #[Value.agg #[vn], vi (50 : Int)]) [] from Zfh a0 N _ h) [] n [] rfl hnd hlt (show 0 ≤ 0 from by decide) (show ∀ j ∈ ([] : List Nat), j < 0 from by decide) (by rfl) trivial (by rfl) trivial trivial rfl rfl rfl rfl rfl)

noncomputable def Zhs (a0 : Int) (n : Nat) : ZbV := .call [] (Value.tuple #[Value.agg #[vs n 0 (a0).toNat (a0).toNat], vq]) [(n, some (.cells (Zd eI (List.replicate (a0).toNat (0 : Int))) 3))] 1
def ZeI (A : Array Value) (a0 : Int) (n : Nat) : Prop := Zai Try.prog 6 A [] (Value.tuple #[Value.agg #[vs n 0 (a0).toNat (a0).toNat], vq]) [(n, some (.cells (Zd eI (List.replicate (a0).toNat (0 : Int))) 3))] n 1

theorem Zht (A : Array Value) (a0 : Int) (N : Nat) (h : Zci a0 N = some (.r1)) (n : Nat) (hA : A = #[vi a0]) (hnd : ([] : List Nat).Nodup) (hlt : ∀ k ∈ ([] : List Nat), k < n) : ZeI A a0  n :=
 Zbj hA (LSpec.callL (show LSpec Try.prog 6 #[vi a0] [] (Value.tuple #[Value.agg #[vs 0 0 (a0).toNat (a0).toNat], vq]) [some (.cells (Zd eI (List.replicate (a0).toNat (0 : Int))) 3)] from Zfh a0 N _ h) [] n [0] rfl hnd hlt (show 0 ≤ 1 from by decide) (show ∀ j ∈ ([0] : List Nat), j < 1 from by decide) (by rfl) trivial (by rfl) ⟨(ZaX _ _ _), trivial⟩ ⟨(by decide), trivial⟩ rfl rfl rfl rfl (Zak (ZaZ rfl (ZgN (Zdl _ _ _))) rfl))

noncomputable def Zda (a0 : Int) (L1 : List Int) (a2 : Int) (L3 : List Int) : Z0 → Value
 | .r0 w0 => Value.bool w0
noncomputable def ZcW (a0 : Int) (L1 : List Int) (a2 : Int) (L3 : List Int) : Z0 → List (Option AObj)
 | .r0 w0 => [some (.cells (Zf eI 64 [vi a2] L3 []) 57)]

def ZfI : Zu → Nat
 | .h1m0 v3 => 1
noncomputable def ZfR (a0 : Int) (L1 : List Int) (a2 : Int) (L3 : List Int) : Zu → List (Nat × Value)
 | .h1m0 v3 => [(0, vp 0 0), (1, vi a0), (19, ms eI L1), (20, vi (L1.length : Int)), (21, vi (v3 : Int))]
noncomputable def ZfS (a0 : Int) (L1 : List Int) (a2 : Int) (L3 : List Int) : Zu → List (Option AObj)
 | .h1m0 v3 => [some (.cells (Zf eI 64 [vi a2] L3 []) 57)]

noncomputable def Zay : Nat → Code × List Zaj
 | 1 => Zbd [1, 1, 0, 1, 3] (Zca Try.f12) []
 | _ => (.skip, [])
def ZcX : Nat → Bool
 | 1 => true
 | _ => true
noncomputable def Zbg (i : Nat) : List Zaj := match ZcX i with | true => .rnd i :: (Zay i).2 | false => (Zay i).2

noncomputable def Z2 (a0 : Int) (L1 : List Int) (a2 : Int) (L3 : List Int) (N : Nat) : Mach := ⟨Try.f12, [.cells (Zf eI 64 [vi a2] L3 []) 57], Zu, Z0, Za0 a0 L1 a2 L3 N, ZfI, Zay, ZcX, ZfR a0 L1 a2 L3, ZfS a0 L1 a2 L3, Zda a0 L1 a2 L3, ZcW a0 L1 a2 L3⟩

theorem Zew (a0 : Int) (L1 : List Int) (a2 : Int) (L3 : List Int) (v3 N : Nat) : (Z2 a0 L1 a2 L3 N).Ok Try.prog Z7 (.h1m0 v3 : Zu) (Za0 a0 L1 a2 L3 N (.h1m0 v3 : Zu)) := by
 show (Z2 a0 L1 a2 L3 N).Ok Try.prog Z7 (.h1m0 v3 : Zu) (Zbh a0 L1 a2 L3 N v3)
 unfold Zbh
 refine Mach.ok_ite (fun g0 => ?_) (fun g0 => ?_)
 ·
  refine Mach.ok_ite (fun g1 => ?_) (fun g1 => ?_)
  ·
   refine Mach.ok_ite (fun g2 => ?_) (fun g2 => ?_)
   ·
    refine Mach.ok_ite (fun g3 => ?_) (fun g3 => ?_)
    ·
     refine Mach.ok_ite (fun g4 => ?_) (fun g4 => ?_)
     ·
      refine Mach.ok_ite (fun g5 => ?_) (fun g5 => ?_)
      ·
       refine Mach.ok_ite (fun g6 => ?_) (fun g6 => ?_)
       ·
        exact Mach.ok_fin (M := Z2 a0 L1 a2 L3 N) (cd := 1000000) (cm := 0) (r := (.r0 (false) : Z0)) (fu := 4000) (orc := (Zs [(0, true), (1, true), (2, true), (3, true), (5, true), (7, true)] [(0, ((L1.getD v3 0) % (2 : Int)))] [(0, v3), (1, v3)] [(0, [.i (L1.getD v3 0)])] [(0, .at (L3.getD v3 0) [])])) (live := [0]) (u := vf) (bl := [some (.cells (Zf eI 64 [vi a2] L3 []) 57)]) (ob := [(((L1.getD v3 0) == (L3.getD v3 0)), true), (dP (Zm 1 (List.drop ((1 + (v3 * 1)) + 0) (Zf eI 64 [vi a2] L3 [])) = some [vi (L3.getD v3 0)]), true), (Nat.blt v3 64, true), ((v3 : Int) == Int.ofNat v3, true), ((decide ((v3 : Int) < a2)), true), ((decide ((v3 : Int) ≥ (0 : Int))), true), ((((L1.getD v3 0) % (2 : Int)) == (1 : Int)), true), ((IntKind.i64.wrap (((BitVec.ofInt IntKind.i64.bits (L1.getD v3 0) &&& BitVec.ofInt IntKind.i64.bits (1 : Int)).toNat : Nat) : Int)) == ((L1.getD v3 0) % (2 : Int)), true), (((v3 : Int) != a0), true), (dP (Z4 (code (Zy eI L1)) (0 + (v3 * 1)) 1 = some [.i (L1.getD v3 0)]), true), (Nat.blt v3 L1.length, true), ((v3 : Int) == Int.ofNat v3, true), ((decide ((v3 : Int) < (L1.length : Int))), true)]) (fun gv => by kernel_rfl) (oT <| Za (Zh (Zz (E := eI) (L := L3) (n := 64) (p := 1) (i := v3) (q := 0) rfl (by omega) (show ((1 + (v3 * 1)) + 0) = 1 + v3 * 1 + 0 from by omega) (show 0 + 1 ≤ 1 from by decide) rfl)) <| oB <| oI <| oY <| oY <| oT <| Za (beq_iff_eq.2 (Zaa _)) <| oD <| Za (Zh (Zv (E := eI) (L := L1) (i := v3) (q := 0) (by omega) (show (0 + (v3 * 1)) = v3 * 1 + 0 from by omega) (show 0 + 1 ≤ 1 from by decide) rfl)) <| oB <| oI <| oY Zj) rfl (by decide) (by rfl) rr ⟨⟨rfl, ⟨[], by kernel_rfl⟩, by kernel_rfl⟩, trivial⟩
       ·
        exact Mach.ok_next (M := Z2 a0 L1 a2 L3 N) (cd := 1000000) (cm := 0) (y := (.h1m0 ((v3 + 1)) : Zu)) (fu := 4000) (orc := (Zs [(0, true), (1, true), (2, true), (3, true), (5, true), (7, false)] [(0, ((L1.getD v3 0) % (2 : Int))), (1, (((v3 + 1) : Nat) : Int))] [(0, v3), (1, v3)] [(0, [.i (L1.getD v3 0)])] [(0, .at (L3.getD v3 0) [])])) (live := [0]) (tv := fun _ => [some (vp 0 0), some (vi a0), some (ms eI L1), some (vi (L1.length : Int)), some (vi (((v3 + 1) : Nat) : Int))]) (bl := [some (.cells (Zf eI 64 [vi a2] L3 []) 57)]) (ob := [((IntKind.i64.wrap ((v3 : Int) + (1 : Int))) == (((v3 + 1) : Nat) : Int), true), (((L1.getD v3 0) == (L3.getD v3 0)), false), (dP (Zm 1 (List.drop ((1 + (v3 * 1)) + 0) (Zf eI 64 [vi a2] L3 [])) = some [vi (L3.getD v3 0)]), true), (Nat.blt v3 64, true), ((v3 : Int) == Int.ofNat v3, true), ((decide ((v3 : Int) < a2)), true), ((decide ((v3 : Int) ≥ (0 : Int))), true), ((((L1.getD v3 0) % (2 : Int)) == (1 : Int)), true), ((IntKind.i64.wrap (((BitVec.ofInt IntKind.i64.bits (L1.getD v3 0) &&& BitVec.ofInt IntKind.i64.bits (1 : Int)).toNat : Nat) : Int)) == ((L1.getD v3 0) % (2 : Int)), true), (((v3 : Int) != a0), true), (dP (Z4 (code (Zy eI L1)) (0 + (v3 * 1)) 1 = some [.i (L1.getD v3 0)]), true), (Nat.blt v3 L1.length, true), ((v3 : Int) == Int.ofNat v3, true), ((decide ((v3 : Int) < (L1.length : Int))), true)]) rfl (show 1 ∈ Zo (Zbg 1) from by decide +kernel) (fun gv => by kernel_rfl) (Za (beq_iff_eq.2 ((wrap_i64 ltA).trans (by first | rfl | omega))) <| oF <| Za (Zh (Zz (E := eI) (L := L3) (n := 64) (p := 1) (i := v3) (q := 0) rfl (by omega) (show ((1 + (v3 * 1)) + 0) = 1 + v3 * 1 + 0 from by omega) (show 0 + 1 ≤ 1 from by decide) rfl)) <| oB <| oI <| oY <| oY <| oT <| Za (beq_iff_eq.2 (Zaa _)) <| oD <| Za (Zh (Zv (E := eI) (L := L1) (i := v3) (q := 0) (by omega) (show (0 + (v3 * 1)) = v3 * 1 + 0 from by omega) (show 0 + 1 ≤ 1 from by decide) rfl)) <| oB <| oI <| oY Zj) rfl (by decide) (by rfl) (fun _ => ⟨rr, ⟨rr, ⟨rr, ⟨rr, ⟨rr, trivial⟩⟩⟩⟩⟩) ⟨⟨rfl, ⟨[], by kernel_rfl⟩, by kernel_rfl⟩, trivial⟩
      ·
       exact Mach.ok_none
     ·
      exact Mach.ok_none
    ·
     refine Mach.ok_ite (fun g4 => ?_) (fun g4 => ?_)
     ·
      exact Mach.ok_next (M := Z2 a0 L1 a2 L3 N) (cd := 1000000) (cm := 0) (y := (.h1m0 ((v3 + 1)) : Zu)) (fu := 4000) (orc := (Zs [(0, true), (1, true), (2, true), (3, true), (5, false), (7, false)] [(0, ((L1.getD v3 0) % (2 : Int))), (1, (((v3 + 1) : Nat) : Int))] [(0, v3)] [(0, [.i (L1.getD v3 0)])] [])) (live := [0]) (tv := fun _ => [some (vp 0 0), some (vi a0), some (ms eI L1), some (vi (L1.length : Int)), some (vi (((v3 + 1) : Nat) : Int))]) (bl := [some (.cells (Zf eI 64 [vi a2] L3 []) 57)]) (ob := [((IntKind.i64.wrap ((v3 : Int) + (1 : Int))) == (((v3 + 1) : Nat) : Int), true), (((L1.getD v3 0) == (0 : Int)), false), ((decide ((v3 : Int) < a2)), false), ((decide ((v3 : Int) ≥ (0 : Int))), true), ((((L1.getD v3 0) % (2 : Int)) == (1 : Int)), true), ((IntKind.i64.wrap (((BitVec.ofInt IntKind.i64.bits (L1.getD v3 0) &&& BitVec.ofInt IntKind.i64.bits (1 : Int)).toNat : Nat) : Int)) == ((L1.getD v3 0) % (2 : Int)), true), (((v3 : Int) != a0), true), (dP (Z4 (code (Zy eI L1)) (0 + (v3 * 1)) 1 = some [.i (L1.getD v3 0)]), true), (Nat.blt v3 L1.length, true), ((v3 : Int) == Int.ofNat v3, true), ((decide ((v3 : Int) < (L1.length : Int))), true)]) rfl (show 1 ∈ Zo (Zbg 1) from by decide +kernel) (fun gv => by kernel_rfl) (Za (beq_iff_eq.2 ((wrap_i64 ltA).trans (by first | rfl | omega))) <| oF <| oN <| oY <| oT <| Za (beq_iff_eq.2 (Zaa _)) <| oD <| Za (Zh (Zv (E := eI) (L := L1) (i := v3) (q := 0) (by omega) (show (0 + (v3 * 1)) = v3 * 1 + 0 from by omega) (show 0 + 1 ≤ 1 from by decide) rfl)) <| oB <| oI <| oY Zj) rfl (by decide) (by rfl) (fun _ => ⟨rr, ⟨rr, ⟨rr, ⟨rr, ⟨rr, trivial⟩⟩⟩⟩⟩) ⟨⟨rfl, ⟨[], by kernel_rfl⟩, by kernel_rfl⟩, trivial⟩
     ·
      exact Mach.ok_none
   ·
    refine Mach.ok_ite (fun g3 => ?_) (fun g3 => ?_)
    ·
     exact Mach.ok_next (M := Z2 a0 L1 a2 L3 N) (cd := 1000000) (cm := 0) (y := (.h1m0 ((v3 + 1)) : Zu)) (fu := 4000) (orc := (Zs [(0, true), (1, true), (2, false)] [(0, ((L1.getD v3 0) % (2 : Int))), (1, (((v3 + 1) : Nat) : Int))] [(0, v3)] [(0, [.i (L1.getD v3 0)])] [])) (live := [0]) (tv := fun _ => [some (vp 0 0), some (vi a0), some (ms eI L1), some (vi (L1.length : Int)), some (vi (((v3 + 1) : Nat) : Int))]) (bl := [some (.cells (Zf eI 64 [vi a2] L3 []) 57)]) (ob := [((IntKind.i64.wrap ((v3 : Int) + (1 : Int))) == (((v3 + 1) : Nat) : Int), true), ((((L1.getD v3 0) % (2 : Int)) == (1 : Int)), false), ((IntKind.i64.wrap (((BitVec.ofInt IntKind.i64.bits (L1.getD v3 0) &&& BitVec.ofInt IntKind.i64.bits (1 : Int)).toNat : Nat) : Int)) == ((L1.getD v3 0) % (2 : Int)), true), (((v3 : Int) != a0), true), (dP (Z4 (code (Zy eI L1)) (0 + (v3 * 1)) 1 = some [.i (L1.getD v3 0)]), true), (Nat.blt v3 L1.length, true), ((v3 : Int) == Int.ofNat v3, true), ((decide ((v3 : Int) < (L1.length : Int))), true)]) rfl (show 1 ∈ Zo (Zbg 1) from by decide +kernel) (fun gv => by kernel_rfl) (Za (beq_iff_eq.2 ((wrap_i64 ltA).trans (by first | rfl | omega))) <| oF <| Za (beq_iff_eq.2 (Zaa _)) <| oD <| Za (Zh (Zv (E := eI) (L := L1) (i := v3) (q := 0) (by omega) (show (0 + (v3 * 1)) = v3 * 1 + 0 from by omega) (show 0 + 1 ≤ 1 from by decide) rfl)) <| oB <| oI <| oY Zj) rfl (by decide) (by rfl) (fun _ => ⟨rr, ⟨rr, ⟨rr, ⟨rr, ⟨rr, trivial⟩⟩⟩⟩⟩) ⟨⟨rfl, ⟨[], by kernel_rfl⟩, by kernel_rfl⟩, trivial⟩
    ·
     exact Mach.ok_none
  ·
   refine Mach.ok_ite (fun g2 => ?_) (fun g2 => ?_)
   ·
    exact Mach.ok_next (M := Z2 a0 L1 a2 L3 N) (cd := 1000000) (cm := 0) (y := (.h1m0 ((v3 + 1)) : Zu)) (fu := 4000) (orc := (Zs [(0, true), (1, false)] [(0, (((v3 + 1) : Nat) : Int))] [(0, v3)] [(0, [.i (L1.getD v3 0)])] [])) (live := [0]) (tv := fun _ => [some (vp 0 0), some (vi a0), some (ms eI L1), some (vi (L1.length : Int)), some (vi (((v3 + 1) : Nat) : Int))]) (bl := [some (.cells (Zf eI 64 [vi a2] L3 []) 57)]) (ob := [((IntKind.i64.wrap ((v3 : Int) + (1 : Int))) == (((v3 + 1) : Nat) : Int), true), (((v3 : Int) != a0), false), (dP (Z4 (code (Zy eI L1)) (0 + (v3 * 1)) 1 = some [.i (L1.getD v3 0)]), true), (Nat.blt v3 L1.length, true), ((v3 : Int) == Int.ofNat v3, true), ((decide ((v3 : Int) < (L1.length : Int))), true)]) rfl (show 1 ∈ Zo (Zbg 1) from by decide +kernel) (fun gv => by kernel_rfl) (Za (beq_iff_eq.2 ((wrap_i64 ltA).trans (by first | rfl | omega))) <| oE <| Za (Zh (Zv (E := eI) (L := L1) (i := v3) (q := 0) (by omega) (show (0 + (v3 * 1)) = v3 * 1 + 0 from by omega) (show 0 + 1 ≤ 1 from by decide) rfl)) <| oB <| oI <| oY Zj) rfl (by decide) (by rfl) (fun _ => ⟨rr, ⟨rr, ⟨rr, ⟨rr, ⟨rr, trivial⟩⟩⟩⟩⟩) ⟨⟨rfl, ⟨[], by kernel_rfl⟩, by kernel_rfl⟩, trivial⟩
   ·
    exact Mach.ok_none
 ·
  exact Mach.ok_fin (M := Z2 a0 L1 a2 L3 N) (cd := 1000000) (cm := 0) (r := (.r0 (true) : Z0)) (fu := 4000) (orc := (Zs [(0, false)] [] [] [] [])) (live := [0]) (u := vT) (bl := [some (.cells (Zf eI 64 [vi a2] L3 []) 57)]) (ob := [((decide ((v3 : Int) < (L1.length : Int))), false)]) (fun gv => by kernel_rfl) (oN Zj) rfl (by decide) (by rfl) rr ⟨⟨rfl, ⟨[], by kernel_rfl⟩, by kernel_rfl⟩, trivial⟩

theorem Zfi (a0 : Int) (L1 : List Int) (a2 : Int) (L3 : List Int) (N : Nat) : (Z2 a0 L1 a2 L3 N).Enter Try.prog Z7 #[vp 0 0, vi a0, ms eI L1] (ZbN a0 L1 a2 L3 N) := by
 unfold ZbN
 refine Mach.en_ite (fun g0 => ?_) (fun g0 => ?_)
 ·
  exact Mach.en_fin (M := Z2 a0 L1 a2 L3 N) (cd := 1000000) (cm := 0) (r := (.r0 (false) : Z0)) (fu := 4000) (orc := (Zs [(1, true)] [] [] [] [])) (live := [0]) (u := vf) (bl := [some (.cells (Zf eI 64 [vi a2] L3 []) 57)]) (ob := [((a2 == (0 : Int)), true)]) (by kernel_rfl) (oT Zj) rfl (by decide) (by rfl) rr ⟨⟨rfl, ⟨[], by kernel_rfl⟩, by kernel_rfl⟩, trivial⟩
 ·
  refine Mach.en_ite (fun g1 => ?_) (fun g1 => ?_)
  ·
   exact Mach.en_fin (M := Z2 a0 L1 a2 L3 N) (cd := 1000000) (cm := 0) (r := (.r0 (false) : Z0)) (fu := 4000) (orc := (Zs [(1, false), (3, true)] [] [] [] [])) (live := [0]) (u := vf) (bl := [some (.cells (Zf eI 64 [vi a2] L3 []) 57)]) (ob := [(((L1.length : Int) != a2), true), ((a2 == (0 : Int)), false)]) (by kernel_rfl) (oD <| oF Zj) rfl (by decide) (by rfl) rr ⟨⟨rfl, ⟨[], by kernel_rfl⟩, by kernel_rfl⟩, trivial⟩
  ·
   exact Mach.en_head (bK := Zay 1) (M := Z2 a0 L1 a2 L3 N) (cd := 1000000) (cm := 0) (y := (.h1m0 (0) : Zu)) (fu := 4000) (orc := (Zs [(1, false), (3, false)] [] [] [] [])) (live := [0]) (tv := [some (vp 0 0), some (vi a0), some (ms eI L1), some (vi (L1.length : Int)), some (vq)]) (bl := [some (.cells (Zf eI 64 [vi a2] L3 []) 57)]) (ob := [(((L1.length : Int) != a2), false), ((a2 == (0 : Int)), false)]) rfl rfl (show Zo (Zay 1).2 = [] from rfl) (by kernel_rfl) (oE <| oF Zj) rfl (by decide) (by rfl) ⟨rr, ⟨rr, ⟨rr, ⟨rr, ⟨⟨Eq.trans (show (vi ((0 : Nat) : Int) : Value) = vq from (congrArg (Value.int .i64) (by first | rfl | omega))) (by rfl), by rfl⟩, trivial⟩⟩⟩⟩⟩ ⟨⟨rfl, ⟨[], by kernel_rfl⟩, by kernel_rfl⟩, trivial⟩

theorem Zez (a0 : Int) (L1 : List Int) (a2 : Int) (L3 : List Int) (N : Nat) (r : Z0) (h : Zbr a0 L1 a2 L3 N = some r) : LSpec Try.prog 12 #[vp 0 0, vi a0, ms eI L1] [.cells (Zf eI 64 [vi a2] L3 []) 57] (Zda a0 L1 a2 L3 r) (ZcW a0 L1 a2 L3 r) :=
 Mach.spec ZcV (Z2 a0 L1 a2 L3 N) Try.func12 (by kernel_rfl) (by kernel_rfl) (fun x => by cases x <;> exact ZaR _ rfl) (fun r => by cases r <;> exact ZaR _ rfl) (fun x => by
  cases x with
  | h1m0 _ => exact fun _ => (show ¬ (1 ∈ Zo (Zay 1).2) from by decide +kernel)
  ) (fun x => (show (Z2 a0 L1 a2 L3 N).Ok Try.prog Z7 x (Za0 a0 L1 a2 L3 N x) from by
  cases x with
  | h1m0 v3 => exact Zew a0 L1 a2 L3 v3 N
  )) (Zfi a0 L1 a2 L3 N) (n := N) h

noncomputable def ZcY (a0 : Int) (L1 : List Int) (a2 : Int) (L3 : List Int) (w0 : Bool) (k0 n : Nat) : ZbV := .call [(k0, .cells (Zf eI 64 [vi a2] L3 []) 57)] (Value.bool w0) [] 0
def ZbS (A : Array Value) (a0 : Int) (L1 : List Int) (a2 : Int) (L3 : List Int) (w0 : Bool) (k0 n : Nat) : Prop := Zai Try.prog 12 A [(k0, .cells (Zf eI 64 [vi a2] L3 []) 57)] (Value.bool w0) [] n 0

theorem ZcZ (A : Array Value) (a0 : Int) (L1 : List Int) (a2 : Int) (L3 : List Int) (w0 : Bool) (N : Nat) (h : Zbr a0 L1 a2 L3 N = some (.r0 w0)) (k0 n : Nat) (hA : A = #[vp k0 0, vi a0, ms eI L1]) (hnd : ([k0] : List Nat).Nodup) (hlt : ∀ k ∈ ([k0] : List Nat), k < n) : ZbS A a0 L1 a2 L3 w0 k0 n :=
 Zbj hA (LSpec.callL (show LSpec Try.prog 12 #[vp 0 0, vi a0, ms eI L1] [.cells (Zf eI 64 [vi a2] L3 []) 57] (Value.bool w0) [some (.cells (Zf eI 64 [vi a2] L3 []) 57)] from Zez a0 L1 a2 L3 N _ h) [k0] n [] rfl hnd hlt (show 1 ≤ 1 from by decide) (show ∀ j ∈ ([] : List Nat), j < 1 from by decide) (by rfl) ⟨(by kernel_rfl), trivial⟩ (by rfl) ⟨(by kernel_rfl), trivial⟩ ⟨.inr rfl, trivial⟩ rfl rfl rfl (Zak (ZaZ rfl (by kernel_rfl)) rfl) rfl)

noncomputable def ZfQ (L0 : List Int) (a1 : Int) (L2 : List Int) : ZW → Value
 | .r0 w1 => Value.bool w1
noncomputable def Zfj (L0 : List Int) (a1 : Int) (L2 : List Int) : ZW → List (Option AObj)
 | .r0 w1 => [some (.cells (Zd eI L0) 3)]

def Zix : Z8 → Nat
 | .h1m0 v3 => 1
noncomputable def ZiQ (L0 : List Int) (a1 : Int) (L2 : List Int) : Z8 → List (Nat × Value)
 | .h1m0 v3 => [(1, vi a1), (2, ms eI L2), (3, vp 1 0), (7, vi (v3 : Int))]
noncomputable def ZiR (L0 : List Int) (a1 : Int) (L2 : List Int) : Z8 → List (Option AObj)
 | .h1m0 v3 => [some (.cells (Zd eI L0) 3), some (.cells [vs 0 0 L0.length L0.length] 29)]

noncomputable def Zbk : Nat → Code × List Zaj
 | 1 => Zbd [1, 1, 0, 1, 3] (Zca Try.f13) []
 | _ => (.skip, [])
def Zfk : Nat → Bool
 | 1 => true
 | _ => true
noncomputable def ZdM (i : Nat) : List Zaj := match Zfk i with | true => .rnd i :: (Zbk i).2 | false => (Zbk i).2

noncomputable def Zah (L0 : List Int) (a1 : Int) (L2 : List Int) (N : Nat) : Mach := ⟨Try.f13, [.cells (Zd eI L0) 3], Z8, ZW, Zbe L0 a1 L2 N, Zix, Zbk, Zfk, ZiQ L0 a1 L2, ZiR L0 a1 L2, ZfQ L0 a1 L2, Zfj L0 a1 L2⟩

theorem Zg5 (L0 : List Int) (a1 : Int) (L2 : List Int) (v3 N : Nat) : (Zah L0 a1 L2 N).Ok Try.prog Z7 (.h1m0 v3 : Z8) (Zbe L0 a1 L2 N (.h1m0 v3 : Z8)) := by
 show (Zah L0 a1 L2 N).Ok Try.prog Z7 (.h1m0 v3 : Z8) (Zct L0 a1 L2 N v3)
 unfold Zct
 refine Mach.ok_ite (fun g0 => ?_) (fun g0 => ?_)
 ·
  refine Mach.ok_ite (fun g1 => ?_) (fun g1 => ?_)
  ·
   refine Mach.ok_ite (fun g2 => ?_) (fun g2 => ?_)
   ·
    refine Mach.ok_ite (fun g3 => ?_) (fun g3 => ?_)
    ·
     refine Mach.ok_ite (fun g4 => ?_) (fun g4 => ?_)
     ·
      exact Mach.ok_fin (M := Zah L0 a1 L2 N) (cd := 1000000) (cm := 0) (r := (.r0 (false) : ZW)) (fu := 4000) (orc := (Zs [(0, true), (1, true), (2, true), (3, true)] [] [(0, v3), (1, v3), (2, v3)] [(0, [.i (L2.getD v3 0)]), (1, [.i (L2.getD v3 0)]), (3, [.i (L0.getD v3 0)])] [])) (live := [0]) (u := vf) (bl := [some (.cells (Zd eI L0) 3)]) (ob := [(((L2.getD v3 0) == (L0.getD v3 0)), true), (Z1 (Zm 1 (List.drop (0 + (v3 * 1)) (Zd eI L0))) [.i (L0.getD v3 0)], true), (Nat.blt v3 L0.length, true), ((v3 : Int) == Int.ofNat v3, true), (dP (Z4 (code (Zy eI L2)) (0 + (v3 * 1)) 1 = some [.i (L2.getD v3 0)]), true), (Nat.blt v3 L2.length, true), ((v3 : Int) == Int.ofNat v3, true), (((Int.tmod (L2.getD v3 0) (2 : Int)) != (0 : Int)), true), (dP (Z4 (code (Zy eI L2)) (0 + (v3 * 1)) 1 = some [.i (L2.getD v3 0)]), true), (Nat.blt v3 L2.length, true), ((v3 : Int) == Int.ofNat v3, true), (((v3 : Int) != a1), true), ((decide ((v3 : Int) < (L2.length : Int))), true)]) (fun gv => by kernel_rfl) (oT <| Za (Zq (E := eI) (L := L0) (i := v3) (q := 0) (by omega) (show (0 + (v3 * 1)) = v3 * 1 + 0 from by omega) (show 0 + 1 ≤ 1 from by decide) rfl rfl) <| oB <| oI <| Za (Zh (Zv (E := eI) (L := L2) (i := v3) (q := 0) (by omega) (show (0 + (v3 * 1)) = v3 * 1 + 0 from by omega) (show 0 + 1 ≤ 1 from by decide) rfl)) <| oB <| oI <| oD <| Za (Zh (Zv (E := eI) (L := L2) (i := v3) (q := 0) (by omega) (show (0 + (v3 * 1)) = v3 * 1 + 0 from by omega) (show 0 + 1 ≤ 1 from by decide) rfl)) <| oB <| oI <| oD <| oY Zj) rfl (by decide) (by rfl) rr ⟨(Zn (E := eI) (α := Int) _ L0 _), trivial⟩
     ·
      refine Mach.ok_ite (fun g5 => ?_) (fun g5 => ?_)
      ·
       exact Mach.ok_next (M := Zah L0 a1 L2 N) (cd := 1000000) (cm := 0) (y := (.h1m0 ((v3 + 1)) : Z8)) (fu := 4000) (orc := (Zs [(0, true), (1, true), (2, true), (3, false)] [(1, (((v3 + 1) : Nat) : Int))] [(0, v3), (1, v3), (2, v3)] [(0, [.i (L2.getD v3 0)]), (1, [.i (L2.getD v3 0)]), (3, [.i (L0.getD v3 0)])] [])) (live := [0, 1]) (tv := fun _ => [some (vi a1), some (ms eI L2), some (vp 1 0), some (vi (((v3 + 1) : Nat) : Int))]) (bl := [some (.cells (Zd eI L0) 3), some (.cells [vs 0 0 L0.length L0.length] 29)]) (ob := [((IntKind.i64.wrap ((v3 : Int) + (1 : Int))) == (((v3 + 1) : Nat) : Int), true), (((L2.getD v3 0) == (L0.getD v3 0)), false), (Z1 (Zm 1 (List.drop (0 + (v3 * 1)) (Zd eI L0))) [.i (L0.getD v3 0)], true), (Nat.blt v3 L0.length, true), ((v3 : Int) == Int.ofNat v3, true), (dP (Z4 (code (Zy eI L2)) (0 + (v3 * 1)) 1 = some [.i (L2.getD v3 0)]), true), (Nat.blt v3 L2.length, true), ((v3 : Int) == Int.ofNat v3, true), (((Int.tmod (L2.getD v3 0) (2 : Int)) != (0 : Int)), true), (dP (Z4 (code (Zy eI L2)) (0 + (v3 * 1)) 1 = some [.i (L2.getD v3 0)]), true), (Nat.blt v3 L2.length, true), ((v3 : Int) == Int.ofNat v3, true), (((v3 : Int) != a1), true), ((decide ((v3 : Int) < (L2.length : Int))), true)]) rfl (show 1 ∈ Zo (ZdM 1) from by decide +kernel) (fun gv => by kernel_rfl) (Za (beq_iff_eq.2 ((wrap_i64 ltA).trans (by first | rfl | omega))) <| oF <| Za (Zq (E := eI) (L := L0) (i := v3) (q := 0) (by omega) (show (0 + (v3 * 1)) = v3 * 1 + 0 from by omega) (show 0 + 1 ≤ 1 from by decide) rfl rfl) <| oB <| oI <| Za (Zh (Zv (E := eI) (L := L2) (i := v3) (q := 0) (by omega) (show (0 + (v3 * 1)) = v3 * 1 + 0 from by omega) (show 0 + 1 ≤ 1 from by decide) rfl)) <| oB <| oI <| oD <| Za (Zh (Zv (E := eI) (L := L2) (i := v3) (q := 0) (by omega) (show (0 + (v3 * 1)) = v3 * 1 + 0 from by omega) (show 0 + 1 ≤ 1 from by decide) rfl)) <| oB <| oI <| oD <| oY Zj) rfl (by decide) (by rfl) (fun _ => ⟨rr, ⟨rr, ⟨rr, ⟨rr, trivial⟩⟩⟩⟩) ⟨(Zn (E := eI) (α := Int) _ L0 _), ⟨⟨rfl, ⟨[], by rfl⟩, by rfl⟩, trivial⟩⟩
      ·
       exact Mach.ok_none
    ·
     exact Mach.ok_none
   ·
    refine Mach.ok_ite (fun g3 => ?_) (fun g3 => ?_)
    ·
     exact Mach.ok_next (M := Zah L0 a1 L2 N) (cd := 1000000) (cm := 0) (y := (.h1m0 ((v3 + 1)) : Z8)) (fu := 4000) (orc := (Zs [(0, true), (1, true), (2, false)] [(1, (((v3 + 1) : Nat) : Int))] [(0, v3)] [(0, [.i (L2.getD v3 0)])] [])) (live := [0, 1]) (tv := fun _ => [some (vi a1), some (ms eI L2), some (vp 1 0), some (vi (((v3 + 1) : Nat) : Int))]) (bl := [some (.cells (Zd eI L0) 3), some (.cells [vs 0 0 L0.length L0.length] 29)]) (ob := [((IntKind.i64.wrap ((v3 : Int) + (1 : Int))) == (((v3 + 1) : Nat) : Int), true), (((Int.tmod (L2.getD v3 0) (2 : Int)) != (0 : Int)), false), (dP (Z4 (code (Zy eI L2)) (0 + (v3 * 1)) 1 = some [.i (L2.getD v3 0)]), true), (Nat.blt v3 L2.length, true), ((v3 : Int) == Int.ofNat v3, true), (((v3 : Int) != a1), true), ((decide ((v3 : Int) < (L2.length : Int))), true)]) rfl (show 1 ∈ Zo (ZdM 1) from by decide +kernel) (fun gv => by kernel_rfl) (Za (beq_iff_eq.2 ((wrap_i64 ltA).trans (by first | rfl | omega))) <| oE <| Za (Zh (Zv (E := eI) (L := L2) (i := v3) (q := 0) (by omega) (show (0 + (v3 * 1)) = v3 * 1 + 0 from by omega) (show 0 + 1 ≤ 1 from by decide) rfl)) <| oB <| oI <| oD <| oY Zj) rfl (by decide) (by rfl) (fun _ => ⟨rr, ⟨rr, ⟨rr, ⟨rr, trivial⟩⟩⟩⟩) ⟨(Zn (E := eI) (α := Int) _ L0 _), ⟨⟨rfl, ⟨[], by rfl⟩, by rfl⟩, trivial⟩⟩
    ·
     exact Mach.ok_none
  ·
   refine Mach.ok_ite (fun g2 => ?_) (fun g2 => ?_)
   ·
    exact Mach.ok_next (M := Zah L0 a1 L2 N) (cd := 1000000) (cm := 0) (y := (.h1m0 ((v3 + 1)) : Z8)) (fu := 4000) (orc := (Zs [(0, true), (1, false)] [(0, (((v3 + 1) : Nat) : Int))] [] [] [])) (live := [0, 1]) (tv := fun _ => [some (vi a1), some (ms eI L2), some (vp 1 0), some (vi (((v3 + 1) : Nat) : Int))]) (bl := [some (.cells (Zd eI L0) 3), some (.cells [vs 0 0 L0.length L0.length] 29)]) (ob := [((IntKind.i64.wrap ((v3 : Int) + (1 : Int))) == (((v3 + 1) : Nat) : Int), true), (((v3 : Int) != a1), false), ((decide ((v3 : Int) < (L2.length : Int))), true)]) rfl (show 1 ∈ Zo (ZdM 1) from by decide +kernel) (fun gv => by kernel_rfl) (Za (beq_iff_eq.2 ((wrap_i64 ltA).trans (by first | rfl | omega))) <| oE <| oY Zj) rfl (by decide) (by rfl) (fun _ => ⟨rr, ⟨rr, ⟨rr, ⟨rr, trivial⟩⟩⟩⟩) ⟨(Zn (E := eI) (α := Int) _ L0 _), ⟨⟨rfl, ⟨[], by rfl⟩, by rfl⟩, trivial⟩⟩
   ·
    exact Mach.ok_none
 ·
  exact Mach.ok_fin (M := Zah L0 a1 L2 N) (cd := 1000000) (cm := 0) (r := (.r0 (true) : ZW)) (fu := 4000) (orc := (Zs [(0, false)] [] [] [] [])) (live := [0]) (u := vT) (bl := [some (.cells (Zd eI L0) 3)]) (ob := [((decide ((v3 : Int) < (L2.length : Int))), false)]) (fun gv => by kernel_rfl) (oN Zj) rfl (by decide) (by rfl) rr ⟨(Zn (E := eI) (α := Int) _ L0 _), trivial⟩

theorem Zif (L0 : List Int) (a1 : Int) (L2 : List Int) (N : Nat) : (Zah L0 a1 L2 N).Enter Try.prog Z7 #[Value.agg #[vs 0 0 L0.length L0.length], vi a1, ms eI L2] (Zdn L0 a1 L2 N) := by
 unfold Zdn
 refine Mach.en_ite (fun g0 => ?_) (fun g0 => ?_)
 ·
  exact Mach.en_fin (M := Zah L0 a1 L2 N) (cd := 1000000) (cm := 0) (r := (.r0 (false) : ZW)) (fu := 4000) (orc := (Zs [(0, true)] [] [] [] [])) (live := [0]) (u := vf) (bl := [some (.cells (Zd eI L0) 3)]) (ob := [(((L2.length : Int) != (L0.length : Int)), true)]) (by kernel_rfl) (oD Zj) rfl (by decide) (by rfl) rr ⟨(Zn (E := eI) (α := Int) _ L0 _), trivial⟩
 ·
  exact Mach.en_head (bK := Zbk 1) (M := Zah L0 a1 L2 N) (cd := 1000000) (cm := 0) (y := (.h1m0 (0) : Z8)) (fu := 4000) (orc := (Zs [(0, false)] [] [] [] [])) (live := [0, 1]) (tv := [some (vi a1), some (ms eI L2), some (vp 1 0), some (vq)]) (bl := [some (.cells (Zd eI L0) 3), some (.cells [vs 0 0 L0.length L0.length] 29)]) (ob := [(((L2.length : Int) != (L0.length : Int)), false)]) rfl rfl (show Zo (Zbk 1).2 = [] from rfl) (by kernel_rfl) (oE Zj) rfl (by decide) (by rfl) ⟨rr, ⟨rr, ⟨rr, ⟨⟨Eq.trans (show (vi ((0 : Nat) : Int) : Value) = vq from (congrArg (Value.int .i64) (by first | rfl | omega))) (by rfl), by rfl⟩, trivial⟩⟩⟩⟩ ⟨(Zn (E := eI) (α := Int) _ L0 _), ⟨⟨rfl, ⟨[], by rfl⟩, by rfl⟩, trivial⟩⟩

theorem ZgR (L0 : List Int) (a1 : Int) (L2 : List Int) (N : Nat) (r : ZW) (h : ZcU L0 a1 L2 N = some r) : LSpec Try.prog 13 #[Value.agg #[vs 0 0 L0.length L0.length], vi a1, ms eI L2] [.cells (Zd eI L0) 3] (ZfQ L0 a1 L2 r) (Zfj L0 a1 L2 r) :=
 Mach.spec ZcV (Zah L0 a1 L2 N) Try.func13 (by kernel_rfl) (by kernel_rfl) (fun x => by cases x <;> exact ZaR _ rfl) (fun r => by cases r <;> exact ZaR _ rfl) (fun x => by
  cases x with
  | h1m0 _ => exact fun _ => (show ¬ (1 ∈ Zo (Zbk 1).2) from by decide +kernel)
  ) (fun x => (show (Zah L0 a1 L2 N).Ok Try.prog Z7 x (Zbe L0 a1 L2 N x) from by
  cases x with
  | h1m0 v3 => exact Zg5 L0 a1 L2 v3 N
  )) (Zif L0 a1 L2 N) (n := N) h

noncomputable def Zfl (L0 : List Int) (a1 : Int) (L2 : List Int) (w1 : Bool) (k0 n : Nat) : ZbV := .call [(k0, .cells (Zd eI L0) 3)] (Value.bool w1) [] 0
def Zdp (A : Array Value) (L0 : List Int) (a1 : Int) (L2 : List Int) (w1 : Bool) (k0 n : Nat) : Prop := Zai Try.prog 13 A [(k0, .cells (Zd eI L0) 3)] (Value.bool w1) [] n 0

theorem Zfm (A : Array Value) (L0 : List Int) (a1 : Int) (L2 : List Int) (w1 : Bool) (N : Nat) (h : ZcU L0 a1 L2 N = some (.r0 w1)) (k0 n : Nat) (hA : A = #[Value.agg #[vs k0 0 L0.length L0.length], vi a1, ms eI L2]) (hnd : ([k0] : List Nat).Nodup) (hlt : ∀ k ∈ ([k0] : List Nat), k < n) : Zdp A L0 a1 L2 w1 k0 n :=
 Zbj hA (LSpec.callL (show LSpec Try.prog 13 #[Value.agg #[vs 0 0 L0.length L0.length], vi a1, ms eI L2] [.cells (Zd eI L0) 3] (Value.bool w1) [some (.cells (Zd eI L0) 3)] from ZgR L0 a1 L2 N _ h) [k0] n [] rfl hnd hlt (show 1 ≤ 1 from by decide) (show ∀ j ∈ ([] : List Nat), j < 1 from by decide) (by rfl) ⟨(ZaX _ _ _), trivial⟩ (by rfl) ⟨(ZaX _ _ _), trivial⟩ ⟨.inr rfl, trivial⟩ rfl rfl rfl (Zak (ZaZ rfl (Zdl _ _ _)) rfl) rfl)

noncomputable def ZdN (a0 : Int) (L1 : List Int) : ZD → Value
 | .r0 => vn
 | .r1 w0 => vs 1 0 w0.length w0.length
noncomputable def ZdA (a0 : Int) (L1 : List Int) : ZD → List (Option AObj)
 | .r0 => [some (.cells (Zf eI 64 [vi a0] L1 []) 57)]
 | .r1 w0 => [some (.cells (Zf eI 64 [vi a0] L1 []) 57), some (.cells (Zd eI w0) 3)]

def Zg6 : Zw → Nat
 | .h1m0 => 1
 | .h1m1 v0 v2 => 1
noncomputable def ZgS (a0 : Int) (L1 : List Int) : Zw → List (Nat × Value)
 | .h1m0 => [(0, vp 0 0), (3, vn), (6, vi a0), (7, vq)]
 | .h1m1 v0 v2 => [(0, vp 0 0), (3, vs 1 0 v0.length v0.length), (6, vi a0), (7, vi (v2 : Int))]
noncomputable def ZgT (a0 : Int) (L1 : List Int) : Zw → List (Option AObj)
 | .h1m0 => [some (.cells (Zf eI 64 [vi a0] L1 []) 57)]
 | .h1m1 v0 v2 => [some (.cells (Zf eI 64 [vi a0] L1 []) 57), some (.cells (Zd eI v0) 3)]

noncomputable def Zav : Nat → Code × List Zaj
 | 1 => Zbd [1, 1, 0, 1, 3] (Zca Try.f15) []
 | _ => (.skip, [])
def ZdB : Nat → Bool
 | 1 => true
 | _ => true
noncomputable def ZdO (i : Nat) : List Zaj := match ZdB i with | true => .rnd i :: (Zav i).2 | false => (Zav i).2

noncomputable def ZK (a0 : Int) (L1 : List Int) (N : Nat) : Mach := ⟨Try.f15, [.cells (Zf eI 64 [vi a0] L1 []) 57], Zw, ZD, Zat a0 L1 N, Zg6, Zav, ZdB, ZgS a0 L1, ZgT a0 L1, ZdN a0 L1, ZdA a0 L1⟩

theorem ZeJ (a0 : Int) (L1 : List Int) (N : Nat) : (ZK a0 L1 N).Ok Try.prog Z7 (.h1m0 : Zw) (Zat a0 L1 N (.h1m0 : Zw)) := by
 show (ZK a0 L1 N).Ok Try.prog Z7 (.h1m0 : Zw) (Zb8 a0 L1 N)
 unfold Zb8
 refine Mach.ok_ite (fun g0 => ?_) (fun g0 => ?_)
 ·
  exact Mach.ok_next (M := ZK a0 L1 N) (cd := 1000000) (cm := 0) (y := (.h1m1 (([(L1.getD 0 0)] : List Int)) (1) : Zw)) (fu := 4000) (orc := (Zs [(0, true), (3, true)] [] [] [] [])) (live := [0, 2]) (tv := fun _ => [some (vp 0 0), some (vs 2 0 1 1), some (vi a0), some (vi (1 : Int))]) (bl := [some (.cells (Zf eI 64 [vi a0] L1 []) 57), some (.cells [vi (L1.getD 0 0)] 3)]) (ob := [((decide ((0 : Int) < a0)), true), ((decide ((0 : Int) < a0)), true)]) rfl (show 1 ∈ Zo (ZdO 1) from by decide +kernel) (fun gv => by kernel_rfl) (oY <| oY Zj) rfl (by decide) (by rfl) (fun _ => ⟨rr, ⟨⟨Eq.trans (show (vs 1 0 ([(L1.getD 0 0)] : List Int).length ([(L1.getD 0 0)] : List Int).length : Value) = vs 1 0 1 1 from (ZaQ rfl eqA eqA)) (by rfl), by rfl⟩, ⟨rr, ⟨⟨Eq.trans (show (vi ((1 : Nat) : Int) : Value) = vi (1 : Int) from (congrArg (Value.int .i64) (by first | rfl | omega))) (by rfl), by rfl⟩, trivial⟩⟩⟩⟩) ⟨⟨rfl, ⟨[], by kernel_rfl⟩, by kernel_rfl⟩, ⟨(Zl0 (E := eI) _ (L := ([(L1.getD 0 0)] : List Int)) _ (show ([vi (L1.getD 0 0)] : List Value) = Zd eI ([(L1.getD 0 0)] : List Int) from rfl)), trivial⟩⟩
 ·
  exact Mach.ok_fin (M := ZK a0 L1 N) (cd := 1000000) (cm := 0) (r := (.r0 : ZD)) (fu := 4000) (orc := (Zs [(0, false)] [] [] [] [])) (live := [0]) (u := vn) (bl := [some (.cells (Zf eI 64 [vi a0] L1 []) 57)]) (ob := [((decide ((0 : Int) < a0)), false)]) (fun gv => by kernel_rfl) (oN Zj) rfl (by decide) (by rfl) rr ⟨⟨rfl, ⟨[], by kernel_rfl⟩, by kernel_rfl⟩, trivial⟩

theorem ZeK (a0 : Int) (L1 v0 : List Int) (v2 N : Nat) : (ZK a0 L1 N).Ok Try.prog Z7 (.h1m1 v0 v2 : Zw) (Zat a0 L1 N (.h1m1 v0 v2 : Zw)) := by
 show (ZK a0 L1 N).Ok Try.prog Z7 (.h1m1 v0 v2 : Zw) (Zb9 a0 L1 N v0 v2)
 unfold Zb9
 refine Mach.ok_ite (fun g0 => ?_) (fun g0 => ?_)
 ·
  refine Mach.ok_ite (fun g1 => ?_) (fun g1 => ?_)
  ·
   refine Mach.ok_ite (fun g2 => ?_) (fun g2 => ?_)
   ·
    refine Mach.ok_ite (fun g3 => ?_) (fun g3 => ?_)
    ·
     exact Mach.ok_next (M := ZK a0 L1 N) (cd := 1000000) (cm := 0) (y := (.h1m1 ((v0 ++ ([(L1.getD v2 0)] : List Int))) ((v2 + 1)) : Zw)) (fu := 4000) (orc := (Zs [(0, true), (1, true), (3, true)] [(0, (((v2 + 1) : Nat) : Int))] [(0, v2)] [] [(0, .at (L1.getD v2 0) []), (1, .ap 1 [vi (L1.getD v2 0)] (Zd eI (v0 ++ ([(L1.getD v2 0)] : List Int))))])) (live := [0, 3]) (tv := fun _ => [some (vp 0 0), some (vs 3 0 (v0.length + 1) (v0.length + 1)), some (vi a0), some (vi (((v2 + 1) : Nat) : Int))]) (bl := [some (.cells (Zf eI 64 [vi a0] L1 []) 57), some (.cells (Zd eI (v0 ++ ([(L1.getD v2 0)] : List Int))) 3)]) (ob := [((IntKind.i64.wrap ((v2 : Int) + (1 : Int))) == (((v2 + 1) : Nat) : Int), true), (dP ((1 = 1 ∧ Zm (1 * 1) (List.drop 0 [vi (L1.getD v2 0)]) = some [vi (L1.getD v2 0)] ∧ Zt Zao [vi (L1.getD v2 0)] = true) ∧ 0 < 1 ∧ 1 ≤ 100000 ∧ v0.length < v0.length + 1 ∧ v0.length ≤ 100000 ∧ v0.length * 1 ≤ (List.length (Zd eI v0)) ∧ List.take (v0.length * 1) (Zd eI v0) ++ [vi (L1.getD v2 0)] = (Zd eI (v0 ++ ([(L1.getD v2 0)] : List Int)))), true), (dP (Zm 1 (List.drop ((1 + (v2 * 1)) + 0) (Zf eI 64 [vi a0] L1 [])) = some [vi (L1.getD v2 0)]), true), (Nat.blt v2 64, true), ((v2 : Int) == Int.ofNat v2, true), ((decide ((v2 : Int) < a0)), true), ((decide ((v2 : Int) ≥ (0 : Int))), true), ((decide ((v2 : Int) < a0)), true)]) rfl (show 1 ∈ Zo (ZdO 1) from by decide +kernel) (fun gv => by kernel_rfl) (Za (beq_iff_eq.2 ((wrap_i64 ltA).trans (by first | rfl | omega))) <| Za (Zh ⟨⟨rfl, ⟨rfl, rfl⟩⟩, by omega, by omega, ltA, by omega, (ZbM (E := eI) (L := v0) (M := ([(L1.getD v2 0)] : List Int)) (n := v0.length) (show _ = _ * 1 from rfl) (by omega) (R := (v0 ++ ([(L1.getD v2 0)] : List Int))) (by rw [List.take_of_length_le (by omega)]))⟩) <| Za (Zh (Zz (E := eI) (L := L1) (n := 64) (p := 1) (i := v2) (q := 0) rfl (by omega) (show ((1 + (v2 * 1)) + 0) = 1 + v2 * 1 + 0 from by omega) (show 0 + 1 ≤ 1 from by decide) rfl)) <| oB <| oI <| oY <| oY <| oY Zj) rfl (by decide) (by rfl) (fun _ => ⟨rr, ⟨⟨Eq.trans (show (vs 1 0 (v0 ++ ([(L1.getD v2 0)] : List Int)).length (v0 ++ ([(L1.getD v2 0)] : List Int)).length : Value) = vs 1 0 (v0.length + 1) (v0.length + 1) from (ZaQ rfl eqA eqA)) (by rfl), by rfl⟩, ⟨rr, ⟨rr, trivial⟩⟩⟩⟩) ⟨⟨rfl, ⟨[], by kernel_rfl⟩, by kernel_rfl⟩, ⟨(Zn (E := eI) (α := Int) _ (v0 ++ ([(L1.getD v2 0)] : List Int)) _), trivial⟩⟩
    ·
     exact Mach.ok_none
   ·
    exact Mach.ok_none
  ·
   exact Mach.ok_none
 ·
  exact Mach.ok_fin (M := ZK a0 L1 N) (cd := 1000000) (cm := 0) (r := (.r1 (v0) : ZD)) (fu := 4000) (orc := (Zs [(0, false)] [] [] [] [])) (live := [0, 1]) (u := vs 1 0 v0.length v0.length) (bl := [some (.cells (Zf eI 64 [vi a0] L1 []) 57), some (.cells (Zd eI v0) 3)]) (ob := [((decide ((v2 : Int) < a0)), false)]) (fun gv => by kernel_rfl) (oN Zj) rfl (by decide) (by rfl) rr ⟨⟨rfl, ⟨[], by kernel_rfl⟩, by kernel_rfl⟩, ⟨(Zn (E := eI) (α := Int) _ v0 _), trivial⟩⟩

theorem ZfT (a0 : Int) (L1 : List Int) (N : Nat) : (ZK a0 L1 N).Enter Try.prog Z7 #[vp 0 0] (Zcj a0 L1 N) := by
 unfold Zcj
 exact Mach.en_head (bK := Zav 1) (M := ZK a0 L1 N) (cd := 1000000) (cm := 0) (y := (.h1m0 : Zw)) (fu := 4000) (orc := (Zs [] [] [] [] [])) (live := [0]) (tv := [some (vp 0 0), some (vn), some (vi a0), some (vq)]) (bl := [some (.cells (Zf eI 64 [vi a0] L1 []) 57)]) (ob := []) rfl rfl (show Zo (Zav 1).2 = [] from rfl) (by kernel_rfl) Zj rfl (by decide) (by rfl) ⟨rr, ⟨rr, ⟨rr, ⟨rr, trivial⟩⟩⟩⟩ ⟨⟨rfl, ⟨[], by kernel_rfl⟩, by kernel_rfl⟩, trivial⟩

theorem ZcI (a0 : Int) (L1 : List Int) (N : Nat) (r : ZD) (h : ZaH a0 L1 N = some r) : LSpec Try.prog 15 #[vp 0 0] [.cells (Zf eI 64 [vi a0] L1 []) 57] (ZdN a0 L1 r) (ZdA a0 L1 r) :=
 Mach.spec ZcV (ZK a0 L1 N) Try.func15 (by kernel_rfl) (by kernel_rfl) (fun x => by cases x <;> exact ZaR _ rfl) (fun r => by cases r <;> exact ZaR _ rfl) (fun x => by
  cases x with
  | h1m0 => exact fun _ => (show ¬ (1 ∈ Zo (Zav 1).2) from by decide +kernel)
  | h1m1 _ _ => exact fun _ => (show ¬ (1 ∈ Zo (Zav 1).2) from by decide +kernel)
  ) (fun x => (show (ZK a0 L1 N).Ok Try.prog Z7 x (Zat a0 L1 N x) from by
  cases x with
  | h1m0 => exact ZeJ a0 L1 N
  | h1m1 v0 v2 => exact ZeK a0 L1 v0 v2 N
  )) (ZfT a0 L1 N) (n := N) h

noncomputable def ZL (a0 : Int) (L1 : List Int) (k0 n : Nat) : ZbV := .call [(k0, .cells (Zf eI 64 [vi a0] L1 []) 57)] (vn) [] 0
def ZF (A : Array Value) (a0 : Int) (L1 : List Int) (k0 n : Nat) : Prop := Zai Try.prog 15 A [(k0, .cells (Zf eI 64 [vi a0] L1 []) 57)] (vn) [] n 0

theorem ZM (A : Array Value) (a0 : Int) (L1 : List Int) (N : Nat) (h : ZaH a0 L1 N = some (.r0)) (k0 n : Nat) (hA : A = #[vp k0 0]) (hnd : ([k0] : List Nat).Nodup) (hlt : ∀ k ∈ ([k0] : List Nat), k < n) : ZF A a0 L1 k0 n :=
 Zbj hA (LSpec.callL (show LSpec Try.prog 15 #[vp 0 0] [.cells (Zf eI 64 [vi a0] L1 []) 57] (vn) [some (.cells (Zf eI 64 [vi a0] L1 []) 57)] from ZcI a0 L1 N _ h) [k0] n [] rfl hnd hlt (show 1 ≤ 1 from by decide) (show ∀ j ∈ ([] : List Nat), j < 1 from by decide) (by rfl) ⟨(by kernel_rfl), trivial⟩ (by rfl) ⟨(by kernel_rfl), trivial⟩ ⟨.inr rfl, trivial⟩ rfl rfl rfl (Zak (ZaZ rfl (by kernel_rfl)) rfl) rfl)

noncomputable def ZN (a0 : Int) (L1 w0 : List Int) (k0 n : Nat) : ZbV := .call [(k0, .cells (Zf eI 64 [vi a0] L1 []) 57)] (vs n 0 w0.length w0.length) [(n, some (.cells (Zd eI w0) 3))] 1
def ZG (A : Array Value) (a0 : Int) (L1 w0 : List Int) (k0 n : Nat) : Prop := Zai Try.prog 15 A [(k0, .cells (Zf eI 64 [vi a0] L1 []) 57)] (vs n 0 w0.length w0.length) [(n, some (.cells (Zd eI w0) 3))] n 1

theorem ZO (A : Array Value) (a0 : Int) (L1 w0 : List Int) (N : Nat) (h : ZaH a0 L1 N = some (.r1 w0)) (k0 n : Nat) (hA : A = #[vp k0 0]) (hnd : ([k0] : List Nat).Nodup) (hlt : ∀ k ∈ ([k0] : List Nat), k < n) : ZG A a0 L1 w0 k0 n :=
 Zbj hA (LSpec.callL (show LSpec Try.prog 15 #[vp 0 0] [.cells (Zf eI 64 [vi a0] L1 []) 57] (vs 1 0 w0.length w0.length) [some (.cells (Zf eI 64 [vi a0] L1 []) 57), some (.cells (Zd eI w0) 3)] from ZcI a0 L1 N _ h) [k0] n [1] rfl hnd hlt (show 1 ≤ 2 from by decide) (show ∀ j ∈ ([1] : List Nat), j < 2 from by decide) (by rfl) ⟨(by kernel_rfl), trivial⟩ (by rfl) ⟨(by kernel_rfl), ⟨(ZaX _ _ _), trivial⟩⟩ ⟨.inr rfl, ⟨(by decide), trivial⟩⟩ rfl rfl rfl (Zak (ZaZ rfl (by kernel_rfl)) rfl) (Zak (ZaZ rfl (ZgN (Zdl _ _ _))) rfl))

noncomputable def ZdP (a0 : Int) (L1 : List Int) : Z5 → Value
 | .r0 => Value.pointer none
 | .r1 w3 => vp 1 0
noncomputable def ZdC (a0 : Int) (L1 : List Int) : Z5 → List (Option AObj)
 | .r0 => [some (.cells (Zf eI 64 [vi a0] L1 []) 57)]
 | .r1 w3 => [some (.cells (Zf eI 64 [vi a0] L1 []) 57), some (.cells (Zf eI 64 [vi a0] w3 []) 57)]

def Zg7 : Zx → Nat
 | .h1m0 => 1
 | .h1m1 v0 v1 v2 v6 => 1
noncomputable def ZgU (a0 : Int) (L1 : List Int) : Zx → List (Nat × Value)
 | .h1m0 => [(3, vp 1 0), (16, vn), (17, vq), (18, vq)]
 | .h1m1 v0 v1 v2 v6 => [(3, vp 1 0), (16, vs 2 0 v0.length v0.length), (17, vi (v1 : Int)), (18, vi (v2 : Int))]
noncomputable def ZgV (a0 : Int) (L1 : List Int) : Zx → List (Option AObj)
 | .h1m0 => [some (.cells (Zf eI 64 [vi a0] L1 []) 57), some (.cells (Zf eI 64 [vi a0] (List.replicate 64 (0 : Int)) []) 57)]
 | .h1m1 v0 v1 v2 v6 => [some (.cells (Zf eI 64 [vi a0] L1 []) 57), some (.cells (Zf eI 64 [vi a0] v6 []) 57), some (.cells (Zd eI v0) 3)]

noncomputable def Zag : Nat → Code × List Zaj
 | 1 => Zbd [1, 1, 1, 0, 1, 3] (Zca Try.f14) []
 | _ => (.skip, [])
def ZdD : Nat → Bool
 | 1 => true
 | _ => true
noncomputable def ZgW (i : Nat) : List Zaj := match ZdD i with | true => .rnd i :: (Zag i).2 | false => (Zag i).2

noncomputable def ZE (a0 : Int) (L1 : List Int) (N : Nat) : Mach := ⟨Try.f14, [.cells (Zf eI 64 [vi a0] L1 []) 57], Zx, Z5, Zau a0 L1 N, Zg7, Zag, ZdD, ZgU a0 L1, ZgV a0 L1, ZdP a0 L1, ZdC a0 L1⟩

theorem ZeL (a0 : Int) (L1 : List Int) (N : Nat) : (ZE a0 L1 N).Ok Try.prog Z7 (.h1m0 : Zx) (Zau a0 L1 N (.h1m0 : Zx)) := by
 show (ZE a0 L1 N).Ok Try.prog Z7 (.h1m0 : Zx) (ZbA a0 L1 N)
 unfold ZbA
 exact Mach.ok_fin (M := ZE a0 L1 N) (cd := 1000000) (cm := 0) (r := (.r1 ((List.replicate 64 (0 : Int))) : Z5)) (fu := 4000) (orc := (Zs [] [] [] [] [])) (live := [0, 1]) (u := vp 1 0) (bl := [some (.cells (Zf eI 64 [vi a0] L1 []) 57), some (.cells (Zf eI 64 [vi a0] (List.replicate 64 (0 : Int)) []) 57)]) (ob := []) (fun gv => by kernel_rfl) Zj rfl (by decide) (by rfl) rr ⟨⟨rfl, ⟨[], by kernel_rfl⟩, by kernel_rfl⟩, ⟨⟨rfl, ⟨[], by kernel_rfl⟩, by kernel_rfl⟩, trivial⟩⟩

theorem ZeM (a0 : Int) (L1 v0 : List Int) (v1 v2 : Nat) (v6 : List Int) (N : Nat) : (ZE a0 L1 N).Ok Try.prog Z7 (.h1m1 v0 v1 v2 v6 : Zx) (Zau a0 L1 N (.h1m1 v0 v1 v2 v6 : Zx)) := by
 show (ZE a0 L1 N).Ok Try.prog Z7 (.h1m1 v0 v1 v2 v6 : Zx) (ZbB a0 L1 N v0 v1 v2 v6)
 unfold ZbB
 refine Mach.ok_ite (fun g0 => ?_) (fun g0 => ?_)
 ·
  refine Mach.ok_ite (fun g1 => ?_) (fun g1 => ?_)
  ·
   refine Mach.ok_ite (fun g2 => ?_) (fun g2 => ?_)
   ·
    refine Mach.ok_ite (fun g3 => ?_) (fun g3 => ?_)
    ·
     exact Mach.ok_next (M := ZE a0 L1 N) (cd := 1000000) (cm := 0) (y := (.h1m1 (v0) (v1) ((v2 + 1)) ((v6.set v2 (v0.getD v2 0))) : Zx)) (fu := 4000) (orc := (Zs [(0, true)] [(0, (((v2 + 1) : Nat) : Int))] [(0, v2), (1, v2)] [(0, [.i (v0.getD v2 0)])] [(0, .at (v6.getD v2 0) (Zf eI 64 [vi a0] (v6.set v2 (v0.getD v2 0)) []))])) (live := [0, 1, 2]) (tv := fun _ => [some (vp 1 0), some (vs 2 0 v0.length v0.length), some (vi (v1 : Int)), some (vi (((v2 + 1) : Nat) : Int))]) (bl := [some (.cells (Zf eI 64 [vi a0] L1 []) 57), some (.cells (Zf eI 64 [vi a0] (v6.set v2 (v0.getD v2 0)) []) 57), some (.cells (Zd eI v0) 3)]) (ob := [((IntKind.i64.wrap ((v2 : Int) + (1 : Int))) == (((v2 + 1) : Nat) : Int), true), (dP (Zm 1 (List.drop ((1 + (v2 * 1)) + 0) (Zf eI 64 [vi a0] v6 [])) = some [vi (v6.getD v2 0)] ∧ ((1 + (v2 * 1)) + 0) + 1 ≤ ((Zf eI 64 [vi a0] v6 []) : List Value).length ∧ Zaz (Zf eI 64 [vi a0] v6 []) ((1 + (v2 * 1)) + 0) [vi (v0.getD v2 0)] = (Zf eI 64 [vi a0] (v6.set v2 (v0.getD v2 0)) [])), true), (Nat.blt v2 64, true), ((v2 : Int) == Int.ofNat v2, true), (Z1 (Zm 1 (List.drop (0 + (v2 * 1)) (Zd eI v0))) [.i (v0.getD v2 0)], true), (Nat.blt v2 v0.length, true), ((v2 : Int) == Int.ofNat v2, true), ((decide ((v2 : Int) < (v1 : Int))), true)]) rfl (show 1 ∈ Zo (ZgW 1) from by decide +kernel) (fun gv => by kernel_rfl) (Za (beq_iff_eq.2 ((wrap_i64 ltA).trans (by first | rfl | omega))) <| Za (Zh ⟨(Zz (E := eI) (L := v6) (n := 64) (p := 1) (i := v2) (q := 0) rfl (by omega) (show ((1 + (v2 * 1)) + 0) = 1 + v2 * 1 + 0 from by omega) (show 0 + 1 ≤ 1 from by decide) rfl), (Zdm (E := eI) (L := v6) (n := 64) (p := 1) (i := v2) (q := 0) (l := [vi (v0.getD v2 0)]) (v0.getD v2 0) rfl (by omega) (by omega) (show ((1 + (v2 * 1)) + 0) = 1 + v2 * 1 + 0 from by omega) (show 0 + 1 ≤ 1 from by decide) rfl)⟩) <| oB <| oI <| Za (Zq (E := eI) (L := v0) (i := v2) (q := 0) (by omega) (show (0 + (v2 * 1)) = v2 * 1 + 0 from by omega) (show 0 + 1 ≤ 1 from by decide) rfl rfl) <| oB <| oI <| oY Zj) rfl (by decide) (by rfl) (fun _ => ⟨rr, ⟨rr, ⟨rr, ⟨rr, trivial⟩⟩⟩⟩) ⟨⟨rfl, ⟨[], by kernel_rfl⟩, by kernel_rfl⟩, ⟨⟨rfl, ⟨[], by kernel_rfl⟩, by kernel_rfl⟩, ⟨(Zn (E := eI) (α := Int) _ v0 _), trivial⟩⟩⟩
    ·
     exact Mach.ok_none
   ·
    exact Mach.ok_none
  ·
   exact Mach.ok_none
 ·
  exact Mach.ok_fin (M := ZE a0 L1 N) (cd := 1000000) (cm := 0) (r := (.r1 (v6) : Z5)) (fu := 4000) (orc := (Zs [(0, false)] [] [] [] [])) (live := [0, 1]) (u := vp 1 0) (bl := [some (.cells (Zf eI 64 [vi a0] L1 []) 57), some (.cells (Zf eI 64 [vi a0] v6 []) 57)]) (ob := [((decide ((v2 : Int) < (v1 : Int))), false)]) (fun gv => by kernel_rfl) (oN Zj) rfl (by decide) (by rfl) rr ⟨⟨rfl, ⟨[], by kernel_rfl⟩, by kernel_rfl⟩, ⟨⟨rfl, ⟨[], by kernel_rfl⟩, by kernel_rfl⟩, trivial⟩⟩

theorem ZfU (a0 : Int) (L1 : List Int) (N : Nat) : (ZE a0 L1 N).Enter Try.prog Z7 #[vp 0 0] (Zck a0 L1 N) := by
 unfold Zck
 refine Mach.en_ite (fun g0 => ?_) (fun g0 => ?_)
 ·
  exact Mach.en_fin (M := ZE a0 L1 N) (cd := 1000000) (cm := 0) (r := (.r0 : Z5)) (fu := 4000) (orc := (Zs [(1, true)] [] [] [] [])) (live := [0]) (u := Value.pointer none) (bl := [some (.cells (Zf eI 64 [vi a0] L1 []) 57)]) (ob := [((a0 == (0 : Int)), true)]) (by kernel_rfl) (oT Zj) rfl (by decide) (by rfl) rr ⟨⟨rfl, ⟨[], by kernel_rfl⟩, by kernel_rfl⟩, trivial⟩
 ·
  refine Mach.en_bind (fun z1 c1 => ?_)
  cases z1 with
  | r0 =>
   exact Mach.en_head (bK := Zag 1) (M := ZE a0 L1 N) (cd := 1000000) (cm := 0) (y := (.h1m0 : Zx)) (fu := 4000) (orc := (Zs [(1, false)] [] [] [] [(0, (ZL (a0) (L1)   0 2))])) (live := [0, 1]) (tv := [some (vp 1 0), some (vn), some (vq), some (vq)]) (bl := [some (.cells (Zf eI 64 [vi a0] L1 []) 57), some (.cells (Zf eI 64 [vi a0] (List.replicate 64 (0 : Int)) []) 57)]) (ob := [(dP (ZF #[vp 0 0] (a0) (L1)   0 2), true), (dS (Zf eI 64 [vi a0] L1 []), true), ((a0 == (0 : Int)), false)]) rfl rfl (show Zo (Zag 1).2 = [] from rfl) (by kernel_rfl) (Za (Zh (ZM #[vp 0 0] (a0) (L1)   N c1 0 2 rfl (by decide) (by decide))) <| oR <| oF Zj) rfl (by decide) (by rfl) ⟨rr, ⟨rr, ⟨rr, ⟨rr, trivial⟩⟩⟩⟩ ⟨⟨rfl, ⟨[], by kernel_rfl⟩, by kernel_rfl⟩, ⟨⟨rfl, ⟨[], by kernel_rfl⟩, by kernel_rfl⟩, trivial⟩⟩
  | r1 y1_0 =>
   exact Mach.en_head (bK := Zag 1) (M := ZE a0 L1 N) (cd := 1000000) (cm := 0) (y := (.h1m1 (y1_0) (y1_0.length) (0) ((List.replicate 64 (0 : Int))) : Zx)) (fu := 4000) (orc := (Zs [(1, false)] [] [] [] [(0, (ZN (a0) (L1)  y1_0 0 2))])) (live := [0, 1, 2]) (tv := [some (vp 1 0), some (vs 2 0 y1_0.length y1_0.length), some (vi (y1_0.length : Int)), some (vq)]) (bl := [some (.cells (Zf eI 64 [vi a0] L1 []) 57), some (.cells (Zf eI 64 [vi a0] (List.replicate 64 (0 : Int)) []) 57), some (.cells (Zd eI y1_0) 3)]) (ob := [(dP (ZG #[vp 0 0] (a0) (L1)  y1_0 0 2), true), (dS (Zf eI 64 [vi a0] L1 []), true), ((a0 == (0 : Int)), false)]) rfl rfl (show Zo (Zag 1).2 = [] from rfl) (by kernel_rfl) (Za (Zh (ZO #[vp 0 0] (a0) (L1)  y1_0 N c1 0 2 rfl (by decide) (by decide))) <| oR <| oF Zj) rfl (by decide) (by rfl) ⟨rr, ⟨rr, ⟨rr, ⟨⟨Eq.trans (show (vi ((0 : Nat) : Int) : Value) = vq from (congrArg (Value.int .i64) (by first | rfl | omega))) (by rfl), by rfl⟩, trivial⟩⟩⟩⟩ ⟨⟨rfl, ⟨[], by kernel_rfl⟩, by kernel_rfl⟩, ⟨⟨rfl, ⟨[], by kernel_rfl⟩, by kernel_rfl⟩, ⟨(Zn (E := eI) (α := Int) _ y1_0 _), trivial⟩⟩⟩

theorem ZcJ (a0 : Int) (L1 : List Int) (N : Nat) (r : Z5) (h : Zbf a0 L1 N = some r) : LSpec Try.prog 14 #[vp 0 0] [.cells (Zf eI 64 [vi a0] L1 []) 57] (ZdP a0 L1 r) (ZdC a0 L1 r) :=
 Mach.spec ZcV (ZE a0 L1 N) Try.func14 (by kernel_rfl) (by kernel_rfl) (fun x => by cases x <;> exact ZaR _ rfl) (fun r => by cases r <;> exact ZaR _ rfl) (fun x => by
  cases x with
  | h1m0 => exact fun _ => (show ¬ (1 ∈ Zo (Zag 1).2) from by decide +kernel)
  | h1m1 _ _ _ _ => exact fun _ => (show ¬ (1 ∈ Zo (Zag 1).2) from by decide +kernel)
  ) (fun x => (show (ZE a0 L1 N).Ok Try.prog Z7 x (Zau a0 L1 N x) from by
  cases x with
  | h1m0 => exact ZeL a0 L1 N
  | h1m1 v0 v1 v2 v6 => exact ZeM a0 L1 v0 v1 v2 v6 N
  )) (ZfU a0 L1 N) (n := N) h

noncomputable def Zg8 (a0 : Int) (L1 : List Int) (k0 n : Nat) : ZbV := .call [(k0, .cells (Zf eI 64 [vi a0] L1 []) 57)] (Value.pointer none) [] 0
def ZdE (A : Array Value) (a0 : Int) (L1 : List Int) (k0 n : Nat) : Prop := Zai Try.prog 14 A [(k0, .cells (Zf eI 64 [vi a0] L1 []) 57)] (Value.pointer none) [] n 0

theorem Zg9 (A : Array Value) (a0 : Int) (L1 : List Int) (N : Nat) (h : Zbf a0 L1 N = some (.r0)) (k0 n : Nat) (hA : A = #[vp k0 0]) (hnd : ([k0] : List Nat).Nodup) (hlt : ∀ k ∈ ([k0] : List Nat), k < n) : ZdE A a0 L1 k0 n :=
 Zbj hA (LSpec.callL (show LSpec Try.prog 14 #[vp 0 0] [.cells (Zf eI 64 [vi a0] L1 []) 57] (Value.pointer none) [some (.cells (Zf eI 64 [vi a0] L1 []) 57)] from ZcJ a0 L1 N _ h) [k0] n [] rfl hnd hlt (show 1 ≤ 1 from by decide) (show ∀ j ∈ ([] : List Nat), j < 1 from by decide) (by rfl) ⟨(by kernel_rfl), trivial⟩ (by rfl) ⟨(by kernel_rfl), trivial⟩ ⟨.inr rfl, trivial⟩ rfl rfl rfl (Zak (ZaZ rfl (by kernel_rfl)) rfl) rfl)

noncomputable def Zbt (a0 : Int) (L1 w3 : List Int) (k0 n : Nat) : ZbV := .call [(k0, .cells (Zf eI 64 [vi a0] L1 []) 57)] (vp n 0) [(n, some (.cells (Zf eI 64 [vi a0] w3 []) 57))] 1
def ZaK (A : Array Value) (a0 : Int) (L1 w3 : List Int) (k0 n : Nat) : Prop := Zai Try.prog 14 A [(k0, .cells (Zf eI 64 [vi a0] L1 []) 57)] (vp n 0) [(n, some (.cells (Zf eI 64 [vi a0] w3 []) 57))] n 1

theorem Zbu (A : Array Value) (a0 : Int) (L1 w3 : List Int) (N : Nat) (h : Zbf a0 L1 N = some (.r1 w3)) (k0 n : Nat) (hA : A = #[vp k0 0]) (hnd : ([k0] : List Nat).Nodup) (hlt : ∀ k ∈ ([k0] : List Nat), k < n) : ZaK A a0 L1 w3 k0 n :=
 Zbj hA (LSpec.callL (show LSpec Try.prog 14 #[vp 0 0] [.cells (Zf eI 64 [vi a0] L1 []) 57] (vp 1 0) [some (.cells (Zf eI 64 [vi a0] L1 []) 57), some (.cells (Zf eI 64 [vi a0] w3 []) 57)] from ZcJ a0 L1 N _ h) [k0] n [1] rfl hnd hlt (show 1 ≤ 2 from by decide) (show ∀ j ∈ ([1] : List Nat), j < 2 from by decide) (by rfl) ⟨(by kernel_rfl), trivial⟩ (by rfl) ⟨(by kernel_rfl), ⟨(by kernel_rfl), trivial⟩⟩ ⟨.inr rfl, ⟨(by decide), trivial⟩⟩ rfl rfl rfl (Zak (ZaZ rfl (by kernel_rfl)) rfl) (Zak (ZaZ rfl (ZgN (by kernel_rfl))) rfl))

noncomputable def Ze9 (L0 : List Int) : ZX → Value
 | .r0 w1 => Value.bool w1
noncomputable def Zex (L0 : List Int) : ZX → List (Option AObj)
 | .r0 w1 => [some (.cells (Zd eI L0) 3)]

def Zh9 : ZR → Nat
 | .h1m0 => 1
noncomputable def Zig (L0 : List Int) : ZR → List (Nat × Value)
 | .h1m0 => [(0, vn), (1, vs 0 0 L0.length L0.length), (5, vq)]
noncomputable def Zih (L0 : List Int) : ZR → List (Option AObj)
 | .h1m0 => [some (.cells (Zd eI L0) 3)]

noncomputable def Zcb : Nat → Code × List Zaj
 | 1 => Zbd [1, 1, 0, 1, 3] (Zca Try.f16) []
 | _ => (.skip, [])
def ZhA : Nat → Bool
 | 1 => true
 | _ => true
noncomputable def Zax (L0 : List Int) (N : Nat) : Mach := ⟨Try.f16, [.cells (Zd eI L0) 3], ZR, ZX, Zbs L0 N, Zh9, Zcb, ZhA, Zig L0, Zih L0, Ze9 L0, Zex L0⟩

theorem ZfJ (L0 : List Int) (N : Nat) : (Zax L0 N).Ok Try.prog Z7 (.h1m0 : ZR) (Zbs L0 N (.h1m0 : ZR)) := by
 show (Zax L0 N).Ok Try.prog Z7 (.h1m0 : ZR) (ZbW L0 N)
 unfold ZbW
 exact Mach.ok_fin (M := Zax L0 N) (cd := 1000000) (cm := 0) (r := (.r0 (true) : ZX)) (fu := 4000) (orc := (Zs [] [] [] [] [])) (live := [0]) (u := vT) (bl := [some (.cells (Zd eI L0) 3)]) (ob := []) (fun gv => by kernel_rfl) Zj rfl (by decide) (by rfl) rr ⟨(Zn (E := eI) (α := Int) _ L0 _), trivial⟩

theorem ZgX (L0 : List Int) (N : Nat) : (Zax L0 N).Enter Try.prog Z7 #[vn, vs 0 0 L0.length L0.length] (Zc9 L0 N) := by
 unfold Zc9
 refine Mach.en_ite (fun g0 => ?_) (fun g0 => ?_)
 ·
  exact Mach.en_fin (M := Zax L0 N) (cd := 1000000) (cm := 0) (r := (.r0 (false) : ZX)) (fu := 4000) (orc := (Zs [(0, true)] [] [] [] [])) (live := [0]) (u := vf) (bl := [some (.cells (Zd eI L0) 3)]) (ob := [(((0 : Int) != (L0.length : Int)), true)]) (by kernel_rfl) (oD Zj) rfl (by decide) (by rfl) rr ⟨(Zn (E := eI) (α := Int) _ L0 _), trivial⟩
 ·
  exact Mach.en_head (bK := Zcb 1) (M := Zax L0 N) (cd := 1000000) (cm := 0) (y := (.h1m0 : ZR)) (fu := 4000) (orc := (Zs [(0, false)] [] [] [] [])) (live := [0]) (tv := [some (vn), some (vs 0 0 L0.length L0.length), some (vq)]) (bl := [some (.cells (Zd eI L0) 3)]) (ob := [(((0 : Int) != (L0.length : Int)), false)]) rfl rfl (show Zo (Zcb 1).2 = [] from rfl) (by kernel_rfl) (oE Zj) rfl (by decide) (by rfl) ⟨rr, ⟨rr, ⟨rr, trivial⟩⟩⟩ ⟨(Zn (E := eI) (α := Int) _ L0 _), trivial⟩

theorem ZfV (L0 : List Int) (N : Nat) (r : ZX) (h : Zdo L0 N = some r) : LSpec Try.prog 16 #[vn, vs 0 0 L0.length L0.length] [.cells (Zd eI L0) 3] (Ze9 L0 r) (Zex L0 r) :=
 Mach.spec ZcV (Zax L0 N) Try.func16 (by kernel_rfl) (by kernel_rfl) (fun x => by cases x <;> exact ZaR _ rfl) (fun r => by cases r <;> exact ZaR _ rfl) (fun x => by
  cases x with
  | h1m0 => exact fun _ => (show ¬ (1 ∈ Zo (Zcb 1).2) from by decide +kernel)
  ) (fun x => (show (Zax L0 N).Ok Try.prog Z7 x (Zbs L0 N x) from by
  cases x with
  | h1m0 => exact ZfJ L0 N
  )) (ZgX L0 N) (n := N) h

noncomputable def Zam (L0 : List Int) (w1 : Bool) (k0 n : Nat) : ZbV := .call [(k0, .cells (Zd eI L0) 3)] (Value.bool w1) [] 0
def Zaf (A : Array Value) (L0 : List Int) (w1 : Bool) (k0 n : Nat) : Prop := Zai Try.prog 16 A [(k0, .cells (Zd eI L0) 3)] (Value.bool w1) [] n 0

theorem Zan (A : Array Value) (L0 : List Int) (w1 : Bool) (N : Nat) (h : Zdo L0 N = some (.r0 w1)) (k0 n : Nat) (hA : A = #[vn, vs k0 0 L0.length L0.length]) (hnd : ([k0] : List Nat).Nodup) (hlt : ∀ k ∈ ([k0] : List Nat), k < n) : Zaf A L0 w1 k0 n :=
 Zbj hA (LSpec.callL (show LSpec Try.prog 16 #[vn, vs 0 0 L0.length L0.length] [.cells (Zd eI L0) 3] (Value.bool w1) [some (.cells (Zd eI L0) 3)] from ZfV L0 N _ h) [k0] n [] rfl hnd hlt (show 1 ≤ 1 from by decide) (show ∀ j ∈ ([] : List Nat), j < 1 from by decide) (by rfl) ⟨(ZaX _ _ _), trivial⟩ (by rfl) ⟨(ZaX _ _ _), trivial⟩ ⟨.inr rfl, trivial⟩ rfl rfl rfl (Zak (ZaZ rfl (Zdl _ _ _)) rfl) rfl)

noncomputable def ZdQ (L0 L1 : List Int) : Z9 → Value
 | .r0 w2 => Value.bool w2
noncomputable def ZdF (L0 L1 : List Int) : Z9 → List (Option AObj)
 | .r0 w2 => [some (.cells (Zd eI L0) 3), some (.cells (Zd eI L1) 3)]

def ZgA : Z6 → Nat
 | .h1m0 v2 => 1
noncomputable def ZgY (L0 L1 : List Int) : Z6 → List (Nat × Value)
 | .h1m0 v2 => [(0, vs 0 0 L0.length L0.length), (1, vs 1 0 L1.length L1.length), (5, vi (v2 : Int))]
noncomputable def ZgZ (L0 L1 : List Int) : Z6 → List (Option AObj)
 | .h1m0 v2 => [some (.cells (Zd eI L0) 3), some (.cells (Zd eI L1) 3)]

noncomputable def ZaB : Nat → Code × List Zaj
 | 1 => Zbd [1, 1, 0, 1, 3] (Zca Try.f16) []
 | _ => (.skip, [])
def ZdG : Nat → Bool
 | 1 => true
 | _ => true
noncomputable def Zha (i : Nat) : List Zaj := match ZdG i with | true => .rnd i :: (ZaB i).2 | false => (ZaB i).2

noncomputable def Zab (L0 L1 : List Int) (N : Nat) : Mach := ⟨Try.f16, [.cells (Zd eI L0) 3, .cells (Zd eI L1) 3], Z6, Z9, Za6 L0 L1 N, ZgA, ZaB, ZdG, ZgY L0 L1, ZgZ L0 L1, ZdQ L0 L1, ZdF L0 L1⟩

theorem ZeN (L0 L1 : List Int) (v2 N : Nat) : (Zab L0 L1 N).Ok Try.prog Z7 (.h1m0 v2 : Z6) (Za6 L0 L1 N (.h1m0 v2 : Z6)) := by
 show (Zab L0 L1 N).Ok Try.prog Z7 (.h1m0 v2 : Z6) (ZbC L0 L1 N v2)
 unfold ZbC
 refine Mach.ok_ite (fun g0 => ?_) (fun g0 => ?_)
 ·
  refine Mach.ok_ite (fun g1 => ?_) (fun g1 => ?_)
  ·
   refine Mach.ok_ite (fun g2 => ?_) (fun g2 => ?_)
   ·
    exact Mach.ok_fin (M := Zab L0 L1 N) (cd := 1000000) (cm := 0) (r := (.r0 (false) : Z9)) (fu := 4000) (orc := (Zs [(0, true), (1, true)] [] [(0, v2), (1, v2)] [(0, [.i (L0.getD v2 0)]), (1, [.i (L1.getD v2 0)])] [])) (live := [0, 1]) (u := vf) (bl := [some (.cells (Zd eI L0) 3), some (.cells (Zd eI L1) 3)]) (ob := [(((L0.getD v2 0) != (L1.getD v2 0)), true), (Z1 (Zm 1 (List.drop (0 + (v2 * 1)) (Zd eI L1))) [.i (L1.getD v2 0)], true), (Nat.blt v2 L1.length, true), ((v2 : Int) == Int.ofNat v2, true), (Z1 (Zm 1 (List.drop (0 + (v2 * 1)) (Zd eI L0))) [.i (L0.getD v2 0)], true), (Nat.blt v2 L0.length, true), ((v2 : Int) == Int.ofNat v2, true), ((decide ((v2 : Int) < (L0.length : Int))), true)]) (fun gv => by kernel_rfl) (oD <| Za (Zq (E := eI) (L := L1) (i := v2) (q := 0) (by omega) (show (0 + (v2 * 1)) = v2 * 1 + 0 from by omega) (show 0 + 1 ≤ 1 from by decide) rfl rfl) <| oB <| oI <| Za (Zq (E := eI) (L := L0) (i := v2) (q := 0) (by omega) (show (0 + (v2 * 1)) = v2 * 1 + 0 from by omega) (show 0 + 1 ≤ 1 from by decide) rfl rfl) <| oB <| oI <| oY Zj) rfl (by decide) (by rfl) rr ⟨(Zn (E := eI) (α := Int) _ L0 _), ⟨(Zn (E := eI) (α := Int) _ L1 _), trivial⟩⟩
   ·
    refine Mach.ok_ite (fun g3 => ?_) (fun g3 => ?_)
    ·
     exact Mach.ok_next (M := Zab L0 L1 N) (cd := 1000000) (cm := 0) (y := (.h1m0 ((v2 + 1)) : Z6)) (fu := 4000) (orc := (Zs [(0, true), (1, false)] [(0, (((v2 + 1) : Nat) : Int))] [(0, v2), (1, v2)] [(0, [.i (L0.getD v2 0)]), (1, [.i (L1.getD v2 0)])] [])) (live := [0, 1]) (tv := fun _ => [some (vs 0 0 L0.length L0.length), some (vs 1 0 L1.length L1.length), some (vi (((v2 + 1) : Nat) : Int))]) (bl := [some (.cells (Zd eI L0) 3), some (.cells (Zd eI L1) 3)]) (ob := [((IntKind.i64.wrap ((v2 : Int) + (1 : Int))) == (((v2 + 1) : Nat) : Int), true), (((L0.getD v2 0) != (L1.getD v2 0)), false), (Z1 (Zm 1 (List.drop (0 + (v2 * 1)) (Zd eI L1))) [.i (L1.getD v2 0)], true), (Nat.blt v2 L1.length, true), ((v2 : Int) == Int.ofNat v2, true), (Z1 (Zm 1 (List.drop (0 + (v2 * 1)) (Zd eI L0))) [.i (L0.getD v2 0)], true), (Nat.blt v2 L0.length, true), ((v2 : Int) == Int.ofNat v2, true), ((decide ((v2 : Int) < (L0.length : Int))), true)]) rfl (show 1 ∈ Zo (Zha 1) from by decide +kernel) (fun gv => by kernel_rfl) (Za (beq_iff_eq.2 ((wrap_i64 ltA).trans (by first | rfl | omega))) <| oE <| Za (Zq (E := eI) (L := L1) (i := v2) (q := 0) (by omega) (show (0 + (v2 * 1)) = v2 * 1 + 0 from by omega) (show 0 + 1 ≤ 1 from by decide) rfl rfl) <| oB <| oI <| Za (Zq (E := eI) (L := L0) (i := v2) (q := 0) (by omega) (show (0 + (v2 * 1)) = v2 * 1 + 0 from by omega) (show 0 + 1 ≤ 1 from by decide) rfl rfl) <| oB <| oI <| oY Zj) rfl (by decide) (by rfl) (fun _ => ⟨rr, ⟨rr, ⟨rr, trivial⟩⟩⟩) ⟨(Zn (E := eI) (α := Int) _ L0 _), ⟨(Zn (E := eI) (α := Int) _ L1 _), trivial⟩⟩
    ·
     exact Mach.ok_none
  ·
   exact Mach.ok_none
 ·
  exact Mach.ok_fin (M := Zab L0 L1 N) (cd := 1000000) (cm := 0) (r := (.r0 (true) : Z9)) (fu := 4000) (orc := (Zs [(0, false)] [] [] [] [])) (live := [0, 1]) (u := vT) (bl := [some (.cells (Zd eI L0) 3), some (.cells (Zd eI L1) 3)]) (ob := [((decide ((v2 : Int) < (L0.length : Int))), false)]) (fun gv => by kernel_rfl) (oN Zj) rfl (by decide) (by rfl) rr ⟨(Zn (E := eI) (α := Int) _ L0 _), ⟨(Zn (E := eI) (α := Int) _ L1 _), trivial⟩⟩

theorem ZfW (L0 L1 : List Int) (N : Nat) : (Zab L0 L1 N).Enter Try.prog Z7 #[vs 0 0 L0.length L0.length, vs 1 0 L1.length L1.length] (Zcl L0 L1 N) := by
 unfold Zcl
 refine Mach.en_ite (fun g0 => ?_) (fun g0 => ?_)
 ·
  exact Mach.en_fin (M := Zab L0 L1 N) (cd := 1000000) (cm := 0) (r := (.r0 (false) : Z9)) (fu := 4000) (orc := (Zs [(0, true)] [] [] [] [])) (live := [0, 1]) (u := vf) (bl := [some (.cells (Zd eI L0) 3), some (.cells (Zd eI L1) 3)]) (ob := [(((L0.length : Int) != (L1.length : Int)), true)]) (by kernel_rfl) (oD Zj) rfl (by decide) (by rfl) rr ⟨(Zn (E := eI) (α := Int) _ L0 _), ⟨(Zn (E := eI) (α := Int) _ L1 _), trivial⟩⟩
 ·
  exact Mach.en_head (bK := ZaB 1) (M := Zab L0 L1 N) (cd := 1000000) (cm := 0) (y := (.h1m0 (0) : Z6)) (fu := 4000) (orc := (Zs [(0, false)] [] [] [] [])) (live := [0, 1]) (tv := [some (vs 0 0 L0.length L0.length), some (vs 1 0 L1.length L1.length), some (vq)]) (bl := [some (.cells (Zd eI L0) 3), some (.cells (Zd eI L1) 3)]) (ob := [(((L0.length : Int) != (L1.length : Int)), false)]) rfl rfl (show Zo (ZaB 1).2 = [] from rfl) (by kernel_rfl) (oE Zj) rfl (by decide) (by rfl) ⟨rr, ⟨rr, ⟨⟨Eq.trans (show (vi ((0 : Nat) : Int) : Value) = vq from (congrArg (Value.int .i64) (by first | rfl | omega))) (by rfl), by rfl⟩, trivial⟩⟩⟩ ⟨(Zn (E := eI) (α := Int) _ L0 _), ⟨(Zn (E := eI) (α := Int) _ L1 _), trivial⟩⟩

theorem Zfn (L0 L1 : List Int) (N : Nat) (r : Z9) (h : ZbO L0 L1 N = some r) : LSpec Try.prog 16 #[vs 0 0 L0.length L0.length, vs 1 0 L1.length L1.length] [.cells (Zd eI L0) 3, .cells (Zd eI L1) 3] (ZdQ L0 L1 r) (ZdF L0 L1 r) :=
 Mach.spec ZcV (Zab L0 L1 N) Try.func16 (by kernel_rfl) (by kernel_rfl) (fun x => by cases x <;> exact ZaR _ rfl) (fun r => by cases r <;> exact ZaR _ rfl) (fun x => by
  cases x with
  | h1m0 _ => exact fun _ => (show ¬ (1 ∈ Zo (ZaB 1).2) from by decide +kernel)
  ) (fun x => (show (Zab L0 L1 N).Ok Try.prog Z7 x (Za6 L0 L1 N x) from by
  cases x with
  | h1m0 v2 => exact ZeN L0 L1 v2 N
  )) (ZfW L0 L1 N) (n := N) h

noncomputable def Zad (L0 L1 : List Int) (w2 : Bool) (k0 k1 n : Nat) : ZbV := .call [(k0, .cells (Zd eI L0) 3), (k1, .cells (Zd eI L1) 3)] (Value.bool w2) [] 0
def ZV (A : Array Value) (L0 L1 : List Int) (w2 : Bool) (k0 k1 n : Nat) : Prop := Zai Try.prog 16 A [(k0, .cells (Zd eI L0) 3), (k1, .cells (Zd eI L1) 3)] (Value.bool w2) [] n 0

theorem Zae (A : Array Value) (L0 L1 : List Int) (w2 : Bool) (N : Nat) (h : ZbO L0 L1 N = some (.r0 w2)) (k0 k1 n : Nat) (hA : A = #[vs k0 0 L0.length L0.length, vs k1 0 L1.length L1.length]) (hnd : ([k0, k1] : List Nat).Nodup) (hlt : ∀ k ∈ ([k0, k1] : List Nat), k < n) : ZV A L0 L1 w2 k0 k1 n :=
 Zbj hA (LSpec.callL (show LSpec Try.prog 16 #[vs 0 0 L0.length L0.length, vs 1 0 L1.length L1.length] [.cells (Zd eI L0) 3, .cells (Zd eI L1) 3] (Value.bool w2) [some (.cells (Zd eI L0) 3), some (.cells (Zd eI L1) 3)] from Zfn L0 L1 N _ h) [k0, k1] n [] rfl hnd hlt (show 2 ≤ 2 from by decide) (show ∀ j ∈ ([] : List Nat), j < 2 from by decide) (by rfl) ⟨(ZaX _ _ _), ⟨(ZaX _ _ _), trivial⟩⟩ (by rfl) ⟨(ZaX _ _ _), ⟨(ZaX _ _ _), trivial⟩⟩ ⟨.inr rfl, ⟨.inr rfl, trivial⟩⟩ rfl rfl rfl (Zak (ZaZ rfl (Zdl _ _ _)) (Zak (ZaZ rfl (Zdl _ _ _)) rfl)) rfl)

noncomputable def Zey (a0 : Int) (L1 : List R_iiA) : Zg → Value
 | .r0 w0 => Value.bool w0
noncomputable def ZdR (a0 : Int) (L1 : List R_iiA) : Zg → List (Option AObj)
 | .r0 w0 => []

def Zhb : Zb → Nat
 | .h1m0 => 1
 | .h1m1 v1 v3 v4 => 1
 | .h2m0 v1 v2 v3 v5 v6 v7 v8 v9 => 2
 | .h3m0 v1 v4 v5 => 3
 | .h3m1 v1 v2 v3 v5 v6 => 3
noncomputable def ZhB (a0 : Int) (L1 : List R_iiA) : Zb → List (Nat × Value)
 | .h1m0 => [(1, ms E_iiA L1), (5, Value.pointer none), (7, vp 0 0), (9, vq)]
 | .h1m1 v1 v3 v4 => [(1, ms E_iiA L1), (5, vp 0 0), (7, vp 1 0), (9, vi (v1 : Int))]
 | .h2m0 v1 v2 v3 v5 v6 v7 v8 v9 => [(1, ms E_iiA L1), (5, vp 0 0), (7, vp 1 0), (9, vi (v1 : Int)), (10, vp 2 0), (11, vi (v2 : Int)), (12, vi (v3 : Int))]
 | .h3m0 v1 v4 v5 => [(1, ms E_iiA L1), (5, vp 0 0), (7, vp 1 0), (9, vi (v1 : Int)), (15, vn), (16, vq)]
 | .h3m1 v1 v2 v3 v5 v6 => [(1, ms E_iiA L1), (5, vp 0 0), (7, vp 1 0), (9, vi (v1 : Int)), (15, vs 2 0 v2.length v2.length), (16, vi (v3 : Int))]
noncomputable def ZhC (a0 : Int) (L1 : List R_iiA) : Zb → List (Option AObj)
 | .h1m0 => [some (.cells [vn] 29)]
 | .h1m1 v1 v3 v4 => [some (.cells (Zf eI 64 [vi a0] v3 []) 57), some (.cells [vs 2 0 v4.length v4.length] 29), some (.cells (Zd eI v4) 3)]
 | .h2m0 v1 v2 v3 v5 v6 v7 v8 v9 => [some (.cells (Zf eI 64 [vi a0] v5 []) 57), some (.cells [vs 3 0 v6.length v6.length] 29), some (.cells [vi v7, vi v8, ms eI v9] 34), some (.cells (Zd eI v6) 3)]
 | .h3m0 v1 v4 v5 => [some (.cells (Zf eI 64 [vi a0] v4 []) 57), some (.cells [vs 2 0 v5.length v5.length] 29), some (.cells (Zd eI v5) 3)]
 | .h3m1 v1 v2 v3 v5 v6 => [some (.cells (Zf eI 64 [vi a0] v5 []) 57), some (.cells [vs 3 0 v6.length v6.length] 29), some (.cells (Zd eI v2) 3), some (.cells (Zd eI v6) 3)]

noncomputable def Zc : Nat → Code × List Zaj
 | 1 => Zbd [1, 1, 1, 1, 0, 1, 3] (Zca Try.f3) []
 | 2 => Zg0 [1, 1, 1, 1, 0, 1, 3, 7, 1, 0, 3, 1, 1, 1] (Zca Try.f3) []
 | 3 => Zbd [1, 1, 1, 1, 0, 1, 3, 7, 1, 0, 3, 1, 1, 1, 1, 1, 1, 3] (Zca Try.f3) []
 | _ => (.skip, [])
def ZdS : Nat → Bool
 | 1 => true
 | 2 => false
 | 3 => true
 | _ => true
noncomputable def Zk (i : Nat) : List Zaj := match ZdS i with | true => .rnd i :: (Zc i).2 | false => (Zc i).2

noncomputable def Ze (a0 : Int) (L1 : List R_iiA) (N : Nat) : Mach := ⟨Try.f3, [], Zb, Zg, ZH a0 L1 N, Zhb, Zc, ZdS, ZhB a0 L1, ZhC a0 L1, Zey a0 L1, ZdR a0 L1⟩

theorem Zfo (a0 : Int) (L1 : List R_iiA) (N : Nat) : (Ze a0 L1 N).Ok Try.prog Z7 (.h1m0 : Zb) (ZH a0 L1 N (.h1m0 : Zb)) := by
 show (Ze a0 L1 N).Ok Try.prog Z7 (.h1m0 : Zb) (ZbP a0 L1 N)
 unfold ZbP
 by_cases g0 : (0 : Int) < (L1.length : Int)
 ·
  exact Mach.ok_fin (M := Ze a0 L1 N) (cd := 1000000) (cm := 0) (r := (.r0 (true) : Zg)) (fu := 4000) (orc := (Zs [(0, true)] [] [] [] [])) (live := []) (u := vT) (bl := []) (ob := [((decide ((0 : Int) < (L1.length : Int))), true)]) (fun gv => by kernel_rfl) (oY Zj) rfl (by decide) (by rfl) rr trivial
 ·
  exact Mach.ok_fin (M := Ze a0 L1 N) (cd := 1000000) (cm := 0) (r := (.r0 (true) : Zg)) (fu := 4000) (orc := (Zs [(0, false)] [] [] [] [])) (live := []) (u := vT) (bl := []) (ob := [((decide ((0 : Int) < (L1.length : Int))), false)]) (fun gv => by kernel_rfl) (oN Zj) rfl (by decide) (by rfl) rr trivial

end Ev
end Go.Proofs.Ythloaienmacfkaa
