/- Part 5. -/
import Derived.Test.YtomkpfibofpkbaaYad
set_option linter.unusedSimpArgs false
set_option linter.unusedVariables false
/- Calls do what the plain functions say. -/
namespace Go.Proofs.Ytomkpfibofpkbaa
open Go.IntKind (i64)
open Go.RowKit
namespace Ev
set_option linter.unusedVariables false
set_option maxRecDepth 100000
set_option maxHeartbeats 4000000
noncomputable def ZhQ (a0 a1 a2 a3 a4 a5 a6 : Int) (L7 : List RG) (L8 : List RF) : ZaZ → Value
 | .r0 w1 => vtt
noncomputable abbrev κg (L7 : List RG) (a0 : Int) (a1 : Int) (a2 : Int) (a3 : Int) (a4 : Int) (a5 : Int) := (Za RB (L7.set ((i64.wrap (a0 - (1 : Int)))).toNat (⟨a1, a2, a3, a4, a5⟩ : RG)))
noncomputable abbrev κa := (AObj.cells (Za eI ([] : List Int)) 3 true)
noncomputable def Zhv (a0 a1 a2 a3 a4 a5 a6 : Int) (L7 : List RG) (L8 : List RF) : ZaZ → List (Option AObj)
 | .r0 w1 => [some (.cells [vi a6, vs 1 0 L7.length L7.length, vs 2 0 w1.length w1.length, vs 3 0 0 0, vs 4 0 0 0, vs 5 0 0 0, vs 6 0 0 0, vs 7 0 0 0, vs 8 0 0 0, vs 9 0 0 0, vs 10 0 0 0, vs 11 0 0 0, vs 12 0 0 0, vs 13 0 0 0, vs 14 0 0 0, vs 15 0 0 0, vs 16 0 0 0, vs 17 0 0 0, vs 18 0 0 0, vs 19 0 0 0] 67), some (.cells (κg L7 a0 a1 a2 a3 a4 a5) 50), some (.cells (Za RA w1) 41), some κa, some κa, some κa, some κa, some κa, some κa, some κa, some κa, some κa, some κa, some κa, some κa, some κa, some κa, some κa, some κa, some κa]

def Zmk : Zaa → Nat
 | .h1m0 v1 v4 => 1
noncomputable def Zne (a0 a1 a2 a3 a4 a5 a6 : Int) (L7 : List RG) (L8 : List RF) : Zaa → List (Nat × Value)
 | .h1m0 v1 v4 => [(0, vp 0 0), (1, vi a0), (5, vp 3 0), (13, vi a2), (14, vi (v4 : Int))]
noncomputable abbrev κq (a6 : Int) (L7 : List RG) (v1 : List RF) := [vi a6, vs 1 0 L7.length L7.length, vs 2 0 v1.length v1.length, vs 4 0 0 0, vs 5 0 0 0, vs 6 0 0 0, vs 7 0 0 0, vs 8 0 0 0, vs 9 0 0 0, vs 10 0 0 0, vs 11 0 0 0, vs 12 0 0 0, vs 13 0 0 0, vs 14 0 0 0, vs 15 0 0 0, vs 16 0 0 0, vs 17 0 0 0, vs 18 0 0 0, vs 19 0 0 0, vs 20 0 0 0]
noncomputable def Znf (a0 a1 a2 a3 a4 a5 a6 : Int) (L7 : List RG) (L8 : List RF) : Zaa → List (Option AObj)
 | .h1m0 v1 v4 => [some (.cells (κq a6 L7 v1) 67), some (.cells (κg L7 a0 a1 a2 a3 a4 a5) 50), some (.cells (Za RA v1) 41), some (.cells [vi a1, vi a2, vi a3, vi a4, vi a5] 50), some κa, some κa, some κa, some κa, some κa, some κa, some κa, some κa, some κa, some κa, some κa, some κa, some κa, some κa, some κa, some κa, some κa]

noncomputable def Zcw : Nat → Code × List ZaO
 | 1 => Zc4 [1, 1, 1, 3] (Zep Try.f50) []
 | _ => (.skip, [])
def Zhw : Nat → Bool
 | 1 => true
 | _ => true
noncomputable def ZhR (i : Nat) : List ZaO := match Zhw i with | true => .rnd i :: (Zcw i).2 | false => (Zcw i).2

noncomputable abbrev κA (a6 : Int) (L7 : List RG) (L8 : List RF) := [vi a6, vs 1 0 L7.length L7.length, vs 2 0 L8.length L8.length, vn, vn, vn, vn, vn, vn, vn, vn, vn, vn, vn, vn, vn, vn, vn, vn, vn]
noncomputable def Zcx (a0 a1 a2 a3 a4 a5 a6 : Int) (L7 : List RG) (L8 : List RF) (N : Nat) : Mach := ⟨Try.f50, [.cells (κA a6 L7 L8) 67, .cells (Za RB L7) 50, .cells (Za RA L8) 41], Zaa, ZaZ, ZbA a0 a1 a2 a3 a4 a5 a6 L7 L8 N, Zmk, Zcw, Zhw, Zne a0 a1 a2 a3 a4 a5 a6 L7 L8, Znf a0 a1 a2 a3 a4 a5 a6 L7 L8, ZhQ a0 a1 a2 a3 a4 a5 a6 L7 L8, Zhv a0 a1 a2 a3 a4 a5 a6 L7 L8⟩

theorem Zjy (a0 a1 a2 a3 a4 a5 a6 : Int) (L7 : List RG) (L8 v1 : List RF) (v4 N : Nat) : (Zcx a0 a1 a2 a3 a4 a5 a6 L7 L8 N).Ok Try.prog Z7 (.h1m0 v1 v4 : Zaa) (ZbA a0 a1 a2 a3 a4 a5 a6 L7 L8 N (.h1m0 v1 v4 : Zaa)) := by
 show (Zcx a0 a1 a2 a3 a4 a5 a6 L7 L8 N).Ok Try.prog Z7 (.h1m0 v1 v4 : Zaa) (Zbu a0 a1 a2 a3 a4 a5 a6 L7 L8 N v1 v4)
 unfold Zbu
 refine Mach.ok_ite (fun g0 => ?_) (fun g0 => ?_)
 ·
  refine Mach.ok_ite (fun g1 => ?_) (fun _ => Mach.ok_none)
  have w2 := kX ((i64.wrap (((BitVec.ofInt i64.bits (a3 / (2 ^ v4 : Int)) &&& BitVec.ofInt i64.bits (1 : Int)).toNat : Nat) : Int)) == ((a3 / (2 ^ v4 : Int)) % (2 : Int))) true (beq_iff_eq.2 (ZnB _)) <| kS (v4 : Int) v4 .i64 <| hY g0 Zp
  refine Mach.ok_ite (fun g2 => ?_) (fun g2 => ?_)
  ·
   refine Mach.ok_ite (fun g3 => ?_) (fun _ => Mach.ok_none)
   refine Mach.ok_ite (fun g4 => ?_) (fun _ => Mach.ok_none)
   exact Mach.okN (Ze (oq [1, 3]) [(1, ((a3 / (2 ^ v4 : Int)) % (2 : Int))), (3, (((v4 + 1) : Nat) : Int))] [(0, ((i64.wrap (a0 + (v4 : Int)))).toNat)] [] [(0, .sh v4), (2, .st (Za RA (v1.set ((i64.wrap (a0 + (v4 : Int)))).toNat (⟨(2 : Int), (0 : Int)⟩ : RF))))]) (rg 0 21 []) [some (vp 0 0), some (vi a0), some (vp 3 0), some (vi a2), some (vi (((v4 + 1) : Nat) : Int))] (kW ((v4 : Int) + (1 : Int)) (((v4 + 1) : Nat) : Int) <| kC (Za8 (E := RA) (L := v1) (i := ((i64.wrap (a0 + (v4 : Int)))).toNat) (q := 0) (l := [vi (2 : Int), vq]) (⟨(2 : Int), (0 : Int)⟩ : RF) (by omega) (show (0 + (((i64.wrap (a0 + (v4 : Int)))).toNat * 2)) = ((i64.wrap (a0 + (v4 : Int)))).toNat * 2 + 0 from by omega) (show 0 + 2 ≤ 2 from by decide) rfl) <| kB ((i64.wrap (a0 + (v4 : Int)))).toNat v1.length <| kI (i64.wrap (a0 + (v4 : Int))) (Int.ofNat ((i64.wrap (a0 + (v4 : Int)))).toNat) <| hT g2 w2) (tC (tC (tC (tC (tC (tE)))))) (bU (κq a6 L7 v1) 2 (show (vs 2 0 v1.length v1.length : Value) = vs 2 0 (v1.set ((i64.wrap (a0 + (v4 : Int)))).toNat (⟨(2 : Int), (0 : Int)⟩ : RF)).length (v1.set ((i64.wrap (a0 + (v4 : Int)))).toNat (⟨(2 : Int), (0 : Int)⟩ : RF)).length from Zo rfl eqA eqA) <| bR <| bR <| bS [vi a1, vi a2, vi a3, vi a4, vi a5] <| Zs <| bQ <| bE) (show 1 ∈ ZC (ZhR 1) from by decide +kernel)
  ·
   refine Mach.ok_ite (fun g3 => ?_) (fun _ => Mach.ok_none)
   refine Mach.ok_ite (fun g4 => ?_) (fun _ => Mach.ok_none)
   exact Mach.okN (Ze (oq [1, 2]) [(1, ((a3 / (2 ^ v4 : Int)) % (2 : Int))), (3, (((v4 + 1) : Nat) : Int))] [(0, ((i64.wrap (a0 + (v4 : Int)))).toNat)] [] [(0, .sh v4), (2, .st (Za RA (v1.set ((i64.wrap (a0 + (v4 : Int)))).toNat (⟨(1 : Int), (0 : Int)⟩ : RF))))]) (rg 0 21 []) [some (vp 0 0), some (vi a0), some (vp 3 0), some (vi a2), some (vi (((v4 + 1) : Nat) : Int))] (kW ((v4 : Int) + (1 : Int)) (((v4 + 1) : Nat) : Int) <| kC (Za8 (E := RA) (L := v1) (i := ((i64.wrap (a0 + (v4 : Int)))).toNat) (q := 0) (l := [vi (1 : Int), vq]) (⟨(1 : Int), (0 : Int)⟩ : RF) (by omega) (show (0 + (((i64.wrap (a0 + (v4 : Int)))).toNat * 2)) = ((i64.wrap (a0 + (v4 : Int)))).toNat * 2 + 0 from by omega) (show 0 + 2 ≤ 2 from by decide) rfl) <| kB ((i64.wrap (a0 + (v4 : Int)))).toNat v1.length <| kI (i64.wrap (a0 + (v4 : Int))) (Int.ofNat ((i64.wrap (a0 + (v4 : Int)))).toNat) <| hF g2 w2) (tC (tC (tC (tC (tC (tE)))))) (bU (κq a6 L7 v1) 2 (show (vs 2 0 v1.length v1.length : Value) = vs 2 0 (v1.set ((i64.wrap (a0 + (v4 : Int)))).toNat (⟨(1 : Int), (0 : Int)⟩ : RF)).length (v1.set ((i64.wrap (a0 + (v4 : Int)))).toNat (⟨(1 : Int), (0 : Int)⟩ : RF)).length from Zo rfl eqA eqA) <| bR <| bR <| bS [vi a1, vi a2, vi a3, vi a4, vi a5] <| Zs <| bQ <| bE) (show 1 ∈ ZC (ZhR 1) from by decide +kernel)
 ·
  exact Mach.okF (Ze (oq [0]) [] [] [] []) (0 :: (1 :: (2 :: (rg 4 17 [])))) (vtt) (hN g0 Zp) (bS (κq a6 L7 v1) <| bR <| bR <| Zs <| bQ <| bE)

noncomputable abbrev κG := (vi ((0 : Nat) : Int) : Value)
theorem Zlq (a0 a1 a2 a3 a4 a5 a6 : Int) (L7 : List RG) (L8 : List RF) (N : Nat) : (Zcx a0 a1 a2 a3 a4 a5 a6 L7 L8 N).Enter Try.prog Z7 #[vp 0 0, vi a0, Value.agg #[vi a1, vi a2, vi a3, vi a4, vi a5]] (ZdO a0 a1 a2 a3 a4 a5 a6 L7 L8 N) := by
 unfold ZdO
 refine Mach.en_ite (fun g0 => ?_) (fun _ => Mach.en_none)
 refine Mach.en_ite (fun g1 => ?_) (fun _ => Mach.en_none)
 exact Mach.en_headW (bK := Zcw 1) (M := Zcx a0 a1 a2 a3 a4 a5 a6 L7 L8 N) (cd := 1000000) (cm := 0) (y := (.h1m0 (L8) (0) : Zaa)) (fu := 4000) (orc := (Ze (oq []) [] [(0, ((i64.wrap (a0 - (1 : Int)))).toNat)] [] [(0, .st (κg L7 a0 a1 a2 a3 a4 a5))])) (live := (rg 0 4 (rg 500000004 17 []))) (tv := [some (vp 0 0), some (vi a0), some (vp 3 0), some (vi a2), some (vq)]) (bl := [some (.cells (κA a6 L7 L8) 67), some (.cells (κg L7 a0 a1 a2 a3 a4 a5) 50), some (.cells (Za RA L8) 41), some (.cells [vi a1, vi a2, vi a3, vi a4, vi a5] 50), none, none, none, none, none, none, none, none, none, none, none, none, none, none, none, none, none]) [some (.cells (κA a6 L7 L8) 67), some (.cells (κg L7 a0 a1 a2 a3 a4 a5) 50), some (.cells (Za RA L8) 41), some (.cells [vi a1, vi a2, vi a3, vi a4, vi a5] 50), none, none, none, none, none, none, none, none, none, none, none, none, none, none, none, none, none] [(4, 3), (5, 3), (6, 3), (7, 3), (8, 3), (9, 3), (10, 3), (11, 3), (12, 3), (13, 3), (14, 3), (15, 3), (16, 3), (17, 3), (18, 3), (19, 3), (20, 3)] 0 ⟨(wk_c ⟨.inl rfl, ⟨.inl rfl, ⟨.inl rfl, ⟨.inr ⟨rfl, _, rfl⟩, ⟨.inr ⟨rfl, _, rfl⟩, ⟨.inr ⟨rfl, _, rfl⟩, ⟨.inr ⟨rfl, _, rfl⟩, ⟨.inr ⟨rfl, _, rfl⟩, ⟨.inr ⟨rfl, _, rfl⟩, ⟨.inr ⟨rfl, _, rfl⟩, ⟨.inr ⟨rfl, _, rfl⟩, ⟨.inr ⟨rfl, _, rfl⟩, ⟨.inr ⟨rfl, _, rfl⟩, ⟨.inr ⟨rfl, _, rfl⟩, ⟨.inr ⟨rfl, _, rfl⟩, ⟨.inr ⟨rfl, _, rfl⟩, ⟨.inr ⟨rfl, _, rfl⟩, ⟨.inr ⟨rfl, _, rfl⟩, ⟨.inr ⟨rfl, _, rfl⟩, ⟨.inr ⟨rfl, _, rfl⟩, trivial⟩⟩⟩⟩⟩⟩⟩⟩⟩⟩⟩⟩⟩⟩⟩⟩⟩⟩⟩⟩), ⟨(.inl rfl), ⟨(.inl rfl), ⟨(.inl rfl), ⟨(.inl rfl), ⟨(.inl rfl), ⟨(.inl rfl), ⟨(.inl rfl), ⟨(.inl rfl), ⟨(.inl rfl), ⟨(.inl rfl), ⟨(.inl rfl), ⟨(.inl rfl), ⟨(.inl rfl), ⟨(.inl rfl), ⟨(.inl rfl), ⟨(.inl rfl), ⟨(.inl rfl), ⟨(.inl rfl), ⟨(.inl rfl), ⟨(.inl rfl), trivial⟩⟩⟩⟩⟩⟩⟩⟩⟩⟩⟩⟩⟩⟩⟩⟩⟩⟩⟩⟩⟩ (by rfl) (by rfl) rfl rfl (show ZC (Zcw 1).2 = [] from rfl) (by kernel_rfl) (kC (Za8 (E := RB) (L := L7) (i := ((i64.wrap (a0 - (1 : Int)))).toNat) (q := 0) (l := [vi a1, vi a2, vi a3, vi a4, vi a5]) (⟨a1, a2, a3, a4, a5⟩ : RG) (by omega) (show (0 + (((i64.wrap (a0 - (1 : Int)))).toNat * 5)) = ((i64.wrap (a0 - (1 : Int)))).toNat * 5 + 0 from by omega) (show 0 + 5 ≤ 5 from by decide) rfl) <| kB ((i64.wrap (a0 - (1 : Int)))).toNat L7.length <| kI (i64.wrap (a0 - (1 : Int))) (Int.ofNat ((i64.wrap (a0 - (1 : Int)))).toNat) Zp) rfl (by decide +kernel) (by rfl) ⟨rr, ⟨rr, ⟨rr, ⟨rr, ⟨⟨Eq.trans (show κG = vq from (congrArg (Value.int .i64) (by first | rfl | omega))) (by rfl), by rfl⟩, trivial⟩⟩⟩⟩⟩ ⟨sm, ⟨(Zal (E := RB) (α := RG) _ (L7.set ((i64.wrap (a0 - (1 : Int)))).toNat (⟨a1, a2, a3, a4, a5⟩ : RG)) _), ⟨(Zal (E := RA) (α := RF) _ L8 _), ⟨sm, trivial⟩⟩⟩⟩

theorem ZjO (a0 a1 a2 a3 a4 a5 a6 : Int) (L7 : List RG) (L8 : List RF) (N : Nat) (r : ZaZ) (h : Zd5 a0 a1 a2 a3 a4 a5 a6 L7 L8 N = some r) : LSpec Try.prog 50 #[vp 0 0, vi a0, Value.agg #[vi a1, vi a2, vi a3, vi a4, vi a5]] [.cells (κA a6 L7 L8) 67, .cells (Za RB L7) 50, .cells (Za RA L8) 41] (ZhQ a0 a1 a2 a3 a4 a5 a6 L7 L8 r) (Zhv a0 a1 a2 a3 a4 a5 a6 L7 L8 r) :=
 Mach.spec Zr (Zcx a0 a1 a2 a3 a4 a5 a6 L7 L8 N) Try.func50 (by kernel_rfl) (by kernel_rfl) (fun x => by cases x <;> exact ZH _ rfl) (fun r => by cases r <;> exact ZH _ rfl) (fun x => by
  cases x with
  | h1m0 _ _ => exact fun _ => (show ¬ (1 ∈ ZC (Zcw 1).2) from by decide +kernel)
  ) (fun x => (show (Zcx a0 a1 a2 a3 a4 a5 a6 L7 L8 N).Ok Try.prog Z7 x (ZbA a0 a1 a2 a3 a4 a5 a6 L7 L8 N x) from by
  cases x with
  | h1m0 v1 v4 => exact Zjy a0 a1 a2 a3 a4 a5 a6 L7 L8 v1 v4 N
  )) (Zlq a0 a1 a2 a3 a4 a5 a6 L7 L8 N) (n := N) h

noncomputable def Zhx {a0 : Int} {a1 : Int} {a2 : Int} {a3 : Int} {a4 : Int} {a5 : Int} {a6 : Int} {L7 : List RG} {L8 : List RF} {w1 : List RF} {N : Nat} (h : Zd5 a0 a1 a2 a3 a4 a5 a6 L7 L8 N = some (.r0 w1)) (ks : List Nat) (n : Nat) : ToldS := ⟨#[vp (nth ks 0) 0, vi a0, Value.agg #[vi a1, vi a2, vi a3, vi a4, vi a5]], [((nth ks 0), .cells [vi a6, vs (nth ks 1) 0 L7.length L7.length, vs (nth ks 2) 0 L8.length L8.length, vn, vn, vn, vn, vn, vn, vn, vn, vn, vn, vn, vn, vn, vn, vn, vn, vn] 67), ((nth ks 1), .cells (Za RB L7) 50), ((nth ks 2), .cells (Za RA L8) 41)], vtt, [((nth ks 0), some (.cells [vi a6, vs (nth ks 1) 0 L7.length L7.length, vs (nth ks 2) 0 w1.length w1.length, vs n 0 0 0, vs (n + 1) 0 0 0, vs (n + 2) 0 0 0, vs (n + 3) 0 0 0, vs (n + 4) 0 0 0, vs (n + 5) 0 0 0, vs (n + 6) 0 0 0, vs (n + 7) 0 0 0, vs (n + 8) 0 0 0, vs (n + 9) 0 0 0, vs (n + 10) 0 0 0, vs (n + 11) 0 0 0, vs (n + 12) 0 0 0, vs (n + 13) 0 0 0, vs (n + 14) 0 0 0, vs (n + 15) 0 0 0, vs (n + 16) 0 0 0] 67)), ((nth ks 1), some (.cells (κg L7 a0 a1 a2 a3 a4 a5) 50)), ((nth ks 2), some (.cells (Za RA w1) 41)), (n, some κa), ((n + 1), some κa), ((n + 2), some κa), ((n + 3), some κa), ((n + 4), some κa), ((n + 5), some κa), ((n + 6), some κa), ((n + 7), some κa), ((n + 8), some κa), ((n + 9), some κa), ((n + 10), some κa), ((n + 11), some κa), ((n + 12), some κa), ((n + 13), some κa), ((n + 14), some κa), ((n + 15), some κa), ((n + 16), some κa)], 17⟩

theorem Zml {a0 : Int} {a1 : Int} {a2 : Int} {a3 : Int} {a4 : Int} {a5 : Int} {a6 : Int} {L7 : List RG} {L8 : List RF} {w1 : List RF} {N : Nat} (h : Zd5 a0 a1 a2 a3 a4 a5 a6 L7 L8 N = some (.r0 w1)) (ks : List Nat) (n : Nat) (hk : ks.length = 3 := by rfl) (hnd : ks.Nodup := by decide +kernel) (hlt : ∀ k ∈ ks, k < n := by decide +kernel) : (Zhx (N := N)  h ks n).P Try.prog 50 n :=
 match ks, hk, hnd, hlt with
 | [k0, k1, k2], _, hnd, hlt => Zad (show LSpec Try.prog 50 #[vp 0 0, vi a0, Value.agg #[vi a1, vi a2, vi a3, vi a4, vi a5]] [.cells (κA a6 L7 L8) 67, .cells (Za RB L7) 50, .cells (Za RA L8) 41] (vtt) [some (.cells [vi a6, vs 1 0 L7.length L7.length, vs 2 0 w1.length w1.length, vs 3 0 0 0, vs 4 0 0 0, vs 5 0 0 0, vs 6 0 0 0, vs 7 0 0 0, vs 8 0 0 0, vs 9 0 0 0, vs 10 0 0 0, vs 11 0 0 0, vs 12 0 0 0, vs 13 0 0 0, vs 14 0 0 0, vs 15 0 0 0, vs 16 0 0 0, vs 17 0 0 0, vs 18 0 0 0, vs 19 0 0 0] 67), some (.cells (κg L7 a0 a1 a2 a3 a4 a5) 50), some (.cells (Za RA w1) 41), some κa, some κa, some κa, some κa, some κa, some κa, some κa, some κa, some κa, some κa, some κa, some κa, some κa, some κa, some κa, some κa, some κa] from ZjO a0 a1 a2 a3 a4 a5 a6 L7 L8 N _ h) _ n (rg 0 20 []) hnd hlt

noncomputable def ZhS (a0 a1 a2 a3 a4 a5 : Int) : Zdi → Value
 | .r0 w3 => vi (1 : Int)
noncomputable abbrev κB (a1 : Int) (a0 : Int) (a2 : Int) (a3 : Int) (a4 : Int) := (AObj.cells (Za RB ((List.replicate ((i64.wrap (a1 + (1 : Int)))).toNat (⟨(0 : Int), (0 : Int), (0 : Int), (0 : Int), (0 : Int)⟩ : RG)).set ((i64.wrap ((1 : Int) - (1 : Int)))).toNat (⟨a0, a1, a2, a3, a4⟩ : RG))) 50)
noncomputable def Zhy (a0 a1 a2 a3 a4 a5 : Int) : Zdi → List (Option AObj)
 | .r0 w3 => [some (.cells [vi a5, vs 1 0 ((i64.wrap (a1 + (1 : Int)))).toNat ((i64.wrap (a1 + (1 : Int)))).toNat, vs 2 0 w3.length w3.length, vs 3 0 0 0, vs 4 0 0 0, vs 5 0 0 0, vs 6 0 0 0, vs 7 0 0 0, vs 8 0 0 0, vs 9 0 0 0, vs 10 0 0 0, vs 11 0 0 0, vs 12 0 0 0, vs 13 0 0 0, vs 14 0 0 0, vs 15 0 0 0, vs 16 0 0 0, vs 17 0 0 0, vs 18 0 0 0, vs 19 0 0 0] 67), some (κB a1 a0 a2 a3 a4), some (.cells (Za RA w3) 41), some κa, some κa, some κa, some κa, some κa, some κa, some κa, some κa, some κa, some κa, some κa, some κa, some κa, some κa, some κa, some κa, some κa]

noncomputable abbrev κr (a1 : Int) := (Za RA (List.replicate ((i64.wrap (a1 + (1 : Int)))).toNat (⟨(0 : Int), (0 : Int)⟩ : RF)))
noncomputable abbrev κj (a1 : Int) := (Za RB (List.replicate ((i64.wrap (a1 + (1 : Int)))).toNat (⟨(0 : Int), (0 : Int), (0 : Int), (0 : Int), (0 : Int)⟩ : RG)))
theorem Zlr (a0 a1 a2 a3 a4 a5 : Int) (N : Nat) : Fx Try.prog Z7 Try.f21 [.cells [vi a5, vn, vn, vn, vn, vn, vn, vn, vn, vn, vn, vn, vn, vn, vn, vn, vn, vn, vn, vn] 67] #[vp 0 0, Value.agg #[vi a0, vi a1, vi a2, vi a3, vi a4]] (ZhS a0 a1 a2 a3 a4 a5) (Zhy a0 a1 a2 a3 a4 a5) (ZbB a0 a1 a2 a3 a4 a5 N) := by
 unfold ZbB
 refine Zh (fun g0 => ?_) (fun _ => Zq)
 refine Zh (fun g1 => ?_) (fun _ => Zq)
 refine Zbb (fun z2 c2 => ?_)
 cases z2 with
 | r0 y2_0 =>
  exact fxC (Ze (oq []) [] [] [] [(0, .ap ((i64.wrap (a1 + (1 : Int)))).toNat (κj a1) (κj a1)), (2, .ap ((i64.wrap (a1 + (1 : Int)))).toNat (κr a1) (κr a1)), (4, (Zhx c2 [0, 2, 3] 4).t)]) (0 :: (rg 2 19 [])) (vi (1 : Int)) (kKa (Zml c2 [0, 2, 3] 4) <| kX (dP ([vi a5, vs 2 0 ((i64.wrap (a1 + (1 : Int)))).toNat ((i64.wrap (a1 + (1 : Int)))).toNat, vs 3 0 ((i64.wrap (a1 + (1 : Int)))).toNat ((i64.wrap (a1 + (1 : Int)))).toNat, vn, vn, vn, vn, vn, vn, vn, vn, vn, vn, vn, vn, vn, vn, vn, vn, vn] = [vi a5, vs 2 0 (List.replicate ((i64.wrap (a1 + (1 : Int)))).toNat (⟨(0 : Int), (0 : Int), (0 : Int), (0 : Int), (0 : Int)⟩ : RG)).length (List.replicate ((i64.wrap (a1 + (1 : Int)))).toNat (⟨(0 : Int), (0 : Int), (0 : Int), (0 : Int), (0 : Int)⟩ : RG)).length, vs 3 0 (List.replicate ((i64.wrap (a1 + (1 : Int)))).toNat (⟨(0 : Int), (0 : Int)⟩ : RF)).length (List.replicate ((i64.wrap (a1 + (1 : Int)))).toNat (⟨(0 : Int), (0 : Int)⟩ : RF)).length, vn, vn, vn, vn, vn, vn, vn, vn, vn, vn, vn, vn, vn, vn, vn, vn, vn])) true (Za1 (Zf rfl (Zf (Zo rfl eqA eqA) (Zf (Zo rfl eqA eqA) (Zf rfl (Zf rfl (Zf rfl (Zf rfl (Zf rfl (Zf rfl (Zf rfl (Zf rfl (Zf rfl (Zf rfl (Zf rfl (Zf rfl (Zf rfl (Zf rfl (Zf rfl (Zf rfl (Zf rfl rfl))))))))))))))))))))) <| kR (κj a1) <| kR (κr a1) <| kX (dP (((i64.wrap (a1 + (1 : Int))) = Int.ofNat ((i64.wrap (a1 + (1 : Int)))).toNat ∧ 0 < ((i64.wrap (a1 + (1 : Int)))).toNat ∧ ((i64.wrap (a1 + (1 : Int)))).toNat ≤ 100000 ∧ 0 < 2 ∧ (κr a1) = Ev.rep [vq, vq] (((i64.wrap (a1 + (1 : Int)))).toNat * 2)) ∧ 0 < ((i64.wrap (a1 + (1 : Int)))).toNat ∧ ((i64.wrap (a1 + (1 : Int)))).toNat ≤ 100000 ∧ (κr a1) = (κr a1))) true (Za1 ⟨⟨by first | rfl | exact ZiN (by omega), ltA, ltA, by decide, (Zjv (E := RA) (⟨(0 : Int), (0 : Int)⟩ : RF) ((i64.wrap (a1 + (1 : Int)))).toNat (by decide) rfl rfl).symm⟩, ltA, ltA, rfl⟩) <| kX (dP (((i64.wrap (a1 + (1 : Int))) = Int.ofNat ((i64.wrap (a1 + (1 : Int)))).toNat ∧ 0 < ((i64.wrap (a1 + (1 : Int)))).toNat ∧ ((i64.wrap (a1 + (1 : Int)))).toNat ≤ 100000 ∧ 0 < 5 ∧ (κj a1) = Ev.rep [vq, vq, vq, vq, vq] (((i64.wrap (a1 + (1 : Int)))).toNat * 5)) ∧ 0 < ((i64.wrap (a1 + (1 : Int)))).toNat ∧ ((i64.wrap (a1 + (1 : Int)))).toNat ≤ 100000 ∧ (κj a1) = (κj a1))) true (Za1 ⟨⟨by first | rfl | exact ZiN (by omega), ltA, ltA, by decide, (Zjv (E := RB) (⟨(0 : Int), (0 : Int), (0 : Int), (0 : Int), (0 : Int)⟩ : RG) ((i64.wrap (a1 + (1 : Int)))).toNat (by decide) rfl rfl).symm⟩, ltA, ltA, rfl⟩) Zp) (bU [vi a5, vs 2 0 (List.replicate ((i64.wrap (a1 + (1 : Int)))).toNat (⟨(0 : Int), (0 : Int), (0 : Int), (0 : Int), (0 : Int)⟩ : RG)).length (List.replicate ((i64.wrap (a1 + (1 : Int)))).toNat (⟨(0 : Int), (0 : Int), (0 : Int), (0 : Int), (0 : Int)⟩ : RG)).length, vs 3 0 y2_0.length y2_0.length, vs 4 0 0 0, vs 5 0 0 0, vs 6 0 0 0, vs 7 0 0 0, vs 8 0 0 0, vs 9 0 0 0, vs 10 0 0 0, vs 11 0 0 0, vs 12 0 0 0, vs 13 0 0 0, vs 14 0 0 0, vs 15 0 0 0, vs 16 0 0 0, vs 17 0 0 0, vs 18 0 0 0, vs 19 0 0 0, vs 20 0 0 0] 1 (show (vs 1 0 (List.replicate ((i64.wrap (a1 + (1 : Int)))).toNat (⟨(0 : Int), (0 : Int), (0 : Int), (0 : Int), (0 : Int)⟩ : RG)).length (List.replicate ((i64.wrap (a1 + (1 : Int)))).toNat (⟨(0 : Int), (0 : Int), (0 : Int), (0 : Int), (0 : Int)⟩ : RG)).length : Value) = vs 1 0 ((i64.wrap (a1 + (1 : Int)))).toNat ((i64.wrap (a1 + (1 : Int)))).toNat from Zo rfl eqA eqA) <| bR <| bR <| Zs <| bQ <| bE)

theorem ZjP (a0 a1 a2 a3 a4 a5 : Int) (N : Nat) (r : Zdi) (h : ZbB a0 a1 a2 a3 a4 a5 N = some r) : LSpec Try.prog 21 #[vp 0 0, Value.agg #[vi a0, vi a1, vi a2, vi a3, vi a4]] [.cells [vi a5, vn, vn, vn, vn, vn, vn, vn, vn, vn, vn, vn, vn, vn, vn, vn, vn, vn, vn, vn] 67] (ZhS a0 a1 a2 a3 a4 a5 r) (Zhy a0 a1 a2 a3 a4 a5 r) :=
 ZaK Zr Try.func21 (by kernel_rfl) (by kernel_rfl) (fun r => by cases r <;> exact ZH _ rfl) (Zlr a0 a1 a2 a3 a4 a5 N) h

noncomputable def Zhz {a0 : Int} {a1 : Int} {a2 : Int} {a3 : Int} {a4 : Int} {a5 : Int} {w3 : List RF} {N : Nat} (h : ZbB a0 a1 a2 a3 a4 a5 N = some (.r0 w3)) (ks : List Nat) (n : Nat) : ToldS := ⟨#[vp (nth ks 0) 0, Value.agg #[vi a0, vi a1, vi a2, vi a3, vi a4]], [((nth ks 0), .cells [vi a5, vn, vn, vn, vn, vn, vn, vn, vn, vn, vn, vn, vn, vn, vn, vn, vn, vn, vn, vn] 67)], vi (1 : Int), [((nth ks 0), some (.cells [vi a5, vs n 0 ((i64.wrap (a1 + (1 : Int)))).toNat ((i64.wrap (a1 + (1 : Int)))).toNat, vs (n + 1) 0 w3.length w3.length, vs (n + 2) 0 0 0, vs (n + 3) 0 0 0, vs (n + 4) 0 0 0, vs (n + 5) 0 0 0, vs (n + 6) 0 0 0, vs (n + 7) 0 0 0, vs (n + 8) 0 0 0, vs (n + 9) 0 0 0, vs (n + 10) 0 0 0, vs (n + 11) 0 0 0, vs (n + 12) 0 0 0, vs (n + 13) 0 0 0, vs (n + 14) 0 0 0, vs (n + 15) 0 0 0, vs (n + 16) 0 0 0, vs (n + 17) 0 0 0, vs (n + 18) 0 0 0] 67)), (n, some (κB a1 a0 a2 a3 a4)), ((n + 1), some (.cells (Za RA w3) 41)), ((n + 2), some κa), ((n + 3), some κa), ((n + 4), some κa), ((n + 5), some κa), ((n + 6), some κa), ((n + 7), some κa), ((n + 8), some κa), ((n + 9), some κa), ((n + 10), some κa), ((n + 11), some κa), ((n + 12), some κa), ((n + 13), some κa), ((n + 14), some κa), ((n + 15), some κa), ((n + 16), some κa), ((n + 17), some κa), ((n + 18), some κa)], 19⟩

theorem Zmm {a0 : Int} {a1 : Int} {a2 : Int} {a3 : Int} {a4 : Int} {a5 : Int} {w3 : List RF} {N : Nat} (h : ZbB a0 a1 a2 a3 a4 a5 N = some (.r0 w3)) (ks : List Nat) (n : Nat) (hk : ks.length = 1 := by rfl) (hnd : ks.Nodup := by decide +kernel) (hlt : ∀ k ∈ ks, k < n := by decide +kernel) : (Zhz (N := N)  h ks n).P Try.prog 21 n :=
 match ks, hk, hnd, hlt with
 | [k0], _, hnd, hlt => Zad (show LSpec Try.prog 21 #[vp 0 0, Value.agg #[vi a0, vi a1, vi a2, vi a3, vi a4]] [.cells [vi a5, vn, vn, vn, vn, vn, vn, vn, vn, vn, vn, vn, vn, vn, vn, vn, vn, vn, vn, vn] 67] (vi (1 : Int)) [some (.cells [vi a5, vs 1 0 ((i64.wrap (a1 + (1 : Int)))).toNat ((i64.wrap (a1 + (1 : Int)))).toNat, vs 2 0 w3.length w3.length, vs 3 0 0 0, vs 4 0 0 0, vs 5 0 0 0, vs 6 0 0 0, vs 7 0 0 0, vs 8 0 0 0, vs 9 0 0 0, vs 10 0 0 0, vs 11 0 0 0, vs 12 0 0 0, vs 13 0 0 0, vs 14 0 0 0, vs 15 0 0 0, vs 16 0 0 0, vs 17 0 0 0, vs 18 0 0 0, vs 19 0 0 0] 67), some (κB a1 a0 a2 a3 a4), some (.cells (Za RA w3) 41), some κa, some κa, some κa, some κa, some κa, some κa, some κa, some κa, some κa, some κa, some κa, some κa, some κa, some κa, some κa, some κa, some κa] from ZjP a0 a1 a2 a3 a4 a5 N _ h) _ n (rg 0 20 []) hnd hlt

noncomputable def Zou (a0 : Int) : Zez → Value
 | .r0 => Value.tuple #[Value.pointer none, vi (1 : Int)]
 | .r1 w3 => Value.tuple #[vp 0 0, vq]
noncomputable abbrev κi := (AObj.cells (Za RB ((List.replicate ((i64.wrap ((16 : Int) + (1 : Int)))).toNat (⟨(0 : Int), (0 : Int), (0 : Int), (0 : Int), (0 : Int)⟩ : RG)).set ((i64.wrap ((1 : Int) - (1 : Int)))).toNat (⟨(1 : Int), (16 : Int), (255 : Int), (2 : Int), (0 : Int)⟩ : RG))) 50)
noncomputable def Zng (a0 : Int) : Zez → List (Option AObj)
 | .r0 => []
 | .r1 w3 => [some (.cells [vi a0, vs 1 0 ((i64.wrap ((16 : Int) + (1 : Int)))).toNat ((i64.wrap ((16 : Int) + (1 : Int)))).toNat, vs 2 0 w3.length w3.length, vs 3 0 0 0, vs 4 0 0 0, vs 5 0 0 0, vs 6 0 0 0, vs 7 0 0 0, vs 8 0 0 0, vs 9 0 0 0, vs 10 0 0 0, vs 11 0 0 0, vs 12 0 0 0, vs 13 0 0 0, vs 14 0 0 0, vs 15 0 0 0, vs 16 0 0 0, vs 17 0 0 0, vs 18 0 0 0, vs 19 0 0 0] 67), some κi, some (.cells (Za RA w3) 41), some κa, some κa, some κa, some κa, some κa, some κa, some κa, some κa, some κa, some κa, some κa, some κa, some κa, some κa, some κa, some κa, some κa]

theorem ZqN (a0 : Int) (N : Nat) : Gx Try.prog 6 [] #[vi a0] (Zou a0) (Zng a0) (ZdP a0 N) := by
 unfold ZdP
 refine Zx (fun g0 => ?_) (fun g0 => ?_)
 ·
  exact gxR Zr 0 (Ze (oq [1]) [] [] [] []) [] (Value.tuple #[Value.pointer none, vi (1 : Int)]) (hY g0 Zp) bE
 ·
  refine Zx (fun g1 => ?_) (fun g1 => ?_)
  ·
   exact gxR Zr 0 (Ze (oq [0, 3]) [] [] [] []) [] (Value.tuple #[Value.pointer none, vi (1 : Int)]) (kY (a0 > (65536 : Int)) <| hN g0 Zp) bE
  ·
   refine Z5 (fun z2 c2 => ?_)
   cases z2 with
   | r0 y2_0 =>
    exact gxR Zr 0 (Ze (oq [0, 2]) [] [] [] [(0, (Zhz c2 [0] 1).t)]) (rg 0 20 []) (Value.tuple #[vp 0 0, vq]) (kK (Zmm c2 [0] 1) <| kN (a0 > (65536 : Int)) <| hN g0 Zp) (bS [vi a0, vs 1 0 ((i64.wrap ((16 : Int) + (1 : Int)))).toNat ((i64.wrap ((16 : Int) + (1 : Int)))).toNat, vs 2 0 y2_0.length y2_0.length, vs 3 0 0 0, vs 4 0 0 0, vs 5 0 0 0, vs 6 0 0 0, vs 7 0 0 0, vs 8 0 0 0, vs 9 0 0 0, vs 10 0 0 0, vs 11 0 0 0, vs 12 0 0 0, vs 13 0 0 0, vs 14 0 0 0, vs 15 0 0 0, vs 16 0 0 0, vs 17 0 0 0, vs 18 0 0 0, vs 19 0 0 0] <| bR <| bR <| Zs <| bQ <| bE)

theorem ZjB (a0 : Int) (N : Nat) (r : Zez) (h : ZdP a0 N = some r) : LSpec Try.prog 6 #[vi a0] [] (Zou a0 r) (Zng a0 r) :=
 ZqN a0 N r h

noncomputable def Zjz {a0 : Int} {N : Nat} (h : ZdP a0 N = some (.r0)) (ks : List Nat) (n : Nat) : ToldS := ⟨#[vi a0], [], Value.tuple #[Value.pointer none, vi (1 : Int)], [], 0⟩

theorem Znh {a0 : Int} {N : Nat} (h : ZdP a0 N = some (.r0)) (ks : List Nat) (n : Nat) (hk : ks.length = 0 := by rfl) (hnd : ks.Nodup := by decide +kernel) (hlt : ∀ k ∈ ks, k < n := by decide +kernel) : (Zjz (N := N)  h ks n).P Try.prog 6 n :=
 match ks, hk, hnd, hlt with
 | [], _, hnd, hlt => Zad (show LSpec Try.prog 6 #[vi a0] [] (Value.tuple #[Value.pointer none, vi (1 : Int)]) [] from ZjB a0 N _ h) _ n [] hnd hlt

noncomputable def Zj0 {a0 : Int} {w3 : List RF} {N : Nat} (h : ZdP a0 N = some (.r1 w3)) (ks : List Nat) (n : Nat) : ToldS := ⟨#[vi a0], [], Value.tuple #[vp n 0, vq], [(n, some (.cells [vi a0, vs (n + 1) 0 ((i64.wrap ((16 : Int) + (1 : Int)))).toNat ((i64.wrap ((16 : Int) + (1 : Int)))).toNat, vs (n + 2) 0 w3.length w3.length, vs (n + 3) 0 0 0, vs (n + 4) 0 0 0, vs (n + 5) 0 0 0, vs (n + 6) 0 0 0, vs (n + 7) 0 0 0, vs (n + 8) 0 0 0, vs (n + 9) 0 0 0, vs (n + 10) 0 0 0, vs (n + 11) 0 0 0, vs (n + 12) 0 0 0, vs (n + 13) 0 0 0, vs (n + 14) 0 0 0, vs (n + 15) 0 0 0, vs (n + 16) 0 0 0, vs (n + 17) 0 0 0, vs (n + 18) 0 0 0, vs (n + 19) 0 0 0] 67)), ((n + 1), some κi), ((n + 2), some (.cells (Za RA w3) 41)), ((n + 3), some κa), ((n + 4), some κa), ((n + 5), some κa), ((n + 6), some κa), ((n + 7), some κa), ((n + 8), some κa), ((n + 9), some κa), ((n + 10), some κa), ((n + 11), some κa), ((n + 12), some κa), ((n + 13), some κa), ((n + 14), some κa), ((n + 15), some κa), ((n + 16), some κa), ((n + 17), some κa), ((n + 18), some κa), ((n + 19), some κa)], 20⟩

theorem Zni {a0 : Int} {w3 : List RF} {N : Nat} (h : ZdP a0 N = some (.r1 w3)) (ks : List Nat) (n : Nat) (hk : ks.length = 0 := by rfl) (hnd : ks.Nodup := by decide +kernel) (hlt : ∀ k ∈ ks, k < n := by decide +kernel) : (Zj0 (N := N)  h ks n).P Try.prog 6 n :=
 match ks, hk, hnd, hlt with
 | [], _, hnd, hlt => Zad (show LSpec Try.prog 6 #[vi a0] [] (Value.tuple #[vp 0 0, vq]) [some (.cells [vi a0, vs 1 0 ((i64.wrap ((16 : Int) + (1 : Int)))).toNat ((i64.wrap ((16 : Int) + (1 : Int)))).toNat, vs 2 0 w3.length w3.length, vs 3 0 0 0, vs 4 0 0 0, vs 5 0 0 0, vs 6 0 0 0, vs 7 0 0 0, vs 8 0 0 0, vs 9 0 0 0, vs 10 0 0 0, vs 11 0 0 0, vs 12 0 0 0, vs 13 0 0 0, vs 14 0 0 0, vs 15 0 0 0, vs 16 0 0 0, vs 17 0 0 0, vs 18 0 0 0, vs 19 0 0 0] 67), some κi, some (.cells (Za RA w3) 41), some κa, some κa, some κa, some κa, some κa, some κa, some κa, some κa, some κa, some κa, some κa, some κa, some κa, some κa, some κa, some κa, some κa] from ZjB a0 N _ h) _ n (rg 0 20 []) hnd hlt

noncomputable def ZkF (a0 a1 : Int) : ZbI → Value
 | .r0 w0 w1 => Value.agg #[vi w0, vi w1]
noncomputable def ZjC (a0 a1 : Int) : ZbI → List (Option AObj)
 | .r0 w0 w1 => []

theorem ZnH (a0 a1 : Int) (N : Nat) : Fx Try.prog Z7 Try.f55 [] #[vi a0, vi a1] (ZkF a0 a1) (ZjC a0 a1) (Zbj a0 a1 N) := by
 unfold Zbj
 refine Zh (fun g0 => ?_) (fun g0 => ?_)
 ·
  exact fxC (Ze (oq [1]) [] [] [] []) [] (Value.agg #[vq, vq]) (hY g0 Zp) bE
 ·
  refine Zh (fun g1 => ?_) (fun g1 => ?_)
  ·
   exact fxC (Ze (oq [0, 3]) [] [] [] []) [] (Value.agg #[vq, vq]) (kY (a0 > (1073741824 : Int)) <| hN g0 Zp) bE
  ·
   refine Zh (fun g2 => ?_) (fun g2 => ?_)
   ·
    exact fxC (Ze (oq [0, 2, 5]) [] [] [] []) [] (Value.agg #[vq, vq]) (hY g2 <| kN (a0 > (1073741824 : Int)) <| hN g0 Zp) bE
   ·
    refine Zh (fun g3 => ?_) (fun g3 => ?_)
    ·
     exact fxC (Ze (oq [0, 2, 4, 7]) [] [] [] []) [] (Value.agg #[vq, vq]) (kY (a1 ≥ (1048576 : Int)) <| hN g2 <| kN (a0 > (1073741824 : Int)) <| hN g0 Zp) bE
    ·
     exact fxC (Ze (oq [0, 2, 4, 6]) [(0, (a0 * (1048576 : Int))), (1, ((a0 * (1048576 : Int)) + a1))] [] [] []) [] (Value.agg #[vi (2 : Int), vi ((a0 * (1048576 : Int)) + a1)]) (kW ((a0 * (1048576 : Int)) + a1) ((a0 * (1048576 : Int)) + a1) <| kW (a0 * (1048576 : Int)) (a0 * (1048576 : Int)) <| kN (a1 ≥ (1048576 : Int)) <| hN g2 <| kN (a0 > (1073741824 : Int)) <| hN g0 Zp) bE

theorem Zmn (a0 a1 : Int) (N : Nat) (r : ZbI) (h : Zbj a0 a1 N = some r) : LSpec Try.prog 55 #[vi a0, vi a1] [] (ZkF a0 a1 r) (ZjC a0 a1 r) :=
 ZaK Zr Try.func55 (by kernel_rfl) (by kernel_rfl) (fun r => by cases r <;> exact ZH _ rfl) (ZnH a0 a1 N) h

noncomputable def ZbT {a0 : Int} {a1 : Int} {w0 : Int} {w1 : Int} {N : Nat} (h : Zbj a0 a1 N = some (.r0 w0 w1)) (ks : List Nat) (n : Nat) : ToldS := ⟨#[vi a0, vi a1], [], Value.agg #[vi w0, vi w1], [], 0⟩

theorem ZcX {a0 : Int} {a1 : Int} {w0 : Int} {w1 : Int} {N : Nat} (h : Zbj a0 a1 N = some (.r0 w0 w1)) (ks : List Nat) (n : Nat) (hk : ks.length = 0 := by rfl) (hnd : ks.Nodup := by decide +kernel) (hlt : ∀ k ∈ ks, k < n := by decide +kernel) : (ZbT (N := N)  h ks n).P Try.prog 55 n :=
 match ks, hk, hnd, hlt with
 | [], _, hnd, hlt => Zad (show LSpec Try.prog 55 #[vi a0, vi a1] [] (Value.agg #[vi w0, vi w1]) [] from Zmn a0 a1 N _ h) _ n [] hnd hlt

end Ev
end Go.Proofs.Ytomkpfibofpkbaa
namespace Go.Proofs.Ytomkpfibofpkbaa
open Go.RowKit
namespace Ev
set_option linter.unusedVariables false
set_option maxRecDepth 100000
set_option maxHeartbeats 4000000
noncomputable def ZjD (a0 a1 : Int) : Za2 → Value
 | .r0 => vn
 | .r1 w0 => vs 0 0 w0.length w0.length
noncomputable def ZiP (a0 a1 : Int) : Za2 → List (Option AObj)
 | .r0 => []
 | .r1 w0 => [some (.cells (Za RA w0) 41)]

noncomputable def Zqe (a0 a1 : Int) : Za2 → Value
 | .r0 => vn
 | .r1 w0 => ms RA w0
noncomputable def Zo8 (a0 a1 : Int) : Za2 → List (Option AObj)
 | .r0 => []
 | .r1 w0 => []

def Zo9 : ZU → Nat
 | .h1m0 => 1
 | .h1m1 v1 v2 v3 => 1
noncomputable def Zqf (a0 a1 : Int) : ZU → List (Nat × Value)
 | .h1m0 => [(0, vi a0), (1, vi a1), (5, vn), (6, vq)]
 | .h1m1 v1 v2 v3 => [(0, vi a0), (1, vi v1), (5, vs 0 0 v2.length v2.length), (6, vi (v3 : Int))]
noncomputable def Zqg (a0 a1 : Int) : ZU → List (Option AObj)
 | .h1m0 => []
 | .h1m1 v1 v2 v3 => [some (.cells (Za RA v2) 41)]

noncomputable def ZcT : Nat → Code × List ZaO
 | 1 => Zc4 [1, 1, 0, 1, 3] (Zep Try.f56) []
 | _ => (.skip, [])
def ZjE : Nat → Bool
 | 1 => true
 | _ => true
noncomputable def Zf4 (i : Nat) : List ZaO := match ZjE i with | true => .rnd i :: (ZcT i).2 | false => (ZcT i).2

noncomputable def Zck (a0 a1 : Int) (N : Nat) : Mach := ⟨Try.f56, [], ZU, Za2, Zbr a0 a1 N, Zo9, ZcT, ZjE, Zqf a0 a1, Zqg a0 a1, ZjD a0 a1, ZiP a0 a1⟩

theorem Zls (a0 a1 : Int) (N : Nat) : (Zck a0 a1 N).Ok Try.prog Z7 (.h1m0 : ZU) (Zbr a0 a1 N (.h1m0 : ZU)) := by
 show (Zck a0 a1 N).Ok Try.prog Z7 (.h1m0 : ZU) (ZdQ a0 a1 N)
 unfold ZdQ
 refine Mach.ok_ite (fun g0 => ?_) (fun g0 => ?_)
 ·
  refine Mach.ok_ite (fun g1 => ?_) (fun _ => Mach.ok_none)
  refine Mach.ok_ite (fun g2 => ?_) (fun g2 => ?_)
  ·
   refine Mach.ok_ite (fun g3 => ?_) (fun _ => Mach.ok_none)
   exact Mach.okN (Ze (oq [1, 3]) [(0, (a1 % (2 : Int))), (1, (a1 / (2 : Int)))] [] [] []) [2] [some (vi a0), some (vi (a1 / (2 : Int))), some (vs 2 0 1 1), some (vi (1 : Int))] (kV a1 (2 : Int) <| hT g2 <| kM a1 (2 : Int) <| hY g0 Zp) (tC (tC (tC (tC (tE) ⟨Eq.trans (show (vi ((1 : Nat) : Int) : Value) = vi (1 : Int) from (congrArg (Value.int .i64) (by first | rfl | omega))) (by rfl), by rfl⟩) ⟨Eq.trans (show (vs 0 0 ([(⟨(2 : Int), (0 : Int)⟩ : RF)] : List RF).length ([(⟨(2 : Int), (0 : Int)⟩ : RF)] : List RF).length : Value) = vs 0 0 1 1 from (Zo rfl eqA eqA)) (by rfl), by rfl⟩))) (bC (o := .cells [vi (2 : Int), vq] 41) (ZeC (E := RA) _ (L := ([(⟨(2 : Int), (0 : Int)⟩ : RF)] : List RF)) _ (show ([vi (2 : Int), vq] : List Value) = Za RA ([(⟨(2 : Int), (0 : Int)⟩ : RF)] : List RF) from rfl)) <| bE) (show 1 ∈ ZC (Zf4 1) from by decide +kernel)
  ·
   refine Mach.ok_ite (fun g3 => ?_) (fun _ => Mach.ok_none)
   exact Mach.okN (Ze (oq [1, 2]) [(0, (a1 % (2 : Int))), (1, (a1 / (2 : Int)))] [] [] []) [2] [some (vi a0), some (vi (a1 / (2 : Int))), some (vs 2 0 1 1), some (vi (1 : Int))] (kV a1 (2 : Int) <| hF g2 <| kM a1 (2 : Int) <| hY g0 Zp) (tC (tC (tC (tC (tE) ⟨Eq.trans (show (vi ((1 : Nat) : Int) : Value) = vi (1 : Int) from (congrArg (Value.int .i64) (by first | rfl | omega))) (by rfl), by rfl⟩) ⟨Eq.trans (show (vs 0 0 ([(⟨(1 : Int), (0 : Int)⟩ : RF)] : List RF).length ([(⟨(1 : Int), (0 : Int)⟩ : RF)] : List RF).length : Value) = vs 0 0 1 1 from (Zo rfl eqA eqA)) (by rfl), by rfl⟩))) (bC (o := .cells [vi (1 : Int), vq] 41) (ZeC (E := RA) _ (L := ([(⟨(1 : Int), (0 : Int)⟩ : RF)] : List RF)) _ (show ([vi (1 : Int), vq] : List Value) = Za RA ([(⟨(1 : Int), (0 : Int)⟩ : RF)] : List RF) from rfl)) <| bE) (show 1 ∈ ZC (Zf4 1) from by decide +kernel)
 ·
  exact Mach.okF (Ze (oq [0]) [] [] [] []) [] (vn) (hN g0 Zp) bE

theorem Zlt (a0 a1 v1 : Int) (v2 : List RF) (v3 N : Nat) : (Zck a0 a1 N).Ok Try.prog Z7 (.h1m1 v1 v2 v3 : ZU) (Zbr a0 a1 N (.h1m1 v1 v2 v3 : ZU)) := by
 show (Zck a0 a1 N).Ok Try.prog Z7 (.h1m1 v1 v2 v3 : ZU) (ZcS a0 a1 N v1 v2 v3)
 unfold ZcS
 refine Mach.ok_ite (fun g0 => ?_) (fun g0 => ?_)
 ·
  refine Mach.ok_ite (fun g1 => ?_) (fun _ => Mach.ok_none)
  refine Mach.ok_ite (fun g2 => ?_) (fun g2 => ?_)
  ·
   refine Mach.ok_ite (fun g3 => ?_) (fun _ => Mach.ok_none)
   refine Mach.ok_ite (fun g4 => ?_) (fun _ => Mach.ok_none)
   refine Mach.ok_ite (fun g5 => ?_) (fun _ => Mach.ok_none)
   exact Mach.okN (Ze (oq [1, 3]) [(0, (v1 % (2 : Int))), (1, (v1 / (2 : Int))), (2, (((v3 + 1) : Nat) : Int))] [] [] [(2, .ap 1 [vi (2 : Int), vq] (Za RA (v2 ++ ([(⟨(2 : Int), (0 : Int)⟩ : RF)] : List RF))))]) [3] [some (vi a0), some (vi (v1 / (2 : Int))), some (vs 3 0 (v2.length + 1) (v2.length + 1)), some (vi (((v3 + 1) : Nat) : Int))] (kW ((v3 : Int) + (1 : Int)) (((v3 + 1) : Nat) : Int) <| kV v1 (2 : Int) <| kA RA v2 (⟨(2 : Int), (0 : Int)⟩ : RF) <| hT g2 <| kM v1 (2 : Int) <| hY g0 Zp) (tC (tC (tC (tC (tE)) ⟨Eq.trans (show (vs 0 0 (v2 ++ ([(⟨(2 : Int), (0 : Int)⟩ : RF)] : List RF)).length (v2 ++ ([(⟨(2 : Int), (0 : Int)⟩ : RF)] : List RF)).length : Value) = vs 0 0 (v2.length + 1) (v2.length + 1) from (Zo rfl eqA eqA)) (by rfl), by rfl⟩))) (bR <| bE) (show 1 ∈ ZC (Zf4 1) from by decide +kernel)
  ·
   refine Mach.ok_ite (fun g3 => ?_) (fun _ => Mach.ok_none)
   refine Mach.ok_ite (fun g4 => ?_) (fun _ => Mach.ok_none)
   refine Mach.ok_ite (fun g5 => ?_) (fun _ => Mach.ok_none)
   exact Mach.okN (Ze (oq [1, 2]) [(0, (v1 % (2 : Int))), (1, (v1 / (2 : Int))), (2, (((v3 + 1) : Nat) : Int))] [] [] [(2, .ap 1 [vi (1 : Int), vq] (Za RA (v2 ++ ([(⟨(1 : Int), (0 : Int)⟩ : RF)] : List RF))))]) [3] [some (vi a0), some (vi (v1 / (2 : Int))), some (vs 3 0 (v2.length + 1) (v2.length + 1)), some (vi (((v3 + 1) : Nat) : Int))] (kW ((v3 : Int) + (1 : Int)) (((v3 + 1) : Nat) : Int) <| kV v1 (2 : Int) <| kA RA v2 (⟨(1 : Int), (0 : Int)⟩ : RF) <| hF g2 <| kM v1 (2 : Int) <| hY g0 Zp) (tC (tC (tC (tC (tE)) ⟨Eq.trans (show (vs 0 0 (v2 ++ ([(⟨(1 : Int), (0 : Int)⟩ : RF)] : List RF)).length (v2 ++ ([(⟨(1 : Int), (0 : Int)⟩ : RF)] : List RF)).length : Value) = vs 0 0 (v2.length + 1) (v2.length + 1) from (Zo rfl eqA eqA)) (by rfl), by rfl⟩))) (bR <| bE) (show 1 ∈ ZC (Zf4 1) from by decide +kernel)
 ·
  exact Mach.okF (Ze (oq [0]) [] [] [] []) [0] (vs 0 0 v2.length v2.length) (hN g0 Zp) (bR <| bE)

theorem ZnI (a0 a1 : Int) (N : Nat) : (Zck a0 a1 N).Enter Try.prog Z7 #[vi a0, vi a1] (Zg2 a0 a1 N) := by
 unfold Zg2
 exact Mach.en_head (bK := ZcT 1) (M := Zck a0 a1 N) (cd := 1000000) (cm := 0) (y := (.h1m0 : ZU)) (fu := 4000) (orc := (Ze (oq []) [] [] [] [])) (live := []) (tv := [some (vi a0), some (vi a1), some (vn), some (vq)]) (bl := []) rfl rfl (show ZC (ZcT 1).2 = [] from rfl) (by kernel_rfl) Zp rfl (by decide +kernel) (by rfl) ⟨rr, ⟨rr, ⟨rr, ⟨rr, trivial⟩⟩⟩⟩ trivial

theorem Zlu (a0 a1 : Int) (N : Nat) (r : Za2) (h : Zbx a0 a1 N = some r) : LSpec Try.prog 56 #[vi a0, vi a1] [] (ZjD a0 a1 r) (ZiP a0 a1 r) :=
 Mach.spec Zr (Zck a0 a1 N) Try.func56 (by kernel_rfl) (by kernel_rfl) (fun x => by cases x <;> exact ZH _ rfl) (fun r => by cases r <;> exact ZH _ rfl) (fun x => by
  cases x with
  | h1m0 => exact fun _ => (show ¬ (1 ∈ ZC (ZcT 1).2) from by decide +kernel)
  | h1m1 _ _ _ => exact fun _ => (show ¬ (1 ∈ ZC (ZcT 1).2) from by decide +kernel)
  ) (fun x => (show (Zck a0 a1 N).Ok Try.prog Z7 x (Zbr a0 a1 N x) from by
  cases x with
  | h1m0 => exact Zls a0 a1 N
  | h1m1 v1 v2 v3 => exact Zlt a0 a1 v1 v2 v3 N
  )) (ZnI a0 a1 N) (n := N) h

theorem Zmo (a0 a1 : Int) (N : Nat) (r : Za2) (h : Zbx a0 a1 N = some r) : LSpec Try.prog 56 #[vi a0, vi a1] [] (Zqe a0 a1 r) (Zo8 a0 a1 r) := by
 have h0 := Zlu a0 a1 N r h
 cases r with
 | r0 => exact h0
 | r1 w0 => exact (LSpec.frzv (E := RA) (L := w0) (post := []) (v2 := ms RA w0) h0 (show 0 ≤ 0 from by decide) (show 0 < 1000000000 from by decide) trivial rfl rfl rfl)

noncomputable def ZbU {a0 : Int} {a1 : Int} {w0 : List RF} {N : Nat} (h : Zbx a0 a1 N = some (.r1 w0)) (ks : List Nat) (n : Nat) : ToldS := ⟨#[vi a0, vi a1], [], ms RA w0, [], 0⟩

theorem Zc0 {a0 : Int} {a1 : Int} {w0 : List RF} {N : Nat} (h : Zbx a0 a1 N = some (.r1 w0)) (ks : List Nat) (n : Nat) (hk : ks.length = 0 := by rfl) (hnd : ks.Nodup := by decide +kernel) (hlt : ∀ k ∈ ks, k < n := by decide +kernel) : (ZbU (N := N)  h ks n).P Try.prog 56 n :=
 match ks, hk, hnd, hlt with
 | [], _, hnd, hlt => Zad (show LSpec Try.prog 56 #[vi a0, vi a1] [] (ms RA w0) [] from Zmo a0 a1 N _ h) _ n [] hnd hlt

noncomputable def ZlK (a0 : Int) : Zcf → Value
 | .r0 => Value.tuple #[Value.agg #[vq, vn, vn], vi (1 : Int)]
 | .r1 w1 => Value.tuple #[Value.agg #[vi a0, vs 0 0 w1.length w1.length, vn], vq]
noncomputable def ZkG (a0 : Int) : Zcf → List (Option AObj)
 | .r0 => []
 | .r1 w1 => [some (.cells (Za RD w1) 71)]

noncomputable abbrev κJ := #[Value.agg #[vq, ms RD ([] : List RI), ms eI ([] : List Int)], vi (1 : Int)]
noncomputable def Zsn (a0 : Int) : Zcf → Value
 | .r0 => Value.tuple κJ
 | .r1 w1 => Value.tuple #[Value.agg #[vi a0, ms RD w1, ms eI ([] : List Int)], vq]
noncomputable def ZqO (a0 : Int) : Zcf → List (Option AObj)
 | .r0 => []
 | .r1 w1 => []

theorem Zqh (a0 : Int) (N : Nat) : Fx Try.prog Z7 Try.f7 [] #[vi a0] (ZlK a0) (ZkG a0) (Zcj a0 N) := by
 unfold Zcj
 refine Zh (fun g0 => ?_) (fun g0 => ?_)
 ·
  exact fxC (Ze (oq [1]) [] [] [] []) [] (Value.tuple #[Value.agg #[vq, vn, vn], vi (1 : Int)]) (hY g0 Zp) bE
 ·
  refine Zh (fun g1 => ?_) (fun g1 => ?_)
  ·
   exact fxC (Ze (oq [0, 3]) [] [] [] []) [] (Value.tuple #[Value.agg #[vq, vn, vn], vi (1 : Int)]) (kY (a0 > (65536 : Int)) <| hN g0 Zp) bE
  ·
   refine Zbb (fun z2 c2 => ?_)
   cases z2 with
   | r0 y2_0 y2_1 =>
    refine Zbb (fun z3 c3 => ?_)
    cases z3 with
    | r0 =>
     exact Zq
    | r1 y3_0 =>
     exact fxC (Ze (oq [0, 2]) [] [] [] [(0, (ZbT c2 [] 2).t), (1, (ZbU c3 [] 2).t)]) [2] (Value.tuple #[Value.agg #[vi a0, vs 2 0 1 1, vn], vq]) (kK (Zc0 c3 [] 2) <| kK (ZcX c2 [] 2) <| kN (a0 > (65536 : Int)) <| hN g0 Zp) (bC (o := .cells [vi (1 : Int), vi y2_0, vi y2_1, vi (1 : Int), vi (16 : Int), vi (255 : Int), vi (2 : Int), vq, ms RA y3_0] 71) (ZeC (E := RD) _ (L := ([(⟨(1 : Int), y2_0, y2_1, (1 : Int), (16 : Int), (255 : Int), (2 : Int), (0 : Int), y3_0⟩ : RI)] : List RI)) _ (show ([vi (1 : Int), vi y2_0, vi y2_1, vi (1 : Int), vi (16 : Int), vi (255 : Int), vi (2 : Int), vq, ms RA y3_0] : List Value) = Za RD ([(⟨(1 : Int), y2_0, y2_1, (1 : Int), (16 : Int), (255 : Int), (2 : Int), (0 : Int), y3_0⟩ : RI)] : List RI) from rfl)) <| bE) (hv := ⟨Eq.trans (show (Value.tuple #[Value.agg #[vi a0, vs 0 0 ([(⟨(1 : Int), y2_0, y2_1, (1 : Int), (16 : Int), (255 : Int), (2 : Int), (0 : Int), y3_0⟩ : RI)] : List RI).length ([(⟨(1 : Int), y2_0, y2_1, (1 : Int), (16 : Int), (255 : Int), (2 : Int), (0 : Int), y3_0⟩ : RI)] : List RI).length, vn], vq] : Value) = Value.tuple #[Value.agg #[vi a0, vs 0 0 1 1, vn], vq] from (Zhm (Zf (Zci (Zf rfl (Zf (Zo rfl eqA eqA) (Zf rfl rfl)))) (Zf rfl rfl)))) (by rfl), by rfl⟩)

theorem Znj (a0 : Int) (N : Nat) (r : Zcf) (h : Zcj a0 N = some r) : LSpec Try.prog 7 #[vi a0] [] (ZlK a0 r) (ZkG a0 r) :=
 ZaK Zr Try.func7 (by kernel_rfl) (by kernel_rfl) (fun r => by cases r <;> exact ZH _ rfl) (Zqh a0 N) h

theorem ZiQ (a0 : Int) (N : Nat) (r : Zcf) (h : Zcj a0 N = some r) : LSpec Try.prog 7 #[vi a0] [] (Zsn a0 r) (ZqO a0 r) := by
 have h0 := Znj a0 N r h
 cases r with
 | r0 => exact (LSpec.nlv (v2 := Value.tuple κJ) h0 rfl rfl)
 | r1 w1 => exact (LSpec.nlv (v2 := Value.tuple #[Value.agg #[vi a0, ms RD w1, ms eI ([] : List Int)], vq]) (LSpec.frzv (E := RD) (L := w1) (post := []) (v2 := Value.tuple #[Value.agg #[vi a0, ms RD w1, vn], vq]) h0 (show 0 ≤ 0 from by decide) (show 0 < 1000000000 from by decide) trivial rfl rfl rfl) rfl rfl)

noncomputable def Ziq {a0 : Int} {N : Nat} (h : Zcj a0 N = some (.r0)) (ks : List Nat) (n : Nat) : ToldS := ⟨#[vi a0], [], Value.tuple κJ, [], 0⟩

theorem ZlL {a0 : Int} {N : Nat} (h : Zcj a0 N = some (.r0)) (ks : List Nat) (n : Nat) (hk : ks.length = 0 := by rfl) (hnd : ks.Nodup := by decide +kernel) (hlt : ∀ k ∈ ks, k < n := by decide +kernel) : (Ziq (N := N)  h ks n).P Try.prog 7 n :=
 match ks, hk, hnd, hlt with
 | [], _, hnd, hlt => Zad (show LSpec Try.prog 7 #[vi a0] [] (Value.tuple κJ) [] from ZiQ a0 N _ h) _ n [] hnd hlt

noncomputable def Zir {a0 : Int} {w1 : List RI} {N : Nat} (h : Zcj a0 N = some (.r1 w1)) (ks : List Nat) (n : Nat) : ToldS := ⟨#[vi a0], [], Value.tuple #[Value.agg #[vi a0, ms RD w1, ms eI ([] : List Int)], vq], [], 0⟩

theorem ZlM {a0 : Int} {w1 : List RI} {N : Nat} (h : Zcj a0 N = some (.r1 w1)) (ks : List Nat) (n : Nat) (hk : ks.length = 0 := by rfl) (hnd : ks.Nodup := by decide +kernel) (hlt : ∀ k ∈ ks, k < n := by decide +kernel) : (Zir (N := N)  h ks n).P Try.prog 7 n :=
 match ks, hk, hnd, hlt with
 | [], _, hnd, hlt => Zad (show LSpec Try.prog 7 #[vi a0] [] (Value.tuple #[Value.agg #[vi a0, ms RD w1, ms eI ([] : List Int)], vq]) [] from ZiQ a0 N _ h) _ n [] hnd hlt

noncomputable def ZhT (a0 : Int) (L1 : List RG) (L2 : List RF) (W3 : Nat → List Int) : Zcr → Value
 | .r0 w19 => vi w19
noncomputable abbrev κv (L1 : List RG) := (AObj.cells (Za RB L1) 50)
noncomputable abbrev κn (a0 : Int) (L1 : List RG) (L2 : List RF) (W3 : Nat → List Int) := (some (AObj.cells (hpC a0 1 L1.length 2 L2.length 3 W3) 67) :: some (κv L1) :: some (AObj.cells (Za RA L2) 41) :: hpO W3 [])
noncomputable def Zh0 (a0 : Int) (L1 : List RG) (L2 : List RF) (W3 : Nat → List Int) : Zcr → List (Option AObj)
 | .r0 w19 => (κn a0 L1 L2 W3)

noncomputable abbrev κe (a0 : Int) (L1 : List RG) (L2 : List RF) (W3 : Nat → List Int) := (AObj.cells (hpC a0 1 L1.length 2 L2.length 3 W3) 67 :: AObj.cells (Za RB L1) 50 :: AObj.cells (Za RA L2) 41 :: hpP W3 [])
theorem Zlv (a0 : Int) (L1 : List RG) (L2 : List RF) (W3 : Nat → List Int) (N : Nat) : Fx Try.prog Z7 Try.f11 (κe a0 L1 L2 W3) #[vp 0 0] (ZhT a0 L1 L2 W3) (Zh0 a0 L1 L2 W3) (Zah a0 L1 L2 W3 N) := by
 unfold Zah
 refine Zh (fun g0 => ?_) (fun g0 => ?_)
 ·
  exact fxC (Ze (oq [3]) [] [] [] []) (rg 0 20 []) (vi (L1.length : Int)) (kY (a0 > (0 : Int)) Zp) (bS (hpC a0 1 L1.length 2 L2.length 3 W3) <| bR <| bR <| Zs <| bQ <| bE)
 ·
  exact fxC (Ze (oq [2]) [] [] [] []) (rg 0 20 []) (vq) (kN (a0 > (0 : Int)) Zp) (bS (hpC a0 1 L1.length 2 L2.length 3 W3) <| bR <| bR <| Zs <| bQ <| bE)

theorem ZjQ (a0 : Int) (L1 : List RG) (L2 : List RF) (W3 : Nat → List Int) (N : Nat) (r : Zcr) (h : Zah a0 L1 L2 W3 N = some r) : LSpec Try.prog 11 #[vp 0 0] (κe a0 L1 L2 W3) (ZhT a0 L1 L2 W3 r) (Zh0 a0 L1 L2 W3 r) :=
 ZaK Zr Try.func11 (by kernel_rfl) (by kernel_rfl) (fun r => by cases r <;> exact ZH _ rfl) (Zlv a0 L1 L2 W3 N) h

noncomputable abbrev κp (ks : List Nat) (a0 : Int) (L1 : List RG) (L2 : List RF) (W3 : Nat → List Int) := (((nth ks 0), AObj.cells (Zhs a0 (nth ks 1) L1.length (nth ks 2) L2.length (ZdN ks 3 17) W3) 67) :: ((nth ks 1), AObj.cells (Za RB L1) 50) :: ((nth ks 2), AObj.cells (Za RA L2) 41) :: hpK (ZdN ks 3 17) W3 [])
noncomputable def Zac {a0 : Int} {L1 : List RG} {L2 : List RF} {W3 : Nat → List Int} {w19 : Int} {N : Nat} (h : Zah a0 L1 L2 W3 N = some (.r0 w19)) (ks : List Nat) (n : Nat) : ToldS := ⟨#[vp (nth ks 0) 0], (κp ks a0 L1 L2 W3), vi w19, [], 0⟩

theorem ZdS {a0 : Int} {L1 : List RG} {L2 : List RF} {W3 : Nat → List Int} {w19 : Int} {N : Nat} (h : Zah a0 L1 L2 W3 N = some (.r0 w19)) (ks : List Nat) (n : Nat) (hk : ks.length = 20 := by rfl) (hnd : ks.Nodup := by decide +kernel) (hlt : ∀ k ∈ ks, k < n := by decide +kernel) : (Zac (N := N)  h ks n).P Try.prog 11 n :=
 match ks, hk, hnd, hlt with
 | [k0, k1, k2, k3, k4, k5, k6, k7, k8, k9, k10, k11, k12, k13, k14, k15, k16, k17, k18, k19], _, hnd, hlt => Zad (show LSpec Try.prog 11 #[vp 0 0] (κe a0 L1 L2 W3) (vi w19) (κn a0 L1 L2 W3) from ZjQ a0 L1 L2 W3 N _ h) _ n [] hnd hlt

noncomputable def ZhU (a0 a1 a2 a3 a4 : Int) (b5 : Bool) (a6 a7 a8 a9 a10 : Int) (L11 : List RI) (L12 : List Int) (L13 : List RF) (a14 : Int) (L15 : List RG) (L16 : List RF) (W17 : Nat → List Int) : ZbJ → Value
 | .r0 w20 w21 => Value.agg #[vi w20, vi w21]
noncomputable abbrev κc (a10 : Int) (L11 : List RI) (L12 : List Int) (L13 : List RF) := [vp 1 0, vi a10, ms RD L11, ms eI L12, vs 2 0 L13.length L13.length]
noncomputable def Zh1 (a0 a1 a2 a3 a4 : Int) (b5 : Bool) (a6 a7 a8 a9 a10 : Int) (L11 : List RI) (L12 : List Int) (L13 : List RF) (a14 : Int) (L15 : List RG) (L16 : List RF) (W17 : Nat → List Int) : ZbJ → List (Option AObj)
 | .r0 w20 w21 => (some (.cells (κc a10 L11 L12 L13) 37) :: some (.cells (hpC a14 3 L15.length 4 L16.length 5 W17) 67) :: some (.cells (Za RA L13) 41 true) :: some (.cells (Za RB L15) 50) :: some (.cells (Za RA L16) 41) :: hpO W17 [])

noncomputable abbrev κk (a0 : Int) (a1 : Int) (a2 : Int) (a3 : Int) (a4 : Int) (b5 : Bool) (a6 : Int) (a7 : Int) (a8 : Int) (a9 : Int) := #[Value.int .u8 a0, vi a1, vi a2, vi a3, Value.int .u8 a4, Value.bool b5, vi a6, vi a7, vi a8, vi a9]
theorem Zlw (a0 a1 a2 a3 a4 : Int) (b5 : Bool) (a6 a7 a8 a9 a10 : Int) (L11 : List RI) (L12 : List Int) (L13 : List RF) (a14 : Int) (L15 : List RG) (L16 : List RF) (W17 : Nat → List Int) (N : Nat) : Fx Try.prog Z7 Try.f26 (.cells (κc a10 L11 L12 L13) 37 :: .cells (hpC a14 3 L15.length 4 L16.length 5 W17) 67 :: .cells (Za RA L13) 41 true :: .cells (Za RB L15) 50 :: .cells (Za RA L16) 41 :: hpP W17 []) #[vp 0 0, Value.agg (κk a0 a1 a2 a3 a4 b5 a6 a7 a8 a9)] (ZhU a0 a1 a2 a3 a4 b5 a6 a7 a8 a9 a10 L11 L12 L13 a14 L15 L16 W17) (Zh1 a0 a1 a2 a3 a4 b5 a6 a7 a8 a9 a10 L11 L12 L13 a14 L15 L16 W17) (Zca a0 a1 a2 a3 a4 b5 a6 a7 a8 a9 a10 L11 L12 L13 a14 L15 L16 W17 N) := by
 unfold Zca
 refine Zh (fun g0 => ?_) (fun g0 => ?_)
 ·
  exact fxC (Ze (oq [1]) [] [] [] []) (rg 0 22 []) (Value.agg #[vi a6, vi a7]) (kX (b5) true (by assumption) Zp) (bS (κc a10 L11 L12 L13) <| bS (hpC a14 3 L15.length 4 L16.length 5 W17) <| bQ <| bR <| bR <| Zs <| bQ <| bE)
 ·
  refine Zh (fun g1 => ?_) (fun g1 => ?_)
  ·
   exact fxC (Ze (oq [0, 3]) [] [] [] []) (rg 0 22 []) (Value.agg #[vi a6, vi a7]) (hT g1 <| kX (b5) false (Bool.eq_false_iff.2 (by assumption)) Zp) (bS (κc a10 L11 L12 L13) <| bS (hpC a14 3 L15.length 4 L16.length 5 W17) <| bQ <| bR <| bR <| Zs <| bQ <| bE)
  ·
   refine Zh (fun g2 => ?_) (fun _ => Zq)
   refine Zh (fun g3 => ?_) (fun _ => Zq)
   refine Zh (fun g4 => ?_) (fun _ => Zq)
   refine Zh (fun g5 => ?_) (fun _ => Zq)
   exact fxC (Ze (oq [0, 2]) [(0, a4)] [(0, ((Int.tmod a4 (L13.length : Int))).toNat)] [(5, (RA.cel (L13.getD ((Int.tmod a4 (L13.length : Int))).toNat RF.z)))] [(0, .dv)]) (rg 0 22 []) (Value.agg #[vi (L13.getD ((Int.tmod a4 (L13.length : Int))).toNat RF.z).a0, vi (L13.getD ((Int.tmod a4 (L13.length : Int))).toNat RF.z).a1]) (kLn RA L13 (((Int.tmod a4 (L13.length : Int))).toNat) 0 2 <| kB ((Int.tmod a4 (L13.length : Int))).toNat L13.length <| kI (Int.tmod a4 (L13.length : Int)) (Int.ofNat ((Int.tmod a4 (L13.length : Int))).toNat) <| kX (dP (IntKind.i64 = IntKind.i64 ∧ (L13.length : Int) ≠ 0)) true (Za1 ⟨rfl, by omega⟩) <| kX ((IntKind.i64.wrap a4) == a4) true (beq_iff_eq.2 (wrap_i64 ltA)) <| hF g1 <| kX (b5) false (Bool.eq_false_iff.2 (by assumption)) Zp) (bS (κc a10 L11 L12 L13) <| bS (hpC a14 3 L15.length 4 L16.length 5 W17) <| bQ <| bR <| bR <| Zs <| bQ <| bE)

theorem ZjR (a0 a1 a2 a3 a4 : Int) (b5 : Bool) (a6 a7 a8 a9 a10 : Int) (L11 : List RI) (L12 : List Int) (L13 : List RF) (a14 : Int) (L15 : List RG) (L16 : List RF) (W17 : Nat → List Int) (N : Nat) (r : ZbJ) (h : Zca a0 a1 a2 a3 a4 b5 a6 a7 a8 a9 a10 L11 L12 L13 a14 L15 L16 W17 N = some r) : LSpec Try.prog 26 #[vp 0 0, Value.agg (κk a0 a1 a2 a3 a4 b5 a6 a7 a8 a9)] (.cells (κc a10 L11 L12 L13) 37 :: .cells (hpC a14 3 L15.length 4 L16.length 5 W17) 67 :: .cells (Za RA L13) 41 true :: .cells (Za RB L15) 50 :: .cells (Za RA L16) 41 :: hpP W17 []) (ZhU a0 a1 a2 a3 a4 b5 a6 a7 a8 a9 a10 L11 L12 L13 a14 L15 L16 W17 r) (Zh1 a0 a1 a2 a3 a4 b5 a6 a7 a8 a9 a10 L11 L12 L13 a14 L15 L16 W17 r) :=
 ZaK Zr Try.func26 (by kernel_rfl) (by kernel_rfl) (fun r => by cases r <;> exact ZH _ rfl) (Zlw a0 a1 a2 a3 a4 b5 a6 a7 a8 a9 a10 L11 L12 L13 a14 L15 L16 W17 N) h

noncomputable abbrev κt (ks : List Nat) (a10 : Int) (L11 : List RI) (L12 : List Int) (L13 : List RF) (a14 : Int) (L15 : List RG) (L16 : List RF) (W17 : Nat → List Int) := (((nth ks 0), AObj.cells [vp (nth ks 1) 0, vi a10, ms RD L11, ms eI L12, vs (nth ks 2) 0 L13.length L13.length] 37) :: ((nth ks 1), AObj.cells (Zhs a14 (nth ks 3) L15.length (nth ks 4) L16.length (ZdN ks 5 17) W17) 67) :: ((nth ks 2), AObj.cells (Za RA L13) 41 true) :: ((nth ks 3), AObj.cells (Za RB L15) 50) :: ((nth ks 4), AObj.cells (Za RA L16) 41) :: hpK (ZdN ks 5 17) W17 [])
noncomputable def Zk {a0 : Int} {a1 : Int} {a2 : Int} {a3 : Int} {a4 : Int} {b5 : Bool} {a6 : Int} {a7 : Int} {a8 : Int} {a9 : Int} {a10 : Int} {L11 : List RI} {L12 : List Int} {L13 : List RF} {a14 : Int} {L15 : List RG} {L16 : List RF} {W17 : Nat → List Int} {w20 : Int} {w21 : Int} {N : Nat} (h : Zca a0 a1 a2 a3 a4 b5 a6 a7 a8 a9 a10 L11 L12 L13 a14 L15 L16 W17 N = some (.r0 w20 w21)) (ks : List Nat) (n : Nat) : ToldS := ⟨#[vp (nth ks 0) 0, Value.agg (κk a0 a1 a2 a3 a4 b5 a6 a7 a8 a9)], (κt ks a10 L11 L12 L13 a14 L15 L16 W17), Value.agg #[vi w20, vi w21], [], 0⟩

theorem Zmp {a0 : Int} {a1 : Int} {a2 : Int} {a3 : Int} {a4 : Int} {b5 : Bool} {a6 : Int} {a7 : Int} {a8 : Int} {a9 : Int} {a10 : Int} {L11 : List RI} {L12 : List Int} {L13 : List RF} {a14 : Int} {L15 : List RG} {L16 : List RF} {W17 : Nat → List Int} {w20 : Int} {w21 : Int} {N : Nat} (h : Zca a0 a1 a2 a3 a4 b5 a6 a7 a8 a9 a10 L11 L12 L13 a14 L15 L16 W17 N = some (.r0 w20 w21)) (ks : List Nat) (n : Nat) (hk : ks.length = 22 := by rfl) (hnd : ks.Nodup := by decide +kernel) (hlt : ∀ k ∈ ks, k < n := by decide +kernel) : (Zk (N := N)  h ks n).P Try.prog 26 n :=
 match ks, hk, hnd, hlt with
 | [k0, k1, k2, k3, k4, k5, k6, k7, k8, k9, k10, k11, k12, k13, k14, k15, k16, k17, k18, k19, k20, k21], _, hnd, hlt => Zad (show LSpec Try.prog 26 #[vp 0 0, Value.agg (κk a0 a1 a2 a3 a4 b5 a6 a7 a8 a9)] (.cells (κc a10 L11 L12 L13) 37 :: .cells (hpC a14 3 L15.length 4 L16.length 5 W17) 67 :: .cells (Za RA L13) 41 true :: .cells (Za RB L15) 50 :: .cells (Za RA L16) 41 :: hpP W17 []) (Value.agg #[vi w20, vi w21]) (some (.cells (κc a10 L11 L12 L13) 37) :: some (.cells (hpC a14 3 L15.length 4 L16.length 5 W17) 67) :: some (.cells (Za RA L13) 41 true) :: some (.cells (Za RB L15) 50) :: some (.cells (Za RA L16) 41) :: hpO W17 []) from ZjR a0 a1 a2 a3 a4 b5 a6 a7 a8 a9 a10 L11 L12 L13 a14 L15 L16 W17 N _ h) _ n [] hnd hlt

end Ev
end Go.Proofs.Ytomkpfibofpkbaa
namespace Go.Proofs.Ytomkpfibofpkbaa
open Go.IntKind (i64)
open Go.RowKit
namespace Ev
set_option linter.unusedVariables false
set_option maxRecDepth 100000
set_option maxHeartbeats 4000000
noncomputable def Zg5 (a0 a1 a2 a3 a4 a5 a6 : Int) (L7 : List RG) (L8 : List RF) (W9 : Nat → List Int) : ZaE → Value
 | .r0 w1 => vtt
noncomputable def Zgk (a0 a1 a2 a3 a4 a5 a6 : Int) (L7 : List RG) (L8 : List RF) (W9 : Nat → List Int) : ZaE → List (Option AObj)
 | .r0 w1 => (some (.cells (hpC a6 1 L7.length 2 w1.length 3 W9) 67) :: some (.cells (κg L7 a0 a1 a2 a3 a4 a5) 50) :: some (.cells (Za RA w1) 41) :: hpO W9 [])

def ZkH : ZT → Nat
 | .h1m0 v1 v21 => 1
noncomputable def Zlx (a0 a1 a2 a3 a4 a5 a6 : Int) (L7 : List RG) (L8 : List RF) (W9 : Nat → List Int) : ZT → List (Nat × Value)
 | .h1m0 v1 v21 => [(0, vp 0 0), (1, vi a0), (5, vp 20 0), (13, vi a2), (14, vi (v21 : Int))]
noncomputable def Zly (a0 a1 a2 a3 a4 a5 a6 : Int) (L7 : List RG) (L8 : List RF) (W9 : Nat → List Int) : ZT → List (Option AObj)
 | .h1m0 v1 v21 => (some (.cells (hpC a6 1 L7.length 2 v1.length 3 W9) 67) :: some (.cells (κg L7 a0 a1 a2 a3 a4 a5) 50) :: some (.cells (Za RA v1) 41) :: hpO W9 [some (.cells [vi a1, vi a2, vi a3, vi a4, vi a5] 50)])

noncomputable def ZbM : Nat → Code × List ZaO
 | 1 => Zc4 [1, 1, 1, 3] (Zep Try.f50) []
 | _ => (.skip, [])
def Zgl : Nat → Bool
 | 1 => true
 | _ => true
noncomputable def Zg6 (i : Nat) : List ZaO := match Zgl i with | true => .rnd i :: (ZbM i).2 | false => (ZbM i).2

noncomputable def ZbN (a0 a1 a2 a3 a4 a5 a6 : Int) (L7 : List RG) (L8 : List RF) (W9 : Nat → List Int) (N : Nat) : Mach := ⟨Try.f50, (.cells (hpC a6 1 L7.length 2 L8.length 3 W9) 67 :: .cells (Za RB L7) 50 :: .cells (Za RA L8) 41 :: hpP W9 []), ZT, ZaE, Zbl a0 a1 a2 a3 a4 a5 a6 L7 L8 W9 N, ZkH, ZbM, Zgl, Zlx a0 a1 a2 a3 a4 a5 a6 L7 L8 W9, Zly a0 a1 a2 a3 a4 a5 a6 L7 L8 W9, Zg5 a0 a1 a2 a3 a4 a5 a6 L7 L8 W9, Zgk a0 a1 a2 a3 a4 a5 a6 L7 L8 W9⟩

theorem Zis (a0 a1 a2 a3 a4 a5 a6 : Int) (L7 : List RG) (L8 : List RF) (W9 : Nat → List Int) (v1 : List RF) (v21 N : Nat) : (ZbN a0 a1 a2 a3 a4 a5 a6 L7 L8 W9 N).Ok Try.prog Z7 (.h1m0 v1 v21 : ZT) (Zbl a0 a1 a2 a3 a4 a5 a6 L7 L8 W9 N (.h1m0 v1 v21 : ZT)) := by
 show (ZbN a0 a1 a2 a3 a4 a5 a6 L7 L8 W9 N).Ok Try.prog Z7 (.h1m0 v1 v21 : ZT) (Zbc a0 a1 a2 a3 a4 a5 a6 L7 L8 W9 N v1 v21)
 unfold Zbc
 refine Mach.ok_ite (fun g0 => ?_) (fun g0 => ?_)
 ·
  refine Mach.ok_ite (fun g1 => ?_) (fun _ => Mach.ok_none)
  have w2 := kX ((i64.wrap (((BitVec.ofInt i64.bits (a3 / (2 ^ v21 : Int)) &&& BitVec.ofInt i64.bits (1 : Int)).toNat : Nat) : Int)) == ((a3 / (2 ^ v21 : Int)) % (2 : Int))) true (beq_iff_eq.2 (ZnB _)) <| kS (v21 : Int) v21 .i64 <| hY g0 Zp
  refine Mach.ok_ite (fun g2 => ?_) (fun g2 => ?_)
  ·
   refine Mach.ok_ite (fun g3 => ?_) (fun _ => Mach.ok_none)
   refine Mach.ok_ite (fun g4 => ?_) (fun _ => Mach.ok_none)
   exact Mach.okN (Ze (oq [1, 3]) [(1, ((a3 / (2 ^ v21 : Int)) % (2 : Int))), (3, (((v21 + 1) : Nat) : Int))] [(0, ((i64.wrap (a0 + (v21 : Int)))).toNat)] [] [(0, .sh v21), (2, .st (Za RA (v1.set ((i64.wrap (a0 + (v21 : Int)))).toNat (⟨(2 : Int), (0 : Int)⟩ : RF))))]) (rg 0 21 []) [some (vp 0 0), some (vi a0), some (vp 20 0), some (vi a2), some (vi (((v21 + 1) : Nat) : Int))] (kW ((v21 : Int) + (1 : Int)) (((v21 + 1) : Nat) : Int) <| kC (Za8 (E := RA) (L := v1) (i := ((i64.wrap (a0 + (v21 : Int)))).toNat) (q := 0) (l := [vi (2 : Int), vq]) (⟨(2 : Int), (0 : Int)⟩ : RF) (by omega) (show (0 + (((i64.wrap (a0 + (v21 : Int)))).toNat * 2)) = ((i64.wrap (a0 + (v21 : Int)))).toNat * 2 + 0 from by omega) (show 0 + 2 ≤ 2 from by decide) rfl) <| kB ((i64.wrap (a0 + (v21 : Int)))).toNat v1.length <| kI (i64.wrap (a0 + (v21 : Int))) (Int.ofNat ((i64.wrap (a0 + (v21 : Int)))).toNat) <| hT g2 w2) (tC (tC (tC (tC (tC (tE)))))) (bU (hpC a6 1 L7.length 2 v1.length 3 W9) 2 (show (vs 2 0 v1.length v1.length : Value) = vs 2 0 (v1.set ((i64.wrap (a0 + (v21 : Int)))).toNat (⟨(2 : Int), (0 : Int)⟩ : RF)).length (v1.set ((i64.wrap (a0 + (v21 : Int)))).toNat (⟨(2 : Int), (0 : Int)⟩ : RF)).length from Zo rfl eqA eqA) <| bR <| bR <| Zs <| bQ <| bS [vi a1, vi a2, vi a3, vi a4, vi a5] <| bE) (show 1 ∈ ZC (Zg6 1) from by decide +kernel)
  ·
   refine Mach.ok_ite (fun g3 => ?_) (fun _ => Mach.ok_none)
   refine Mach.ok_ite (fun g4 => ?_) (fun _ => Mach.ok_none)
   exact Mach.okN (Ze (oq [1, 2]) [(1, ((a3 / (2 ^ v21 : Int)) % (2 : Int))), (3, (((v21 + 1) : Nat) : Int))] [(0, ((i64.wrap (a0 + (v21 : Int)))).toNat)] [] [(0, .sh v21), (2, .st (Za RA (v1.set ((i64.wrap (a0 + (v21 : Int)))).toNat (⟨(1 : Int), (0 : Int)⟩ : RF))))]) (rg 0 21 []) [some (vp 0 0), some (vi a0), some (vp 20 0), some (vi a2), some (vi (((v21 + 1) : Nat) : Int))] (kW ((v21 : Int) + (1 : Int)) (((v21 + 1) : Nat) : Int) <| kC (Za8 (E := RA) (L := v1) (i := ((i64.wrap (a0 + (v21 : Int)))).toNat) (q := 0) (l := [vi (1 : Int), vq]) (⟨(1 : Int), (0 : Int)⟩ : RF) (by omega) (show (0 + (((i64.wrap (a0 + (v21 : Int)))).toNat * 2)) = ((i64.wrap (a0 + (v21 : Int)))).toNat * 2 + 0 from by omega) (show 0 + 2 ≤ 2 from by decide) rfl) <| kB ((i64.wrap (a0 + (v21 : Int)))).toNat v1.length <| kI (i64.wrap (a0 + (v21 : Int))) (Int.ofNat ((i64.wrap (a0 + (v21 : Int)))).toNat) <| hF g2 w2) (tC (tC (tC (tC (tC (tE)))))) (bU (hpC a6 1 L7.length 2 v1.length 3 W9) 2 (show (vs 2 0 v1.length v1.length : Value) = vs 2 0 (v1.set ((i64.wrap (a0 + (v21 : Int)))).toNat (⟨(1 : Int), (0 : Int)⟩ : RF)).length (v1.set ((i64.wrap (a0 + (v21 : Int)))).toNat (⟨(1 : Int), (0 : Int)⟩ : RF)).length from Zo rfl eqA eqA) <| bR <| bR <| Zs <| bQ <| bS [vi a1, vi a2, vi a3, vi a4, vi a5] <| bE) (show 1 ∈ ZC (Zg6 1) from by decide +kernel)
 ·
  exact Mach.okF (Ze (oq [0]) [] [] [] []) (rg 0 20 []) (vtt) (hN g0 Zp) (bS (hpC a6 1 L7.length 2 v1.length 3 W9) <| bR <| bR <| Zs <| bQ <| bE)

theorem ZjS (a0 a1 a2 a3 a4 a5 a6 : Int) (L7 : List RG) (L8 : List RF) (W9 : Nat → List Int) (N : Nat) : (ZbN a0 a1 a2 a3 a4 a5 a6 L7 L8 W9 N).Enter Try.prog Z7 #[vp 0 0, vi a0, Value.agg #[vi a1, vi a2, vi a3, vi a4, vi a5]] (Zdj a0 a1 a2 a3 a4 a5 a6 L7 L8 W9 N) := by
 unfold Zdj
 refine Mach.en_ite (fun g0 => ?_) (fun _ => Mach.en_none)
 refine Mach.en_ite (fun g1 => ?_) (fun _ => Mach.en_none)
 exact Mach.en_head (bK := ZbM 1) (M := ZbN a0 a1 a2 a3 a4 a5 a6 L7 L8 W9 N) (cd := 1000000) (cm := 0) (y := (.h1m0 (L8) (0) : ZT)) (fu := 4000) (orc := (Ze (oq []) [] [(0, ((i64.wrap (a0 - (1 : Int)))).toNat)] [] [(0, .st (κg L7 a0 a1 a2 a3 a4 a5))])) (live := (rg 0 21 [])) (tv := [some (vp 0 0), some (vi a0), some (vp 20 0), some (vi a2), some (vq)]) (bl := (some (.cells (hpC a6 1 L7.length 2 L8.length 3 W9) 67) :: some (.cells (κg L7 a0 a1 a2 a3 a4 a5) 50) :: some (.cells (Za RA L8) 41) :: hpO W9 [some (.cells [vi a1, vi a2, vi a3, vi a4, vi a5] 50)])) rfl rfl (show ZC (ZbM 1).2 = [] from rfl) (by kernel_rfl) (kC (Za8 (E := RB) (L := L7) (i := ((i64.wrap (a0 - (1 : Int)))).toNat) (q := 0) (l := [vi a1, vi a2, vi a3, vi a4, vi a5]) (⟨a1, a2, a3, a4, a5⟩ : RG) (by omega) (show (0 + (((i64.wrap (a0 - (1 : Int)))).toNat * 5)) = ((i64.wrap (a0 - (1 : Int)))).toNat * 5 + 0 from by omega) (show 0 + 5 ≤ 5 from by decide) rfl) <| kB ((i64.wrap (a0 - (1 : Int)))).toNat L7.length <| kI (i64.wrap (a0 - (1 : Int))) (Int.ofNat ((i64.wrap (a0 - (1 : Int)))).toNat) Zp) rfl (by decide +kernel) (by rfl) ⟨rr, ⟨rr, ⟨rr, ⟨rr, ⟨⟨Eq.trans (show κG = vq from (congrArg (Value.int .i64) (by first | rfl | omega))) (by rfl), by rfl⟩, trivial⟩⟩⟩⟩⟩ ⟨sm, ⟨(Zal (E := RB) (α := RG) _ (L7.set ((i64.wrap (a0 - (1 : Int)))).toNat (⟨a1, a2, a3, a4, a5⟩ : RG)) _), ⟨(Zal (E := RA) (α := RF) _ L8 _), (hpS (⟨sm, trivial⟩))⟩⟩⟩

theorem ZiR (a0 a1 a2 a3 a4 a5 a6 : Int) (L7 : List RG) (L8 : List RF) (W9 : Nat → List Int) (N : Nat) (r : ZaE) (h : Zbg a0 a1 a2 a3 a4 a5 a6 L7 L8 W9 N = some r) : LSpec Try.prog 50 #[vp 0 0, vi a0, Value.agg #[vi a1, vi a2, vi a3, vi a4, vi a5]] (.cells (hpC a6 1 L7.length 2 L8.length 3 W9) 67 :: .cells (Za RB L7) 50 :: .cells (Za RA L8) 41 :: hpP W9 []) (Zg5 a0 a1 a2 a3 a4 a5 a6 L7 L8 W9 r) (Zgk a0 a1 a2 a3 a4 a5 a6 L7 L8 W9 r) :=
 Mach.spec Zr (ZbN a0 a1 a2 a3 a4 a5 a6 L7 L8 W9 N) Try.func50 (by kernel_rfl) (by kernel_rfl) (fun x => by cases x <;> exact ZH _ rfl) (fun r => by cases r <;> exact ZH _ rfl) (fun x => by
  cases x with
  | h1m0 _ _ => exact fun _ => (show ¬ (1 ∈ ZC (ZbM 1).2) from by decide +kernel)
  ) (fun x => (show (ZbN a0 a1 a2 a3 a4 a5 a6 L7 L8 W9 N).Ok Try.prog Z7 x (Zbl a0 a1 a2 a3 a4 a5 a6 L7 L8 W9 N x) from by
  cases x with
  | h1m0 v1 v21 => exact Zis a0 a1 a2 a3 a4 a5 a6 L7 L8 W9 v1 v21 N
  )) (ZjS a0 a1 a2 a3 a4 a5 a6 L7 L8 W9 N) (n := N) h

noncomputable def Ze0 {a0 : Int} {a1 : Int} {a2 : Int} {a3 : Int} {a4 : Int} {a5 : Int} {a6 : Int} {L7 : List RG} {L8 : List RF} {W9 : Nat → List Int} {w1 : List RF} {N : Nat} (h : Zbg a0 a1 a2 a3 a4 a5 a6 L7 L8 W9 N = some (.r0 w1)) (ks : List Nat) (n : Nat) : ToldS := ⟨#[vp (nth ks 0) 0, vi a0, Value.agg #[vi a1, vi a2, vi a3, vi a4, vi a5]], (((nth ks 0), .cells (Zhs a6 (nth ks 1) L7.length (nth ks 2) L8.length (ZdN ks 3 17) W9) 67) :: ((nth ks 1), .cells (Za RB L7) 50) :: ((nth ks 2), .cells (Za RA L8) 41) :: hpK (ZdN ks 3 17) W9 []), vtt, [((nth ks 0), some (.cells (Zhs a6 (nth ks 1) L7.length (nth ks 2) w1.length (ZdN ks 3 17) W9) 67)), ((nth ks 1), some (.cells (κg L7 a0 a1 a2 a3 a4 a5) 50)), ((nth ks 2), some (.cells (Za RA w1) 41))], 0⟩

theorem Zgm {a0 : Int} {a1 : Int} {a2 : Int} {a3 : Int} {a4 : Int} {a5 : Int} {a6 : Int} {L7 : List RG} {L8 : List RF} {W9 : Nat → List Int} {w1 : List RF} {N : Nat} (h : Zbg a0 a1 a2 a3 a4 a5 a6 L7 L8 W9 N = some (.r0 w1)) (ks : List Nat) (n : Nat) (hk : ks.length = 20 := by rfl) (hnd : ks.Nodup := by decide +kernel) (hlt : ∀ k ∈ ks, k < n := by decide +kernel) : (Ze0 (N := N)  h ks n).P Try.prog 50 n :=
 match ks, hk, hnd, hlt with
 | [k0, k1, k2, k3, k4, k5, k6, k7, k8, k9, k10, k11, k12, k13, k14, k15, k16, k17, k18, k19], _, hnd, hlt => Zad (show LSpec Try.prog 50 #[vp 0 0, vi a0, Value.agg #[vi a1, vi a2, vi a3, vi a4, vi a5]] (.cells (hpC a6 1 L7.length 2 L8.length 3 W9) 67 :: .cells (Za RB L7) 50 :: .cells (Za RA L8) 41 :: hpP W9 []) (vtt) (some (.cells (hpC a6 1 L7.length 2 w1.length 3 W9) 67) :: some (.cells (κg L7 a0 a1 a2 a3 a4 a5) 50) :: some (.cells (Za RA w1) 41) :: hpO W9 []) from ZiR a0 a1 a2 a3 a4 a5 a6 L7 L8 W9 N _ h) _ n [0, 1, 2] hnd hlt

noncomputable def Zov (a0 a1 : Int) : Zdk → Value
 | .r0 w0 w1 w2 => Value.tuple #[Value.agg #[vi w0, vi w1], vi w2]
noncomputable def Znk (a0 a1 : Int) : Zdk → List (Option AObj)
 | .r0 w0 w1 w2 => []

noncomputable abbrev κC := (Value.tuple #[Value.agg #[vq, vq], vi (1 : Int)])
theorem ZqP (a0 a1 : Int) (N : Nat) : Fx Try.prog Z7 Try.f44 [] #[vi a0, vi a1] (Zov a0 a1) (Znk a0 a1) (Zb4 a0 a1 N) := by
 unfold Zb4
 refine Zh (fun g0 => ?_) (fun g0 => ?_)
 ·
  refine Zh (fun g1 => ?_) (fun g1 => ?_)
  ·
   refine Zh (fun g2 => ?_) (fun g2 => ?_)
   ·
    refine Zh (fun g3 => ?_) (fun g3 => ?_)
    ·
     exact fxC (Ze (oq [1, 3, 5, 7]) [(0, (a0 * (1048576 : Int))), (1, ((a0 * (1048576 : Int)) + a1))] [] [] []) [] (Value.tuple #[Value.agg #[vi (2 : Int), vi ((a0 * (1048576 : Int)) + a1)], vq]) (kW ((a0 * (1048576 : Int)) + a1) ((a0 * (1048576 : Int)) + a1) <| kW (a0 * (1048576 : Int)) (a0 * (1048576 : Int)) <| hY g3 <| kY (a1 ≥ (1 : Int)) <| hY g1 <| kY (a0 ≥ (1 : Int)) Zp) bE
    ·
     exact fxC (Ze (oq [1, 3, 5, 6]) [] [] [] []) [] κC (hN g3 <| kY (a1 ≥ (1 : Int)) <| hY g1 <| kY (a0 ≥ (1 : Int)) Zp) bE
   ·
    exact fxC (Ze (oq [1, 3, 4]) [] [] [] []) [] κC (kN (a1 ≥ (1 : Int)) <| hY g1 <| kY (a0 ≥ (1 : Int)) Zp) bE
  ·
   exact fxC (Ze (oq [1, 2]) [] [] [] []) [] κC (hN g1 <| kY (a0 ≥ (1 : Int)) Zp) bE
 ·
  exact fxC (Ze (oq [0]) [] [] [] []) [] κC (kN (a0 ≥ (1 : Int)) Zp) bE

theorem ZoA (a0 a1 : Int) (N : Nat) (r : Zdk) (h : Zb4 a0 a1 N = some r) : LSpec Try.prog 44 #[vi a0, vi a1] [] (Zov a0 a1 r) (Znk a0 a1 r) :=
 ZaK Zr Try.func44 (by kernel_rfl) (by kernel_rfl) (fun r => by cases r <;> exact ZH _ rfl) (ZqP a0 a1 N) h

noncomputable def ZeE {a0 : Int} {a1 : Int} {w0 : Int} {w1 : Int} {w2 : Int} {N : Nat} (h : Zb4 a0 a1 N = some (.r0 w0 w1 w2)) (ks : List Nat) (n : Nat) : ToldS := ⟨#[vi a0, vi a1], [], Value.tuple #[Value.agg #[vi w0, vi w1], vi w2], [], 0⟩

theorem Zf5 {a0 : Int} {a1 : Int} {w0 : Int} {w1 : Int} {w2 : Int} {N : Nat} (h : Zb4 a0 a1 N = some (.r0 w0 w1 w2)) (ks : List Nat) (n : Nat) (hk : ks.length = 0 := by rfl) (hnd : ks.Nodup := by decide +kernel) (hlt : ∀ k ∈ ks, k < n := by decide +kernel) : (ZeE (N := N)  h ks n).P Try.prog 44 n :=
 match ks, hk, hnd, hlt with
 | [], _, hnd, hlt => Zad (show LSpec Try.prog 44 #[vi a0, vi a1] [] (Value.tuple #[Value.agg #[vi w0, vi w1], vi w2]) [] from ZoA a0 a1 N _ h) _ n [] hnd hlt

set_option linter.unusedVariables false
set_option maxRecDepth 100000
set_option maxHeartbeats 4000000
noncomputable def Zg7 (a0 a1 a2 a3 a4 a5 : Int) (L6 : List RG) (L7 : List RF) (W8 : Nat → List Int) : Zc5 → Value
 | .r0 w20 => vi (((L6.length + 1) : Nat) : Int)
noncomputable abbrev κz (L6 : List RG) (a1 : Int) (a0 : Int) (a2 : Int) (a3 : Int) (a4 : Int) := (AObj.cells (Za RB ((L6 ++ (List.replicate ((i64.wrap (a1 + (1 : Int)))).toNat (⟨(0 : Int), (0 : Int), (0 : Int), (0 : Int), (0 : Int)⟩ : RG))).set ((i64.wrap ((((L6.length + 1) : Nat) : Int) - (1 : Int)))).toNat (⟨a0, a1, a2, a3, a4⟩ : RG))) 50)
noncomputable def Zgn (a0 a1 a2 a3 a4 a5 : Int) (L6 : List RG) (L7 : List RF) (W8 : Nat → List Int) : Zc5 → List (Option AObj)
 | .r0 w20 => (some (.cells (hpC a5 20 (L6.length + ((i64.wrap (a1 + (1 : Int)))).toNat) 21 w20.length 3 W8) 67) :: none :: none :: hpO W8 [some (κz L6 a1 a0 a2 a3 a4), some (.cells (Za RA w20) 41)])

noncomputable abbrev κI (L6 : List RG) (a1 : Int) := (Za RB (L6 ++ (List.replicate ((i64.wrap (a1 + (1 : Int)))).toNat (⟨(0 : Int), (0 : Int), (0 : Int), (0 : Int), (0 : Int)⟩ : RG))))
noncomputable abbrev κx (a5 : Int) (L6 : List RG) (L7 : List RF) (W8 : Nat → List Int) := (AObj.cells (hpC a5 1 L6.length 2 L7.length 3 W8) 67 :: AObj.cells (Za RB L6) 50 :: AObj.cells (Za RA L7) 41 :: hpP W8 [])
theorem ZjT (a0 a1 a2 a3 a4 a5 : Int) (L6 : List RG) (L7 : List RF) (W8 : Nat → List Int) (N : Nat) : Fx Try.prog Z7 Try.f21 (κx a5 L6 L7 W8) #[vp 0 0, Value.agg #[vi a0, vi a1, vi a2, vi a3, vi a4]] (Zg7 a0 a1 a2 a3 a4 a5 L6 L7 W8) (Zgn a0 a1 a2 a3 a4 a5 L6 L7 W8) (ZaM a0 a1 a2 a3 a4 a5 L6 L7 W8 N) := by
 unfold ZaM
 refine Zh (fun g0 => ?_) (fun _ => Zq)
 refine Zh (fun g1 => ?_) (fun _ => Zq)
 refine Zh (fun g2 => ?_) (fun _ => Zq)
 refine Zh (fun g3 => ?_) (fun _ => Zq)
 refine Zh (fun g4 => ?_) (fun _ => Zq)
 refine Zbb (fun z5 c5 => ?_)
 cases z5 with
 | r0 y5_0 =>
  exact fxC (Ze (oq []) [(0, (((L6.length + 1) : Nat) : Int))] [] [] [(0, .ap ((i64.wrap (a1 + (1 : Int)))).toNat (κj a1) (κI L6 a1)), (2, .ap ((i64.wrap (a1 + (1 : Int)))).toNat (κr a1) (Za RA (L7 ++ (List.replicate ((i64.wrap (a1 + (1 : Int)))).toNat (⟨(0 : Int), (0 : Int)⟩ : RF))))), (4, (Ze0 c5 (0 :: (21 :: (22 :: (rg 3 17 [])))) 23).t)]) (rg 0 20 (21 :: [22])) (vi (((L6.length + 1) : Nat) : Int)) (kKa (Zgm c5 (0 :: (21 :: (22 :: (rg 3 17 [])))) 23) <| kX (dP ((hpC a5 21 (L6.length + ((i64.wrap (a1 + (1 : Int)))).toNat) 22 (L7.length + ((i64.wrap (a1 + (1 : Int)))).toNat) 3 W8) = (hpC a5 21 ((L6 ++ (List.replicate ((i64.wrap (a1 + (1 : Int)))).toNat (⟨(0 : Int), (0 : Int), (0 : Int), (0 : Int), (0 : Int)⟩ : RG))).length) 22 ((L7 ++ (List.replicate ((i64.wrap (a1 + (1 : Int)))).toNat (⟨(0 : Int), (0 : Int)⟩ : RF))).length) 3 W8))) true (Za1 (Zf rfl (Zf (Zo rfl eqA eqA) (Zf (Zo rfl eqA eqA) (Zf rfl (Zf rfl (Zf rfl (Zf rfl (Zf rfl (Zf rfl (Zf rfl (Zf rfl (Zf rfl (Zf rfl (Zf rfl (Zf rfl (Zf rfl (Zf rfl (Zf rfl (Zf rfl (Zf rfl rfl))))))))))))))))))))) <| kR (κI L6 a1) <| kR (Za RA (L7 ++ (List.replicate ((i64.wrap (a1 + (1 : Int)))).toNat (⟨(0 : Int), (0 : Int)⟩ : RF)))) <| kRW W8 <| kX (dP (((i64.wrap (a1 + (1 : Int))) = Int.ofNat ((i64.wrap (a1 + (1 : Int)))).toNat ∧ 0 < ((i64.wrap (a1 + (1 : Int)))).toNat ∧ ((i64.wrap (a1 + (1 : Int)))).toNat ≤ 100000 ∧ 0 < 2 ∧ (κr a1) = Ev.rep [vq, vq] (((i64.wrap (a1 + (1 : Int)))).toNat * 2)) ∧ 0 < ((i64.wrap (a1 + (1 : Int)))).toNat ∧ ((i64.wrap (a1 + (1 : Int)))).toNat ≤ 100000 ∧ L7.length < L7.length + ((i64.wrap (a1 + (1 : Int)))).toNat ∧ L7.length ≤ 100000 ∧ L7.length * 2 ≤ (List.length (Za RA L7)) ∧ List.take (L7.length * 2) (Za RA L7) ++ (κr a1) = (Za RA (L7 ++ (List.replicate ((i64.wrap (a1 + (1 : Int)))).toNat (⟨(0 : Int), (0 : Int)⟩ : RF)))))) true (Za1 ⟨⟨by first | rfl | exact ZiN (by omega), ltA, ltA, by decide, (Zjv (E := RA) (⟨(0 : Int), (0 : Int)⟩ : RF) ((i64.wrap (a1 + (1 : Int)))).toNat (by decide) rfl rfl).symm⟩, ltA, ltA, ltA, by omega, (Zdq (E := RA) (L := L7) (M := (List.replicate ((i64.wrap (a1 + (1 : Int)))).toNat (⟨(0 : Int), (0 : Int)⟩ : RF))) (n := L7.length) (show _ = _ * 2 from rfl) (by omega) (R := (L7 ++ (List.replicate ((i64.wrap (a1 + (1 : Int)))).toNat (⟨(0 : Int), (0 : Int)⟩ : RF)))) (by rw [List.take_of_length_le (by omega)]))⟩) <| kX (dP (((i64.wrap (a1 + (1 : Int))) = Int.ofNat ((i64.wrap (a1 + (1 : Int)))).toNat ∧ 0 < ((i64.wrap (a1 + (1 : Int)))).toNat ∧ ((i64.wrap (a1 + (1 : Int)))).toNat ≤ 100000 ∧ 0 < 5 ∧ (κj a1) = Ev.rep [vq, vq, vq, vq, vq] (((i64.wrap (a1 + (1 : Int)))).toNat * 5)) ∧ 0 < ((i64.wrap (a1 + (1 : Int)))).toNat ∧ ((i64.wrap (a1 + (1 : Int)))).toNat ≤ 100000 ∧ L6.length < L6.length + ((i64.wrap (a1 + (1 : Int)))).toNat ∧ L6.length ≤ 100000 ∧ L6.length * 5 ≤ (List.length (Za RB L6)) ∧ List.take (L6.length * 5) (Za RB L6) ++ (κj a1) = (κI L6 a1))) true (Za1 ⟨⟨by first | rfl | exact ZiN (by omega), ltA, ltA, by decide, (Zjv (E := RB) (⟨(0 : Int), (0 : Int), (0 : Int), (0 : Int), (0 : Int)⟩ : RG) ((i64.wrap (a1 + (1 : Int)))).toNat (by decide) rfl rfl).symm⟩, ltA, ltA, ltA, by omega, (Zdq (E := RB) (L := L6) (M := (List.replicate ((i64.wrap (a1 + (1 : Int)))).toNat (⟨(0 : Int), (0 : Int), (0 : Int), (0 : Int), (0 : Int)⟩ : RG))) (n := L6.length) (show _ = _ * 5 from rfl) (by omega) (R := (L6 ++ (List.replicate ((i64.wrap (a1 + (1 : Int)))).toNat (⟨(0 : Int), (0 : Int), (0 : Int), (0 : Int), (0 : Int)⟩ : RG)))) (by rw [List.take_of_length_le (by omega)]))⟩) <| kW ((L6.length : Int) + (1 : Int)) (((L6.length + 1) : Nat) : Int) Zp) (bU (hpC a5 21 ((L6 ++ (List.replicate ((i64.wrap (a1 + (1 : Int)))).toNat (⟨(0 : Int), (0 : Int), (0 : Int), (0 : Int), (0 : Int)⟩ : RG))).length) 22 y5_0.length 3 W8) 1 (show (vs 20 0 (L6 ++ (List.replicate ((i64.wrap (a1 + (1 : Int)))).toNat (⟨(0 : Int), (0 : Int), (0 : Int), (0 : Int), (0 : Int)⟩ : RG))).length (L6 ++ (List.replicate ((i64.wrap (a1 + (1 : Int)))).toNat (⟨(0 : Int), (0 : Int), (0 : Int), (0 : Int), (0 : Int)⟩ : RG))).length : Value) = vs 20 0 (L6.length + ((i64.wrap (a1 + (1 : Int)))).toNat) (L6.length + ((i64.wrap (a1 + (1 : Int)))).toNat) from Zo rfl eqA eqA) <| bN <| bN <| Zs <| bQ <| bR <| bR <| bE)

theorem ZiS (a0 a1 a2 a3 a4 a5 : Int) (L6 : List RG) (L7 : List RF) (W8 : Nat → List Int) (N : Nat) (r : Zc5) (h : ZaM a0 a1 a2 a3 a4 a5 L6 L7 W8 N = some r) : LSpec Try.prog 21 #[vp 0 0, Value.agg #[vi a0, vi a1, vi a2, vi a3, vi a4]] (κx a5 L6 L7 W8) (Zg7 a0 a1 a2 a3 a4 a5 L6 L7 W8 r) (Zgn a0 a1 a2 a3 a4 a5 L6 L7 W8 r) :=
 ZaK Zr Try.func21 (by kernel_rfl) (by kernel_rfl) (fun r => by cases r <;> exact ZH _ rfl) (ZjT a0 a1 a2 a3 a4 a5 L6 L7 W8 N) h

noncomputable def Zgo {a0 : Int} {a1 : Int} {a2 : Int} {a3 : Int} {a4 : Int} {a5 : Int} {L6 : List RG} {L7 : List RF} {W8 : Nat → List Int} {w20 : List RF} {N : Nat} (h : ZaM a0 a1 a2 a3 a4 a5 L6 L7 W8 N = some (.r0 w20)) (ks : List Nat) (n : Nat) : ToldS := ⟨#[vp (nth ks 0) 0, Value.agg #[vi a0, vi a1, vi a2, vi a3, vi a4]], (((nth ks 0), .cells (Zhs a5 (nth ks 1) L6.length (nth ks 2) L7.length (ZdN ks 3 17) W8) 67) :: ((nth ks 1), .cells (Za RB L6) 50) :: ((nth ks 2), .cells (Za RA L7) 41) :: hpK (ZdN ks 3 17) W8 []), vi (((L6.length + 1) : Nat) : Int), [((nth ks 0), some (.cells [vi a5, vs n 0 (L6.length + ((i64.wrap (a1 + (1 : Int)))).toNat) (L6.length + ((i64.wrap (a1 + (1 : Int)))).toNat), vs (n + 1) 0 w20.length w20.length, vs (nth ks 3) 0 (W8 0).length (W8 0).length, vs (nth ks 4) 0 (W8 1).length (W8 1).length, vs (nth ks 5) 0 (W8 2).length (W8 2).length, vs (nth ks 6) 0 (W8 3).length (W8 3).length, vs (nth ks 7) 0 (W8 4).length (W8 4).length, vs (nth ks 8) 0 (W8 5).length (W8 5).length, vs (nth ks 9) 0 (W8 6).length (W8 6).length, vs (nth ks 10) 0 (W8 7).length (W8 7).length, vs (nth ks 11) 0 (W8 8).length (W8 8).length, vs (nth ks 12) 0 (W8 9).length (W8 9).length, vs (nth ks 13) 0 (W8 10).length (W8 10).length, vs (nth ks 14) 0 (W8 11).length (W8 11).length, vs (nth ks 15) 0 (W8 12).length (W8 12).length, vs (nth ks 16) 0 (W8 13).length (W8 13).length, vs (nth ks 17) 0 (W8 14).length (W8 14).length, vs (nth ks 18) 0 (W8 15).length (W8 15).length, vs (nth ks 19) 0 (W8 16).length (W8 16).length] 67)), ((nth ks 1), none), ((nth ks 2), none), (n, some (κz L6 a1 a0 a2 a3 a4)), ((n + 1), some (.cells (Za RA w20) 41))], 2⟩

theorem ZkI {a0 : Int} {a1 : Int} {a2 : Int} {a3 : Int} {a4 : Int} {a5 : Int} {L6 : List RG} {L7 : List RF} {W8 : Nat → List Int} {w20 : List RF} {N : Nat} (h : ZaM a0 a1 a2 a3 a4 a5 L6 L7 W8 N = some (.r0 w20)) (ks : List Nat) (n : Nat) (hk : ks.length = 20 := by rfl) (hnd : ks.Nodup := by decide +kernel) (hlt : ∀ k ∈ ks, k < n := by decide +kernel) : (Zgo (N := N)  h ks n).P Try.prog 21 n :=
 match ks, hk, hnd, hlt with
 | [k0, k1, k2, k3, k4, k5, k6, k7, k8, k9, k10, k11, k12, k13, k14, k15, k16, k17, k18, k19], _, hnd, hlt => Zad (show LSpec Try.prog 21 #[vp 0 0, Value.agg #[vi a0, vi a1, vi a2, vi a3, vi a4]] (κx a5 L6 L7 W8) (vi (((L6.length + 1) : Nat) : Int)) (some (.cells (hpC a5 20 (L6.length + ((i64.wrap (a1 + (1 : Int)))).toNat) 21 w20.length 3 W8) 67) :: none :: none :: hpO W8 [some (κz L6 a1 a0 a2 a3 a4), some (.cells (Za RA w20) 41)]) from ZiS a0 a1 a2 a3 a4 a5 L6 L7 W8 N _ h) _ n [0, 1, 2, 20, 21] hnd hlt

set_option linter.unusedVariables false
set_option maxRecDepth 100000
set_option maxHeartbeats 4000000
noncomputable def Zh2 (a0 a1 a2 a3 : Int) (L4 : List RG) (L5 : List RF) (W6 : Nat → List Int) : heap_Heap_AllocR → Value
 | .r0 w0 w1 w2 w4 w5 w6 => Value.tuple #[Value.agg #[vi w0, vi w1], vi w2]
noncomputable def Zg8 (a0 a1 a2 a3 : Int) (L4 : List RG) (L5 : List RF) (W6 : Nat → List Int) : heap_Heap_AllocR → List (Option AObj)
 | .r0 w0 w1 w2 w4 w5 w6 => (some (.cells (hpC a3 20 w4.length 21 w5.length 22 w6) 67) :: none :: none :: none :: none :: none :: none :: none :: none :: none :: none :: none :: none :: none :: none :: none :: none :: none :: none :: none :: some (.cells (Za RB w4) 50) :: some (.cells (Za RA w5) 41) :: hpO w6 [])

noncomputable abbrev κf (a3 : Int) (L4 : List RG) (L5 : List RF) (W6 : Nat → List Int) := (AObj.cells (hpC a3 1 L4.length 2 L5.length 3 W6) 67 :: AObj.cells (Za RB L4) 50 :: AObj.cells (Za RA L5) 41 :: hpP W6 [])
theorem ZkJ (a0 a1 a2 a3 : Int) (L4 : List RG) (L5 : List RF) (W6 : Nat → List Int) (N : Nat) : Gx Try.prog 17 (κf a3 L4 L5 W6) #[vp 0 0, vi a0, vi a1, vi a2] (Zh2 a0 a1 a2 a3 L4 L5 W6) (Zg8 a0 a1 a2 a3 L4 L5 W6) (Zao a0 a1 a2 a3 L4 L5 W6 N) := by
 unfold Zao
 refine Zx (fun g0 => ?_) (fun g0 => ?_)
 ·
  have w1 := kY (a3 > (0 : Int)) Zp
  refine Zx (fun g1 => ?_) (fun g1 => ?_)
  ·
   exact gxR Zr 1 (Ze (oq [3, 7]) [] [] [] []) (0 :: (rg 900000001 19 (rg 1 19 []))) κC (hY g1 w1) (bS (hpC a3 1 L4.length 2 L5.length 3 W6) <| ZK <| bN <| bN <| bN <| bR <| bR <| Zs <| bQ <| bE)
  ·
   refine Zx (fun g2 => ?_) (fun g2 => ?_)
   ·
    exact gxR Zr 1 (Ze (oq [3, 6, 9]) [] [] [] []) (0 :: (rg 900000001 19 (rg 1 19 []))) κC (kY (a0 > (16 : Int)) <| hN g1 w1) (bS (hpC a3 1 L4.length 2 L5.length 3 W6) <| ZK <| bN <| bN <| bN <| bR <| bR <| Zs <| bQ <| bE)
   ·
    have w3 := kN (a0 > (16 : Int)) <| hN g1 w1
    refine Zx (fun g3 => ?_) (fun g3 => ?_)
    ·
     exact gxR Zr 1 (Ze (oq [3, 6, 8, 11]) [] [] [] []) (0 :: (rg 900000001 19 (rg 1 19 []))) κC (hY g3 w3) (bS (hpC a3 1 L4.length 2 L5.length 3 W6) <| ZK <| bN <| bN <| bN <| bR <| bR <| Zs <| bQ <| bE)
    ·
     have w4 := kS a0 ((a0).toNat) .i64 <| hN g3 w3
     refine Zx (fun g4 => ?_) (fun g4 => ?_)
     ·
      exact gxR Zr 1 (Ze (oq [3, 6, 8, 10, 13]) [] [] [] [(0, .sh (a0).toNat)]) (0 :: (rg 900000001 19 (rg 1 19 []))) κC (kY (a1 ≥ (i64.wrap ((1 : Int) * (2 ^ (a0).toNat : Int)))) w4) (bS (hpC a3 1 L4.length 2 L5.length 3 W6) <| ZK <| bN <| bN <| bN <| bR <| bR <| Zs <| bQ <| bE)
     ·
      have w5 := kN (a1 ≥ (i64.wrap ((1 : Int) * (2 ^ (a0).toNat : Int)))) w4
      refine Zx (fun g5 => ?_) (fun g5 => ?_)
      ·
       exact gxR Zr 1 (Ze (oq [3, 6, 8, 10, 12, 15]) [] [] [] [(0, .sh (a0).toNat)]) (0 :: (rg 900000001 19 (rg 1 19 []))) κC (hY g5 w5) (bS (hpC a3 1 L4.length 2 L5.length 3 W6) <| ZK <| bN <| bN <| bN <| bR <| bR <| Zs <| bQ <| bE)
      ·
       refine Zx (fun g6 => ?_) (fun g6 => ?_)
       ·
        exact gxR Zr 1 (Ze (oq [3, 6, 8, 10, 12, 14, 17]) [] [] [] [(0, .sh (a0).toNat)]) (0 :: (rg 900000001 19 (rg 1 19 []))) κC (kY (a2 ≥ (64 : Int)) <| hN g5 w5) (bS (hpC a3 1 L4.length 2 L5.length 3 W6) <| ZK <| bN <| bN <| bN <| bR <| bR <| Zs <| bQ <| bE)
       ·
        refine ZsX (fun κ hκ g7 => ?_)
        have w8 := kB κ 17 <| kJ a0 κ <| kN (a2 ≥ (64 : Int)) <| hN g5 w5
        refine Zx (fun g8 => ?_) (fun g8 => ?_)
        ·
         refine Zx (fun g9 => ?_) (fun _ => Zbk)
         refine Zx (fun g10 => ?_) (fun _ => Zbk)
         refine Zx (fun g11 => ?_) (fun _ => Zbk)
         refine Z5 (fun z12 c12 => ?_)
         cases z12 with
         | r0 y12_0 =>
          refine Z5 (fun z13 c13 => ?_)
          cases z13 with
          | r0 y13_0 y13_1 y13_2 =>
           exact Zsk Zr hκ 1 (Ze (oq [3, 6, 8, 10, 12, 14, 16, 19]) [(1, ((((W6 κ).length - 1) : Nat) : Int)), (2, ((((W6 κ).length - 1) : Nat) : Int))] [(0, κ), (1, ((W6 κ).length - 1)), (2, κ), (3, ((iw W6 κ)).toNat)] [(2, [.i (lw W6 κ)]), (4, [.i (hw L4 W6 κ).a0])] [(0, .sh (a0).toNat), (2, .cut ((W6 κ).length - 1) (Za eI (pw W6 κ))), (5, (Ze0 c12 (rg 0 (κ + 3) (22 :: (rg (κ + 4) (16 - κ) []))) 23).t), (6, (ZeE c13 [] 23).t)]) (0 :: (rg 900000001 19 (rg 1 (κ + 2) (22 :: (rg (κ + 4) (16 - κ) []))))) (Value.tuple #[Value.agg #[vi y13_0, vi y13_1], vi y13_2]) (kK (Zf5 c13 [] 23) <| kKa (Zgm c12 (rg 0 (κ + 3) (22 :: (rg (κ + 4) (16 - κ) []))) 23 (by rcases Zdr hκ with rfl | rfl | rfl | rfl | rfl | rfl | rfl | rfl | rfl | rfl | rfl | rfl | rfl | rfl | rfl | rfl | rfl <;> rfl) (by rcases Zdr hκ with rfl | rfl | rfl | rfl | rfl | rfl | rfl | rfl | rfl | rfl | rfl | rfl | rfl | rfl | rfl | rfl | rfl <;> decide) (by rcases Zdr hκ with rfl | rfl | rfl | rfl | rfl | rfl | rfl | rfl | rfl | rfl | rfl | rfl | rfl | rfl | rfl | rfl | rfl <;> decide)) <| kU ((hpC a3 1 L4.length 2 L5.length 3 W6).set (κ + 3) (vs 22 0 (pw W6 κ).length (pw W6 κ).length)) (κ + 3) (show (vs 22 0 ((W6 κ).length - 1) ((W6 κ).length - 1) : Value) = vs 22 0 (pw W6 κ).length (pw W6 κ).length from Zo rfl eqA eqA) <| kR (Za RB L4) <| kR (Za RA L5) <| kRW (uw W6 κ) <| kL RB L4 (((iw W6 κ)).toNat) 0 1 <| kB ((iw W6 κ)).toNat L4.length <| kI (iw W6 κ) (Int.ofNat ((iw W6 κ)).toNat) <| kB κ 17 <| kJ a0 κ <| kX (dP (0 < (W6 κ).length ∧ ((W6 κ).length - 1) ≤ (W6 κ).length ∧ 0 < 1 ∧ (W6 κ).length * 1 ≤ ((Za eI (W6 κ)) : List Value).length ∧ List.take (((W6 κ).length - 1) * 1) (Za eI (W6 κ)) = (Za eI (pw W6 κ)))) true (Za1 ⟨ltA, ltA, by decide, ZsQ (E := eI) (L := (W6 κ)) ltA (show _ = _ * 1 from rfl), ZtI (E := eI) (L := (W6 κ)) (R := (pw W6 κ)) (show _ = _ * 1 from rfl) rfl⟩) <| kI ((((W6 κ).length - 1) : Nat) : Int) (Int.ofNat ((W6 κ).length - 1)) <| kR 0 <| kW ((((W6 κ).length : Nat) : Int) - (1 : Int)) ((((W6 κ).length - 1) : Nat) : Int) <| kLn eI (W6 κ) ((W6 κ).length - 1) 0 1 <| kB ((W6 κ).length - 1) (W6 κ).length <| kI ((((W6 κ).length - 1) : Nat) : Int) (Int.ofNat ((W6 κ).length - 1)) <| kW ((((W6 κ).length : Nat) : Int) - (1 : Int)) ((((W6 κ).length - 1) : Nat) : Int) <| kY ((((W6 κ).length : Nat) : Int) > (0 : Int)) w8) (bUP hκ ((hpC a3 1 L4.length 2 y12_0.length 3 W6).set (κ + 3) (vs 22 0 (pw W6 κ).length (pw W6 κ).length)) 1 (show (vs 20 0 L4.length L4.length : Value) = vs 20 0 (L4.set ((iw W6 κ)).toNat (⟨(i64.wrap ((hw L4 W6 κ).a0 + (1 : Int))), a0, a1, (1 : Int), a2⟩ : RG)).length (L4.set ((iw W6 κ)).toNat (⟨(i64.wrap ((hw L4 W6 κ).a0 + (1 : Int))), a0, a1, (1 : Int), a2⟩ : RG)).length from Zo rfl eqA eqA) <| ZK <| bN <| bN <| bN <| bR <| bR <| Zs <| bQ <| bE)
        ·
         refine Z5 (fun z9 c9 => ?_)
         cases z9 with
         | r0 y9_0 =>
          have w10 := kK (ZdS c9 (rg 0 20 []) 22 (by rcases Zdr hκ with rfl | rfl | rfl | rfl | rfl | rfl | rfl | rfl | rfl | rfl | rfl | rfl | rfl | rfl | rfl | rfl | rfl <;> rfl) (by rcases Zdr hκ with rfl | rfl | rfl | rfl | rfl | rfl | rfl | rfl | rfl | rfl | rfl | rfl | rfl | rfl | rfl | rfl | rfl <;> decide) (by rcases Zdr hκ with rfl | rfl | rfl | rfl | rfl | rfl | rfl | rfl | rfl | rfl | rfl | rfl | rfl | rfl | rfl | rfl | rfl <;> decide)) <| kN ((((W6 κ).length : Nat) : Int) > (0 : Int)) w8
          refine Zx (fun g10 => ?_) (fun g10 => ?_)
          ·
           exact Zsk Zr hκ 1 (Ze (oq [3, 6, 8, 10, 12, 14, 16, 18, 21]) [] [(0, κ)] [] [(0, .sh (a0).toNat), (2, (Zac c9 (rg 0 20 []) 22).t)]) (0 :: (rg 900000001 19 (rg 1 19 []))) (Value.tuple #[Value.agg #[vq, vq], vi (20 : Int)]) (kY ((i64.wrap ((i64.wrap (y9_0 + a0)) + (1 : Int))) > a3) w10) (bSP hκ (hpC a3 1 L4.length 2 L5.length 3 W6) <| ZK <| bN <| bN <| bN <| bR <| bR <| Zs <| bQ <| bE)
          ·
           refine Z5 (fun z11 c11 => ?_)
           cases z11 with
           | r0 y11_0 =>
            refine Z5 (fun z12 c12 => ?_)
            cases z12 with
            | r0 y12_0 y12_1 y12_2 =>
             exact Zsk Zr hκ 1 (Ze (oq [3, 6, 8, 10, 12, 14, 16, 18, 20]) [] [(0, κ)] [] [(0, .sh (a0).toNat), (2, (Zac c9 (rg 0 20 []) 22).t), (3, (Zgo c11 (rg 0 20 []) 22).t), (4, (ZeE c12 [] 24).t)]) (0 :: (rg 900000001 19 (22 :: (23 :: (rg 3 17 []))))) (Value.tuple #[Value.agg #[vi y12_0, vi y12_1], vi y12_2]) (kK (Zf5 c12 [] 24) <| kK (ZkI c11 (rg 0 20 []) 22 (by rcases Zdr hκ with rfl | rfl | rfl | rfl | rfl | rfl | rfl | rfl | rfl | rfl | rfl | rfl | rfl | rfl | rfl | rfl | rfl <;> rfl) (by rcases Zdr hκ with rfl | rfl | rfl | rfl | rfl | rfl | rfl | rfl | rfl | rfl | rfl | rfl | rfl | rfl | rfl | rfl | rfl <;> decide) (by rcases Zdr hκ with rfl | rfl | rfl | rfl | rfl | rfl | rfl | rfl | rfl | rfl | rfl | rfl | rfl | rfl | rfl | rfl | rfl <;> decide)) <| kN ((i64.wrap ((i64.wrap (y9_0 + a0)) + (1 : Int))) > a3) w10) (bUP hκ (hpC a3 22 (L4.length + ((i64.wrap (a0 + (1 : Int)))).toNat) 23 y11_0.length 3 W6) 1 (show (vs 20 0 (L4.length + ((i64.wrap (a0 + (1 : Int)))).toNat) (L4.length + ((i64.wrap (a0 + (1 : Int)))).toNat) : Value) = vs 20 0 ((L4 ++ (List.replicate ((i64.wrap (a0 + (1 : Int)))).toNat (⟨(0 : Int), (0 : Int), (0 : Int), (0 : Int), (0 : Int)⟩ : RG))).set ((i64.wrap ((((L4.length + 1) : Nat) : Int) - (1 : Int)))).toNat (⟨(1 : Int), a0, a1, (1 : Int), a2⟩ : RG)).length ((L4 ++ (List.replicate ((i64.wrap (a0 + (1 : Int)))).toNat (⟨(0 : Int), (0 : Int), (0 : Int), (0 : Int), (0 : Int)⟩ : RG))).set ((i64.wrap ((((L4.length + 1) : Nat) : Int) - (1 : Int)))).toNat (⟨(1 : Int), a0, a1, (1 : Int), a2⟩ : RG)).length from Zo rfl eqA eqA) <| ZK <| bN <| bN <| bN <| bR <| bR <| Zs <| bQ <| bE)
 ·
  exact gxR Zr 1 (Ze (oq [2]) [] [] [] []) (0 :: (rg 900000001 19 (rg 1 19 []))) (Value.tuple #[Value.agg #[vq, vq], vi (4 : Int)]) (kN (a3 > (0 : Int)) Zp) (bS (hpC a3 1 L4.length 2 L5.length 3 W6) <| ZK <| bN <| bN <| bN <| bR <| bR <| Zs <| bQ <| bE)

theorem Zj1 (a0 a1 a2 a3 : Int) (L4 : List RG) (L5 : List RF) (W6 : Nat → List Int) (N : Nat) (r : heap_Heap_AllocR) (h : Zao a0 a1 a2 a3 L4 L5 W6 N = some r) : LSpec Try.prog 17 #[vp 0 0, vi a0, vi a1, vi a2] (κf a3 L4 L5 W6) (Zh2 a0 a1 a2 a3 L4 L5 W6 r) (Zg8 a0 a1 a2 a3 L4 L5 W6 r) :=
 ZkJ a0 a1 a2 a3 L4 L5 W6 N r h

noncomputable abbrev κw (ks : List Nat) (a3 : Int) (L4 : List RG) (L5 : List RF) (W6 : Nat → List Int) := (((nth ks 0), AObj.cells (Zhs a3 (nth ks 1) L4.length (nth ks 2) L5.length (ZdN ks 3 17) W6) 67) :: ((nth ks 1), AObj.cells (Za RB L4) 50) :: ((nth ks 2), AObj.cells (Za RA L5) 41) :: hpK (ZdN ks 3 17) W6 [])
noncomputable def Zt {a0 : Int} {a1 : Int} {a2 : Int} {a3 : Int} {L4 : List RG} {L5 : List RF} {W6 : Nat → List Int} {w0 : Int} {w1 : Int} {w2 : Int} {w4 : List RG} {w5 : List RF} {w6 : Nat → List Int} {N : Nat} (h : Zao a0 a1 a2 a3 L4 L5 W6 N = some (.r0 w0 w1 w2 w4 w5 w6)) (ks : List Nat) (n : Nat) : ToldS := ⟨#[vp (nth ks 0) 0, vi a0, vi a1, vi a2], (κw ks a3 L4 L5 W6), Value.tuple #[Value.agg #[vi w0, vi w1], vi w2], [((nth ks 0), some (.cells [vi a3, vs n 0 w4.length w4.length, vs (n + 1) 0 w5.length w5.length, vs (n + 2) 0 (w6 0).length (w6 0).length, vs (n + 3) 0 (w6 1).length (w6 1).length, vs (n + 4) 0 (w6 2).length (w6 2).length, vs (n + 5) 0 (w6 3).length (w6 3).length, vs (n + 6) 0 (w6 4).length (w6 4).length, vs (n + 7) 0 (w6 5).length (w6 5).length, vs (n + 8) 0 (w6 6).length (w6 6).length, vs (n + 9) 0 (w6 7).length (w6 7).length, vs (n + 10) 0 (w6 8).length (w6 8).length, vs (n + 11) 0 (w6 9).length (w6 9).length, vs (n + 12) 0 (w6 10).length (w6 10).length, vs (n + 13) 0 (w6 11).length (w6 11).length, vs (n + 14) 0 (w6 12).length (w6 12).length, vs (n + 15) 0 (w6 13).length (w6 13).length, vs (n + 16) 0 (w6 14).length (w6 14).length, vs (n + 17) 0 (w6 15).length (w6 15).length, vs (n + 18) 0 (w6 16).length (w6 16).length] 67)), ((nth ks 1), none), ((nth ks 2), none), ((nth ks 3), none), ((nth ks 4), none), ((nth ks 5), none), ((nth ks 6), none), ((nth ks 7), none), ((nth ks 8), none), ((nth ks 9), none), ((nth ks 10), none), ((nth ks 11), none), ((nth ks 12), none), ((nth ks 13), none), ((nth ks 14), none), ((nth ks 15), none), ((nth ks 16), none), ((nth ks 17), none), ((nth ks 18), none), ((nth ks 19), none), (n, some (.cells (Za RB w4) 50)), ((n + 1), some (.cells (Za RA w5) 41)), ((n + 2), some (.cells (Za eI (w6 0)) 3 true)), ((n + 3), some (.cells (Za eI (w6 1)) 3 true)), ((n + 4), some (.cells (Za eI (w6 2)) 3 true)), ((n + 5), some (.cells (Za eI (w6 3)) 3 true)), ((n + 6), some (.cells (Za eI (w6 4)) 3 true)), ((n + 7), some (.cells (Za eI (w6 5)) 3 true)), ((n + 8), some (.cells (Za eI (w6 6)) 3 true)), ((n + 9), some (.cells (Za eI (w6 7)) 3 true)), ((n + 10), some (.cells (Za eI (w6 8)) 3 true)), ((n + 11), some (.cells (Za eI (w6 9)) 3 true)), ((n + 12), some (.cells (Za eI (w6 10)) 3 true)), ((n + 13), some (.cells (Za eI (w6 11)) 3 true)), ((n + 14), some (.cells (Za eI (w6 12)) 3 true)), ((n + 15), some (.cells (Za eI (w6 13)) 3 true)), ((n + 16), some (.cells (Za eI (w6 14)) 3 true)), ((n + 17), some (.cells (Za eI (w6 15)) 3 true)), ((n + 18), some (.cells (Za eI (w6 16)) 3 true))], 19⟩

theorem ZeH {a0 : Int} {a1 : Int} {a2 : Int} {a3 : Int} {L4 : List RG} {L5 : List RF} {W6 : Nat → List Int} {w0 : Int} {w1 : Int} {w2 : Int} {w4 : List RG} {w5 : List RF} {w6 : Nat → List Int} {N : Nat} (h : Zao a0 a1 a2 a3 L4 L5 W6 N = some (.r0 w0 w1 w2 w4 w5 w6)) (ks : List Nat) (n : Nat) (hk : ks.length = 20 := by rfl) (hnd : ks.Nodup := by decide +kernel) (hlt : ∀ k ∈ ks, k < n := by decide +kernel) : (Zt (N := N)  h ks n).P Try.prog 17 n :=
 match ks, hk, hnd, hlt with
 | [k0, k1, k2, k3, k4, k5, k6, k7, k8, k9, k10, k11, k12, k13, k14, k15, k16, k17, k18, k19], _, hnd, hlt => Zad (show LSpec Try.prog 17 #[vp 0 0, vi a0, vi a1, vi a2] (κf a3 L4 L5 W6) (Value.tuple #[Value.agg #[vi w0, vi w1], vi w2]) (some (.cells (hpC a3 20 w4.length 21 w5.length 22 w6) 67) :: none :: none :: none :: none :: none :: none :: none :: none :: none :: none :: none :: none :: none :: none :: none :: none :: none :: none :: none :: some (.cells (Za RB w4) 50) :: some (.cells (Za RA w5) 41) :: hpO w6 []) from Zj1 a0 a1 a2 a3 L4 L5 W6 N _ h) _ n (rg 0 39 []) hnd hlt

noncomputable def ZkK (a0 : Int) (L1 : List RI) (a2 a3 a4 a5 a6 a7 a8 a9 a10 : Int) (L11 : List RF) : ZcG → Value
 | .r0 => Value.agg #[vi a0, vs 0 0 L1.length L1.length, vn]
noncomputable def ZjF (a0 : Int) (L1 : List RI) (a2 a3 a4 a5 a6 a7 a8 a9 a10 : Int) (L11 : List RF) : ZcG → List (Option AObj)
 | .r0 => [some (.cells (Za RD (L1.set (a2).toNat (⟨a3, a4, a5, a6, a7, a8, a9, a10, L11⟩ : RI))) 71)]

noncomputable def ZqQ (a0 : Int) (L1 : List RI) (a2 a3 a4 a5 a6 a7 a8 a9 a10 : Int) (L11 : List RF) : ZcG → Value
 | .r0 => Value.agg #[vi a0, ms RD (L1.set (a2).toNat (⟨a3, a4, a5, a6, a7, a8, a9, a10, L11⟩ : RI)), vn]
noncomputable def Zqi (a0 : Int) (L1 : List RI) (a2 a3 a4 a5 a6 a7 a8 a9 a10 : Int) (L11 : List RF) : ZcG → List (Option AObj)
 | .r0 => []

theorem ZoB (a0 : Int) (L1 : List RI) (a2 a3 a4 a5 a6 a7 a8 a9 a10 : Int) (L11 : List RF) (N : Nat) : Fx Try.prog Z7 Try.f58 [] #[Value.agg #[vi a0, ms RD L1, vn], vi a2, Value.agg #[vi a3, vi a4, vi a5, vi a6, vi a7, vi a8, vi a9, vi a10, ms RA L11]] (ZkK a0 L1 a2 a3 a4 a5 a6 a7 a8 a9 a10 L11) (ZjF a0 L1 a2 a3 a4 a5 a6 a7 a8 a9 a10 L11) (Zdl a0 L1 a2 a3 a4 a5 a6 a7 a8 a9 a10 L11 N) := by
 unfold Zdl
 refine Zh (fun _ => Zq) (fun g0 => ?_)
 refine Zh (fun g1 => ?_) (fun _ => Zq)
 refine Zh (fun g2 => ?_) (fun _ => Zq)
 refine Zh (fun g3 => ?_) (fun _ => Zq)
 exact fxC (Ze (oq []) [] [(0, (a2).toNat)] [] [(0, .ap L1.length (Za RD L1) (Za RD L1)), (1, .st (Za RD (L1.set (a2).toNat (⟨a3, a4, a5, a6, a7, a8, a9, a10, L11⟩ : RI))))]) [4] (Value.agg #[vi a0, vs 4 0 (0 + L1.length) (0 + L1.length), vn]) (kC (Za8 (E := RD) (L := L1) (i := (a2).toNat) (q := 0) (l := [vi a3, vi a4, vi a5, vi a6, vi a7, vi a8, vi a9, vi a10, ms RA L11]) (⟨a3, a4, a5, a6, a7, a8, a9, a10, L11⟩ : RI) (by omega) (show (0 + ((a2).toNat * 9)) = (a2).toNat * 9 + 0 from by omega) (show 0 + 9 ≤ 9 from by decide) rfl) <| kB (a2).toNat (0 + L1.length) <| kI a2 (Int.ofNat (a2).toNat) <| kX (dP ((L1.length = L1.length ∧ ((L1.length * 9 = 0 ∧ (Za RD L1) = []) ∨ ∃ c, L1.length * 9 ≠ 0 ∧ Zam (code (ZW RD L1)) 0 (L1.length * 9) = some c ∧ (Za RD L1) = Zu c)) ∧ 0 < L1.length ∧ L1.length ≤ 100000 ∧ 0 < 0 + L1.length ∧ 0 ≤ 100000 ∧ 0 * 9 ≤ (List.length []) ∧ List.take (0 * 9) [] ++ (Za RD L1) = (Za RD L1))) true (Za1 ⟨⟨rfl, (ZeR (E := RD) (L := L1) (n := L1.length) (size := 9) rfl (by decide) (by omega))⟩, by omega, by omega, ltA, by omega, (Zdq (E := RD) (L := ([] : List RI)) (M := L1) (n := 0) (show _ = _ * 9 from rfl) ltA (R := L1) (by rw [List.take_of_length_le ltA]; rfl))⟩) Zp) (bR <| bE) (hv := ⟨Eq.trans (show (Value.agg #[vi a0, vs 0 0 L1.length L1.length, vn] : Value) = Value.agg #[vi a0, vs 0 0 (0 + L1.length) (0 + L1.length), vn] from (Zci (Zf rfl (Zf (Zo rfl eqA eqA) (Zf rfl rfl))))) (by rfl), by rfl⟩)

theorem Zmq (a0 : Int) (L1 : List RI) (a2 a3 a4 a5 a6 a7 a8 a9 a10 : Int) (L11 : List RF) (N : Nat) (r : ZcG) (h : Zdl a0 L1 a2 a3 a4 a5 a6 a7 a8 a9 a10 L11 N = some r) : LSpec Try.prog 58 #[Value.agg #[vi a0, ms RD L1, vn], vi a2, Value.agg #[vi a3, vi a4, vi a5, vi a6, vi a7, vi a8, vi a9, vi a10, ms RA L11]] [] (ZkK a0 L1 a2 a3 a4 a5 a6 a7 a8 a9 a10 L11 r) (ZjF a0 L1 a2 a3 a4 a5 a6 a7 a8 a9 a10 L11 r) :=
 ZaK Zr Try.func58 (by kernel_rfl) (by kernel_rfl) (fun r => by cases r <;> exact ZH _ rfl) (ZoB a0 L1 a2 a3 a4 a5 a6 a7 a8 a9 a10 L11 N) h

theorem Znl (a0 : Int) (L1 : List RI) (a2 a3 a4 a5 a6 a7 a8 a9 a10 : Int) (L11 : List RF) (N : Nat) (r : ZcG) (h : Zdl a0 L1 a2 a3 a4 a5 a6 a7 a8 a9 a10 L11 N = some r) : LSpec Try.prog 58 #[Value.agg #[vi a0, ms RD L1, vn], vi a2, Value.agg #[vi a3, vi a4, vi a5, vi a6, vi a7, vi a8, vi a9, vi a10, ms RA L11]] [] (ZqQ a0 L1 a2 a3 a4 a5 a6 a7 a8 a9 a10 L11 r) (Zqi a0 L1 a2 a3 a4 a5 a6 a7 a8 a9 a10 L11 r) := by
 have h0 := Zmq a0 L1 a2 a3 a4 a5 a6 a7 a8 a9 a10 L11 N r h
 cases r with
 | r0 => exact (LSpec.frzv (E := RD) (L := (L1.set (a2).toNat (⟨a3, a4, a5, a6, a7, a8, a9, a10, L11⟩ : RI))) (post := []) (v2 := Value.agg #[vi a0, ms RD (L1.set (a2).toNat (⟨a3, a4, a5, a6, a7, a8, a9, a10, L11⟩ : RI)), vn]) h0 (show 0 ≤ 0 from by decide) (show 0 < 1000000000 from by decide) trivial rfl (Zci (Zf rfl (Zf (ZhO eqA eqA) (Zf rfl rfl)))) rfl)

noncomputable def ZkL {a0 : Int} {L1 : List RI} {a2 : Int} {a3 : Int} {a4 : Int} {a5 : Int} {a6 : Int} {a7 : Int} {a8 : Int} {a9 : Int} {a10 : Int} {L11 : List RF} {N : Nat} (h : Zdl a0 L1 a2 a3 a4 a5 a6 a7 a8 a9 a10 L11 N = some (.r0)) (ks : List Nat) (n : Nat) : ToldS := ⟨#[Value.agg #[vi a0, ms RD L1, vn], vi a2, Value.agg #[vi a3, vi a4, vi a5, vi a6, vi a7, vi a8, vi a9, vi a10, ms RA L11]], [], Value.agg #[vi a0, ms RD (L1.set (a2).toNat (⟨a3, a4, a5, a6, a7, a8, a9, a10, L11⟩ : RI)), vn], [], 0⟩

theorem Zqj {a0 : Int} {L1 : List RI} {a2 : Int} {a3 : Int} {a4 : Int} {a5 : Int} {a6 : Int} {a7 : Int} {a8 : Int} {a9 : Int} {a10 : Int} {L11 : List RF} {N : Nat} (h : Zdl a0 L1 a2 a3 a4 a5 a6 a7 a8 a9 a10 L11 N = some (.r0)) (ks : List Nat) (n : Nat) (hk : ks.length = 0 := by rfl) (hnd : ks.Nodup := by decide +kernel) (hlt : ∀ k ∈ ks, k < n := by decide +kernel) : (ZkL (N := N)  h ks n).P Try.prog 58 n :=
 match ks, hk, hnd, hlt with
 | [], _, hnd, hlt => Zad (show LSpec Try.prog 58 #[Value.agg #[vi a0, ms RD L1, vn], vi a2, Value.agg #[vi a3, vi a4, vi a5, vi a6, vi a7, vi a8, vi a9, vi a10, ms RA L11]] [] (Value.agg #[vi a0, ms RD (L1.set (a2).toNat (⟨a3, a4, a5, a6, a7, a8, a9, a10, L11⟩ : RI)), vn]) [] from Znl a0 L1 a2 a3 a4 a5 a6 a7 a8 a9 a10 L11 N _ h) _ n [] hnd hlt

noncomputable def ZiT (a0 : Int) (L1 : List RI) (L2 : List Int) (a3 a4 a5 a6 a7 a8 a9 a10 a11 : Int) (L12 : List RF) : ZbP → Value
 | .r0 => Value.agg #[vi a0, vs 1 0 L1.length L1.length, vs 0 0 L2.length L2.length]
noncomputable def ZhV (a0 : Int) (L1 : List RI) (L2 : List Int) (a3 a4 a5 a6 a7 a8 a9 a10 a11 : Int) (L12 : List RF) : ZbP → List (Option AObj)
 | .r0 => [some (.cells (Za eI L2) 3), some (.cells (Za RD (L1.set (a3).toNat (⟨a4, a5, a6, a7, a8, a9, a10, a11, L12⟩ : RI))) 71)]

noncomputable def ZoC (a0 : Int) (L1 : List RI) (L2 : List Int) (a3 a4 a5 a6 a7 a8 a9 a10 a11 : Int) (L12 : List RF) : ZbP → Value
 | .r0 => Value.agg #[vi a0, ms RD (L1.set (a3).toNat (⟨a4, a5, a6, a7, a8, a9, a10, a11, L12⟩ : RI)), vs 0 0 L2.length L2.length]
noncomputable def ZnJ (a0 : Int) (L1 : List RI) (L2 : List Int) (a3 a4 a5 a6 a7 a8 a9 a10 a11 : Int) (L12 : List RF) : ZbP → List (Option AObj)
 | .r0 => [some (.cells (Za eI L2) 3)]

theorem Znm (a0 : Int) (L1 : List RI) (L2 : List Int) (a3 a4 a5 a6 a7 a8 a9 a10 a11 : Int) (L12 : List RF) (N : Nat) : Fx Try.prog Z7 Try.f58 [.cells (Za eI L2) 3] #[Value.agg #[vi a0, ms RD L1, vs 0 0 L2.length L2.length], vi a3, Value.agg #[vi a4, vi a5, vi a6, vi a7, vi a8, vi a9, vi a10, vi a11, ms RA L12]] (ZiT a0 L1 L2 a3 a4 a5 a6 a7 a8 a9 a10 a11 L12) (ZhV a0 L1 L2 a3 a4 a5 a6 a7 a8 a9 a10 a11 L12) (Zby a0 L1 L2 a3 a4 a5 a6 a7 a8 a9 a10 a11 L12 N) := by
 unfold Zby
 refine Zh (fun _ => Zq) (fun g0 => ?_)
 refine Zh (fun g1 => ?_) (fun _ => Zq)
 refine Zh (fun g2 => ?_) (fun _ => Zq)
 refine Zh (fun g3 => ?_) (fun _ => Zq)
 exact fxC (Ze (oq []) [] [(0, (a3).toNat)] [] [(0, .ap L1.length (Za RD L1) (Za RD L1)), (1, .st (Za RD (L1.set (a3).toNat (⟨a4, a5, a6, a7, a8, a9, a10, a11, L12⟩ : RI))))]) [0, 5] (Value.agg #[vi a0, vs 5 0 (0 + L1.length) (0 + L1.length), vs 0 0 L2.length L2.length]) (kC (Za8 (E := RD) (L := L1) (i := (a3).toNat) (q := 0) (l := [vi a4, vi a5, vi a6, vi a7, vi a8, vi a9, vi a10, vi a11, ms RA L12]) (⟨a4, a5, a6, a7, a8, a9, a10, a11, L12⟩ : RI) (by omega) (show (0 + ((a3).toNat * 9)) = (a3).toNat * 9 + 0 from by omega) (show 0 + 9 ≤ 9 from by decide) rfl) <| kB (a3).toNat (0 + L1.length) <| kI a3 (Int.ofNat (a3).toNat) <| kX (dP ((L1.length = L1.length ∧ ((L1.length * 9 = 0 ∧ (Za RD L1) = []) ∨ ∃ c, L1.length * 9 ≠ 0 ∧ Zam (code (ZW RD L1)) 0 (L1.length * 9) = some c ∧ (Za RD L1) = Zu c)) ∧ 0 < L1.length ∧ L1.length ≤ 100000 ∧ 0 < 0 + L1.length ∧ 0 ≤ 100000 ∧ 0 * 9 ≤ (List.length []) ∧ List.take (0 * 9) [] ++ (Za RD L1) = (Za RD L1))) true (Za1 ⟨⟨rfl, (ZeR (E := RD) (L := L1) (n := L1.length) (size := 9) rfl (by decide) (by omega))⟩, by omega, by omega, ltA, by omega, (Zdq (E := RD) (L := ([] : List RI)) (M := L1) (n := 0) (show _ = _ * 9 from rfl) ltA (R := L1) (by rw [List.take_of_length_le ltA]; rfl))⟩) Zp) (bR <| bR <| bE) (hv := ⟨Eq.trans (show (Value.agg #[vi a0, vs 1 0 L1.length L1.length, vs 0 0 L2.length L2.length] : Value) = Value.agg #[vi a0, vs 1 0 (0 + L1.length) (0 + L1.length), vs 0 0 L2.length L2.length] from (Zci (Zf rfl (Zf (Zo rfl eqA eqA) (Zf rfl rfl))))) (by rfl), by rfl⟩)

theorem ZkM (a0 : Int) (L1 : List RI) (L2 : List Int) (a3 a4 a5 a6 a7 a8 a9 a10 a11 : Int) (L12 : List RF) (N : Nat) (r : ZbP) (h : Zby a0 L1 L2 a3 a4 a5 a6 a7 a8 a9 a10 a11 L12 N = some r) : LSpec Try.prog 58 #[Value.agg #[vi a0, ms RD L1, vs 0 0 L2.length L2.length], vi a3, Value.agg #[vi a4, vi a5, vi a6, vi a7, vi a8, vi a9, vi a10, vi a11, ms RA L12]] [.cells (Za eI L2) 3] (ZiT a0 L1 L2 a3 a4 a5 a6 a7 a8 a9 a10 a11 L12 r) (ZhV a0 L1 L2 a3 a4 a5 a6 a7 a8 a9 a10 a11 L12 r) :=
 ZaK Zr Try.func58 (by kernel_rfl) (by kernel_rfl) (fun r => by cases r <;> exact ZH _ rfl) (Znm a0 L1 L2 a3 a4 a5 a6 a7 a8 a9 a10 a11 L12 N) h

theorem Zlz (a0 : Int) (L1 : List RI) (L2 : List Int) (a3 a4 a5 a6 a7 a8 a9 a10 a11 : Int) (L12 : List RF) (N : Nat) (r : ZbP) (h : Zby a0 L1 L2 a3 a4 a5 a6 a7 a8 a9 a10 a11 L12 N = some r) : LSpec Try.prog 58 #[Value.agg #[vi a0, ms RD L1, vs 0 0 L2.length L2.length], vi a3, Value.agg #[vi a4, vi a5, vi a6, vi a7, vi a8, vi a9, vi a10, vi a11, ms RA L12]] [.cells (Za eI L2) 3] (ZoC a0 L1 L2 a3 a4 a5 a6 a7 a8 a9 a10 a11 L12 r) (ZnJ a0 L1 L2 a3 a4 a5 a6 a7 a8 a9 a10 a11 L12 r) := by
 have h0 := ZkM a0 L1 L2 a3 a4 a5 a6 a7 a8 a9 a10 a11 L12 N r h
 cases r with
 | r0 => exact (LSpec.frzv (E := RD) (L := (L1.set (a3).toNat (⟨a4, a5, a6, a7, a8, a9, a10, a11, L12⟩ : RI))) (post := [some (.cells (Za eI L2) 3)]) (v2 := Value.agg #[vi a0, ms RD (L1.set (a3).toNat (⟨a4, a5, a6, a7, a8, a9, a10, a11, L12⟩ : RI)), vs 0 0 L2.length L2.length]) h0 (show 1 ≤ 1 from by decide) (show 1 < 1000000000 from by decide) ⟨(Zae _ _ _), trivial⟩ rfl (Zci (Zf rfl (Zf (ZhO eqA eqA) (Zf rfl rfl)))) rfl)

noncomputable def ZeF {a0 : Int} {L1 : List RI} {L2 : List Int} {a3 : Int} {a4 : Int} {a5 : Int} {a6 : Int} {a7 : Int} {a8 : Int} {a9 : Int} {a10 : Int} {a11 : Int} {L12 : List RF} {N : Nat} (h : Zby a0 L1 L2 a3 a4 a5 a6 a7 a8 a9 a10 a11 L12 N = some (.r0)) (ks : List Nat) (n : Nat) : ToldS := ⟨#[Value.agg #[vi a0, ms RD L1, vs (nth ks 0) 0 L2.length L2.length], vi a3, Value.agg #[vi a4, vi a5, vi a6, vi a7, vi a8, vi a9, vi a10, vi a11, ms RA L12]], [((nth ks 0), .cells (Za eI L2) 3)], Value.agg #[vi a0, ms RD (L1.set (a3).toNat (⟨a4, a5, a6, a7, a8, a9, a10, a11, L12⟩ : RI)), vs (nth ks 0) 0 L2.length L2.length], [], 0⟩

theorem ZfQ {a0 : Int} {L1 : List RI} {L2 : List Int} {a3 : Int} {a4 : Int} {a5 : Int} {a6 : Int} {a7 : Int} {a8 : Int} {a9 : Int} {a10 : Int} {a11 : Int} {L12 : List RF} {N : Nat} (h : Zby a0 L1 L2 a3 a4 a5 a6 a7 a8 a9 a10 a11 L12 N = some (.r0)) (ks : List Nat) (n : Nat) (hk : ks.length = 1 := by rfl) (hnd : ks.Nodup := by decide +kernel) (hlt : ∀ k ∈ ks, k < n := by decide +kernel) : (ZeF (N := N)  h ks n).P Try.prog 58 n :=
 match ks, hk, hnd, hlt with
 | [k0], _, hnd, hlt => Zad (show LSpec Try.prog 58 #[Value.agg #[vi a0, ms RD L1, vs 0 0 L2.length L2.length], vi a3, Value.agg #[vi a4, vi a5, vi a6, vi a7, vi a8, vi a9, vi a10, vi a11, ms RA L12]] [.cells (Za eI L2) 3] (Value.agg #[vi a0, ms RD (L1.set (a3).toNat (⟨a4, a5, a6, a7, a8, a9, a10, a11, L12⟩ : RI)), vs 0 0 L2.length L2.length]) [some (.cells (Za eI L2) 3)] from Zlz a0 L1 L2 a3 a4 a5 a6 a7 a8 a9 a10 a11 L12 N _ h) _ n [] hnd hlt

noncomputable def ZlN (a0 : Int) (L1 : List RI) (L2 : List Int) : Zcg → Value
 | .r0 w0 => vi w0
noncomputable def ZkN (a0 : Int) (L1 : List RI) (L2 : List Int) : Zcg → List (Option AObj)
 | .r0 w0 => []

def Zqk : ZaG → Nat
 | .h1m0 v0 v1 => 1
noncomputable def ZqR (a0 : Int) (L1 : List RI) (L2 : List Int) : ZaG → List (Nat × Value)
 | .h1m0 v0 v1 => [(1, vp 0 0), (3, vi v0), (4, vi (v1 : Int))]
noncomputable def ZqS (a0 : Int) (L1 : List RI) (L2 : List Int) : ZaG → List (Option AObj)
 | .h1m0 v0 v1 => [some (.cells [vi a0, ms RD L1, ms eI L2] 30)]

noncomputable def Zed : Nat → Code × List ZaO
 | 1 => Zc4 [1, 1, 0, 1, 3] (Zep Try.f39) []
 | _ => (.skip, [])
def ZkO : Nat → Bool
 | 1 => true
 | _ => true
noncomputable def ZqT (i : Nat) : List ZaO := match ZkO i with | true => .rnd i :: (Zed i).2 | false => (Zed i).2

noncomputable def Zee (a0 : Int) (L1 : List RI) (L2 : List Int) (N : Nat) : Mach := ⟨Try.f39, [], ZaG, Zcg, ZcL a0 L1 L2 N, Zqk, Zed, ZkO, ZqR a0 L1 L2, ZqS a0 L1 L2, ZlN a0 L1 L2, ZkN a0 L1 L2⟩

theorem Zmr (a0 : Int) (L1 : List RI) (L2 : List Int) (v0 : Int) (v1 N : Nat) : (Zee a0 L1 L2 N).Ok Try.prog Z7 (.h1m0 v0 v1 : ZaG) (ZcL a0 L1 L2 N (.h1m0 v0 v1 : ZaG)) := by
 show (Zee a0 L1 L2 N).Ok Try.prog Z7 (.h1m0 v0 v1 : ZaG) (Zcs a0 L1 L2 N v0 v1)
 unfold Zcs
 refine Mach.ok_ite (fun g0 => ?_) (fun g0 => ?_)
 ·
  refine Mach.ok_ite (fun g1 => ?_) (fun _ => Mach.ok_none)
  exact Mach.okN (Ze (oq [1]) [(2, (((v1 + 1) : Nat) : Int))] [(0, v1)] [(2, [.i (L1.getD v1 RI.z).a4])] []) [0] [some (vp 0 0), some (vi (i64.wrap ((i64.wrap (v0 + (1 : Int))) + (L1.getD v1 RI.z).a4))), some (vi (((v1 + 1) : Nat) : Int))] (kW ((v1 : Int) + (1 : Int)) (((v1 + 1) : Nat) : Int) <| kG RD L1 ((((0 + (v1 * 9)) + 1) + 2) + 1) v1 4 1 9 <| kB v1 L1.length <| kI (v1 : Int) (Int.ofNat v1) <| hY g0 Zp) (tC (tC (tC (tE)))) (bS [vi a0, ms RD L1, ms eI L2] <| bE) (show 1 ∈ ZC (ZqT 1) from by decide +kernel)
 ·
  exact Mach.okF (Ze (oq [0]) [] [] [] []) [] (vi v0) (hN g0 Zp) bE

noncomputable abbrev κb (a0 : Int) (L1 : List RI) (L2 : List Int) := #[vi a0, ms RD L1, ms eI L2]
theorem ZoD (a0 : Int) (L1 : List RI) (L2 : List Int) (N : Nat) : (Zee a0 L1 L2 N).Enter Try.prog Z7 #[Value.agg (κb a0 L1 L2)] (Zht a0 L1 L2 N) := by
 unfold Zht
 exact Mach.en_head (bK := Zed 1) (M := Zee a0 L1 L2 N) (cd := 1000000) (cm := 0) (y := (.h1m0 ((0 : Int)) (0) : ZaG)) (fu := 4000) (orc := (Ze (oq []) [] [] [] [])) (live := [0]) (tv := [some (vp 0 0), some (vq), some (vq)]) (bl := [some (.cells [vi a0, ms RD L1, ms eI L2] 30)]) rfl rfl (show ZC (Zed 1).2 = [] from rfl) (by kernel_rfl) Zp rfl (by decide +kernel) (by rfl) ⟨rr, ⟨rr, ⟨⟨Eq.trans (show κG = vq from (congrArg (Value.int .i64) (by first | rfl | omega))) (by rfl), by rfl⟩, trivial⟩⟩⟩ ⟨sm, trivial⟩

theorem Znn (a0 : Int) (L1 : List RI) (L2 : List Int) (N : Nat) (r : Zcg) (h : ZeD a0 L1 L2 N = some r) : LSpec Try.prog 39 #[Value.agg (κb a0 L1 L2)] [] (ZlN a0 L1 L2 r) (ZkN a0 L1 L2 r) :=
 Mach.spec Zr (Zee a0 L1 L2 N) Try.func39 (by kernel_rfl) (by kernel_rfl) (fun x => by cases x <;> exact ZH _ rfl) (fun r => by cases r <;> exact ZH _ rfl) (fun x => by
  cases x with
  | h1m0 _ _ => exact fun _ => (show ¬ (1 ∈ ZC (Zed 1).2) from by decide +kernel)
  ) (fun x => (show (Zee a0 L1 L2 N).Ok Try.prog Z7 x (ZcL a0 L1 L2 N x) from by
  cases x with
  | h1m0 v0 v1 => exact Zmr a0 L1 L2 v0 v1 N
  )) (ZoD a0 L1 L2 N) (n := N) h

noncomputable def Zf6 {a0 : Int} {L1 : List RI} {L2 : List Int} {w0 : Int} {N : Nat} (h : ZeD a0 L1 L2 N = some (.r0 w0)) (ks : List Nat) (n : Nat) : ToldS := ⟨#[Value.agg (κb a0 L1 L2)], [], vi w0, [], 0⟩

theorem Zql {a0 : Int} {L1 : List RI} {L2 : List Int} {w0 : Int} {N : Nat} (h : ZeD a0 L1 L2 N = some (.r0 w0)) (ks : List Nat) (n : Nat) (hk : ks.length = 0 := by rfl) (hnd : ks.Nodup := by decide +kernel) (hlt : ∀ k ∈ ks, k < n := by decide +kernel) : (Zf6 (N := N)  h ks n).P Try.prog 39 n :=
 match ks, hk, hnd, hlt with
 | [], _, hnd, hlt => Zad (show LSpec Try.prog 39 #[Value.agg (κb a0 L1 L2)] [] (vi w0) [] from Znn a0 L1 L2 N _ h) _ n [] hnd hlt

set_option linter.unusedVariables false
set_option maxRecDepth 100000
set_option maxHeartbeats 4000000
noncomputable def ZjG (a0 : Int) (L1 : List RI) (L2 : List Int) (a3 a4 a5 : Int) : ZD → Value
 | .r0 w5 => Value.tuple #[Value.agg (κb a0 L1 L2), Value.agg #[vq, vq], vi w5]
 | .r1 w1 w2 w3 => Value.tuple #[Value.agg #[vi a0, ms RD w1, vn], Value.agg #[vi w2, vi w3], vq]
 | .r2 w1 w2 w3 w4 => Value.tuple #[Value.agg #[vi a0, ms RD w1, vs 0 0 w2.length w2.length], Value.agg #[vi w3, vi w4], vq]
 | .r3 w1 w3 w4 => Value.tuple #[Value.agg #[vi a0, vs 0 0 w1.length w1.length, ms eI L2], Value.agg #[vi w3, vi w4], vq]
noncomputable def ZiU (a0 : Int) (L1 : List RI) (L2 : List Int) (a3 a4 a5 : Int) : ZD → List (Option AObj)
 | .r0 w5 => []
 | .r1 w1 w2 w3 => []
 | .r2 w1 w2 w3 w4 => [some (.cells (Za eI w2) 3)]
 | .r3 w1 w3 w4 => [some (.cells (Za RD w1) 71)]

noncomputable def Zqm (a0 : Int) (L1 : List RI) (L2 : List Int) (a3 a4 a5 : Int) : ZD → Value
 | .r0 w5 => Value.tuple #[Value.agg (κb a0 L1 L2), Value.agg #[vq, vq], vi w5]
 | .r1 w1 w2 w3 => Value.tuple #[Value.agg #[vi a0, ms RD w1, ms eI ([] : List Int)], Value.agg #[vi w2, vi w3], vq]
 | .r2 w1 w2 w3 w4 => Value.tuple #[Value.agg #[vi a0, ms RD w1, ms eI w2], Value.agg #[vi w3, vi w4], vq]
 | .r3 w1 w3 w4 => Value.tuple #[Value.agg #[vi a0, ms RD w1, ms eI L2], Value.agg #[vi w3, vi w4], vq]
noncomputable def ZoE (a0 : Int) (L1 : List RI) (L2 : List Int) (a3 a4 a5 : Int) : ZD → List (Option AObj)
 | .r0 w5 => []
 | .r1 w1 w2 w3 => []
 | .r2 w1 w2 w3 w4 => []
 | .r3 w1 w3 w4 => []

def ZoF : Za3 → Nat
 | .h1m0 v3 => 1
noncomputable def Zqn (a0 : Int) (L1 : List RI) (L2 : List Int) (a3 a4 a5 : Int) : Za3 → List (Nat × Value)
 | .h1m0 v3 => [(1, vi a3), (2, vi a4), (3, vi a5), (4, vp 0 0), (8, vp 1 0), (9, vp 2 0), (11, vi v3)]
noncomputable def Zqo (a0 : Int) (L1 : List RI) (L2 : List Int) (a3 a4 a5 : Int) : Za3 → List (Option AObj)
 | .h1m0 v3 => [some (.cells [vi a0, ms RD L1, ms eI L2] 30), some (.cells [vq, vn, vn] 30), some (.cells [vq, vq] 41)]

noncomputable def Zd6 : Nat → Code × List ZaO
 | 1 => Zc4 [1, 1, 0, 1, 3] (Zep Try.f27) []
 | _ => (.skip, [])
def ZjH : Nat → Bool
 | 1 => true
 | _ => true
noncomputable def Zqp (i : Nat) : List ZaO := match ZjH i with | true => .rnd i :: (Zd6 i).2 | false => (Zd6 i).2

noncomputable def Zd7 (a0 : Int) (L1 : List RI) (L2 : List Int) (a3 a4 a5 : Int) (N : Nat) : Mach := ⟨Try.f27, [], Za3, ZD, ZaH a0 L1 L2 a3 a4 a5 N, ZoF, Zd6, ZjH, Zqn a0 L1 L2 a3 a4 a5, Zqo a0 L1 L2 a3 a4 a5, ZjG a0 L1 L2 a3 a4 a5, ZiU a0 L1 L2 a3 a4 a5⟩

noncomputable abbrev κs (L2 : List Int) (v3 : Int) := (Za eI ((L2.drop ((v3 + (1 : Int))).toNat).take (L2.length - ((v3 + (1 : Int))).toNat)))
theorem Zl0 (a0 : Int) (L1 : List RI) (L2 : List Int) (a3 a4 a5 v3 : Int) (N : Nat) : (Zd7 a0 L1 L2 a3 a4 a5 N).Ok Try.prog Z7 (.h1m0 v3 : Za3) (ZaH a0 L1 L2 a3 a4 a5 N (.h1m0 v3 : Za3)) := by
 show (Zd7 a0 L1 L2 a3 a4 a5 N).Ok Try.prog Z7 (.h1m0 v3 : Za3) (Za9 a0 L1 L2 a3 a4 a5 N v3)
 unfold Za9
 refine Mach.ok_ite (fun g0 => ?_) (fun g0 => ?_)
 ·
  refine Mach.ok_ite (fun g1 => ?_) (fun _ => Mach.ok_none)
  have w2 := kG eI L2 (0 + ((v3).toNat * 1)) ((v3).toNat) 0 1 1 <| kB (v3).toNat L2.length <| kI v3 (Int.ofNat (v3).toNat) <| kY (v3 ≥ (0 : Int)) Zp
  refine Mach.ok_ite (fun g2 => ?_) (fun _ => Mach.ok_none)
  refine Mach.ok_ite (fun g3 => ?_) (fun _ => Mach.ok_none)
  have w4 := kG RD L1 (0 + (((L2.getD (v3).toNat 0)).toNat * 9)) (((L2.getD (v3).toNat 0)).toNat) 0 9 9 <| kB ((L2.getD (v3).toNat 0)).toNat L1.length <| kI (L2.getD (v3).toNat 0) (Int.ofNat ((L2.getD (v3).toNat 0)).toNat) w2
  refine Mach.ok_ite (fun g4 => ?_) (fun g4 => ?_)
  ·
   exact Mach.okN (Ze (oq [1, 3]) [] [(0, (v3).toNat), (1, ((L2.getD (v3).toNat 0)).toNat)] [(1, [.i (L2.getD (v3).toNat 0)]), (3, (RD.cel (L1.getD ((L2.getD (v3).toNat 0)).toNat RI.z)))] []) [0, 1, 2] [some (vi a3), some (vi a4), some (vi a5), some (vp 0 0), some (vp 1 0), some (vp 2 0), some (vi (i64.wrap (v3 - (1 : Int))))] (hD g4 w4) (tC (tC (tC (tC (tC (tC (tC (tE)))))))) (bS [vi a0, ms RD L1, ms eI L2] <| bS [vq, vn, vn] <| bS [vq, vq] <| bE) (show 1 ∈ ZC (Zqp 1) from by decide +kernel)
  ·
   have w5 := kC (Zsi (E := eI) (L := L2) (R := (L2.take (v3).toNat)) (l := 0) (h := (v3).toNat) (size := 1) ltA ltA (by decide) (by simp)) <| kI v3 (Int.ofNat (v3).toNat) <| kR 0 <| kE ((L1.getD ((L2.getD (v3).toNat 0)).toNat RI.z).a4) a3 w4
   refine Mach.ok_ite (fun g5 => ?_) (fun g5 => ?_)
   ·
    have w6 := kC (Zsi (E := eI) (L := L2) (R := ((L2.drop ((v3 + (1 : Int))).toNat).take (L2.length - ((v3 + (1 : Int))).toNat))) (l := ((v3 + (1 : Int))).toNat) (h := L2.length) (size := 1) ltA ltA (by decide) (by simp)) <| kR L2.length <| kI (v3 + (1 : Int)) (Int.ofNat ((v3 + (1 : Int))).toNat) <| kW (v3 + (1 : Int)) (v3 + (1 : Int)) <| kX (dP (0 = (L2.take (v3).toNat).length ∧ (((L2.take (v3).toNat).length * 1 = 0 ∧ ([] : List Value) = []) ∨ ∃ c, (L2.take (v3).toNat).length * 1 ≠ 0 ∧ Zam (code (ZW eI (L2.take (v3).toNat))) 0 ((L2.take (v3).toNat).length * 1) = some c ∧ ([] : List Value) = Zu c))) true (Za1 ⟨by omega, .inl ⟨by omega, rfl⟩⟩) w5
    refine Mach.ok_ite (fun g6 => ?_) (fun g6 => ?_)
    ·
     refine Mach.ok_bind (fun z7 c7 => ?_)
     cases z7 with
     | r0 y7_0 y7_1 =>
      refine Mach.ok_bind (fun z8 c8 => ?_)
      cases z8 with
      | r0 =>
       exact Mach.ok_none
      | r1 y8_0 =>
       refine Mach.ok_bind (fun z9 c9 => ?_)
       cases z9 with
       | r0 =>
        exact Mach.okF (Ze (oq [1, 2]) [(0, (v3 + (1 : Int)))] [(0, (v3).toNat), (1, ((L2.getD (v3).toNat 0)).toNat)] [(1, [.i (L2.getD (v3).toNat 0)]), (3, (RD.cel (L1.getD ((L2.getD (v3).toNat 0)).toNat RI.z)))] [(1, .ms 0 (v3).toNat (L2.take (v3).toNat).length (ZW eI (L2.take (v3).toNat))), (2, .ap0), (3, .ms ((v3 + (1 : Int))).toNat L2.length ((L2.drop ((v3 + (1 : Int))).toNat).take (L2.length - ((v3 + (1 : Int))).toNat)).length (ZW eI ((L2.drop ((v3 + (1 : Int))).toNat).take (L2.length - ((v3 + (1 : Int))).toNat)))), (4, .ap0), (6, (ZbT c7 [] 5).t), (7, (ZbU c8 [] 5).t), (10, (ZkL c9 [] 5).t)]) [] (Value.tuple #[Value.agg #[vi a0, ms RD (L1.set ((L2.getD (v3).toNat 0)).toNat (⟨(L1.getD ((L2.getD (v3).toNat 0)).toNat RI.z).a0, y7_0, y7_1, (i64.wrap ((L1.getD ((L2.getD (v3).toNat 0)).toNat RI.z).a3 + (1 : Int))), a3, a4, (1 : Int), a5, y8_0⟩ : RI)), vn], Value.agg #[vi y7_0, vi y7_1], vq]) (kK (Zqj c9 [] 5) <| kK (Zc0 c8 [] 5) <| kK (ZcX c7 [] 5) <| kX (dP (0 = ((L2.drop ((v3 + (1 : Int))).toNat).take (L2.length - ((v3 + (1 : Int))).toNat)).length ∧ ((((L2.drop ((v3 + (1 : Int))).toNat).take (L2.length - ((v3 + (1 : Int))).toNat)).length * 1 = 0 ∧ ([] : List Value) = []) ∨ ∃ c, ((L2.drop ((v3 + (1 : Int))).toNat).take (L2.length - ((v3 + (1 : Int))).toNat)).length * 1 ≠ 0 ∧ Zam (code (ZW eI ((L2.drop ((v3 + (1 : Int))).toNat).take (L2.length - ((v3 + (1 : Int))).toNat)))) 0 (((L2.drop ((v3 + (1 : Int))).toNat).take (L2.length - ((v3 + (1 : Int))).toNat)).length * 1) = some c ∧ ([] : List Value) = Zu c))) true (Za1 ⟨by omega, .inl ⟨by omega, rfl⟩⟩) w6) bE
    ·
     refine Mach.ok_ite (fun g7 => ?_) (fun _ => Mach.ok_none)
     refine Mach.ok_bind (fun z8 c8 => ?_)
     cases z8 with
     | r0 y8_0 y8_1 =>
      refine Mach.ok_bind (fun z9 c9 => ?_)
      cases z9 with
      | r0 =>
       exact Mach.ok_none
      | r1 y9_0 =>
       refine Mach.ok_bind (fun z10 c10 => ?_)
       cases z10 with
       | r0 =>
        exact Mach.okF (Ze (oq [1, 2]) [(0, (v3 + (1 : Int)))] [(0, (v3).toNat), (1, ((L2.getD (v3).toNat 0)).toNat)] [(1, [.i (L2.getD (v3).toNat 0)]), (3, (RD.cel (L1.getD ((L2.getD (v3).toNat 0)).toNat RI.z)))] [(1, .ms 0 (v3).toNat (L2.take (v3).toNat).length (ZW eI (L2.take (v3).toNat))), (2, .ap0), (3, .ms ((v3 + (1 : Int))).toNat L2.length ((L2.drop ((v3 + (1 : Int))).toNat).take (L2.length - ((v3 + (1 : Int))).toNat)).length (ZW eI ((L2.drop ((v3 + (1 : Int))).toNat).take (L2.length - ((v3 + (1 : Int))).toNat)))), (4, .ap ((L2.drop ((v3 + (1 : Int))).toNat).take (L2.length - ((v3 + (1 : Int))).toNat)).length (κs L2 v3) (κs L2 v3)), (6, (ZbT c8 [] 6).t), (7, (ZbU c9 [] 6).t), (10, (ZeF c10 [4] 6).t)]) [4] (Value.tuple #[Value.agg #[vi a0, ms RD (L1.set ((L2.getD (v3).toNat 0)).toNat (⟨(L1.getD ((L2.getD (v3).toNat 0)).toNat RI.z).a0, y8_0, y8_1, (i64.wrap ((L1.getD ((L2.getD (v3).toNat 0)).toNat RI.z).a3 + (1 : Int))), a3, a4, (1 : Int), a5, y9_0⟩ : RI)), vs 4 0 ((L2.drop ((v3 + (1 : Int))).toNat).take (L2.length - ((v3 + (1 : Int))).toNat)).length ((L2.drop ((v3 + (1 : Int))).toNat).take (L2.length - ((v3 + (1 : Int))).toNat)).length], Value.agg #[vi y8_0, vi y8_1], vq]) (kK (ZfQ c10 [4] 6) <| kK (Zc0 c9 [] 6) <| kK (ZcX c8 [] 6) <| kX (dP ((((L2.drop ((v3 + (1 : Int))).toNat).take (L2.length - ((v3 + (1 : Int))).toNat)).length = ((L2.drop ((v3 + (1 : Int))).toNat).take (L2.length - ((v3 + (1 : Int))).toNat)).length ∧ ((((L2.drop ((v3 + (1 : Int))).toNat).take (L2.length - ((v3 + (1 : Int))).toNat)).length * 1 = 0 ∧ (κs L2 v3) = []) ∨ ∃ c, ((L2.drop ((v3 + (1 : Int))).toNat).take (L2.length - ((v3 + (1 : Int))).toNat)).length * 1 ≠ 0 ∧ Zam (code (ZW eI ((L2.drop ((v3 + (1 : Int))).toNat).take (L2.length - ((v3 + (1 : Int))).toNat)))) 0 (((L2.drop ((v3 + (1 : Int))).toNat).take (L2.length - ((v3 + (1 : Int))).toNat)).length * 1) = some c ∧ (κs L2 v3) = Zu c)) ∧ 0 < ((L2.drop ((v3 + (1 : Int))).toNat).take (L2.length - ((v3 + (1 : Int))).toNat)).length ∧ ((L2.drop ((v3 + (1 : Int))).toNat).take (L2.length - ((v3 + (1 : Int))).toNat)).length ≤ 100000 ∧ (κs L2 v3) = (κs L2 v3))) true (Za1 ⟨⟨rfl, (ZeR (E := eI) (L := ((L2.drop ((v3 + (1 : Int))).toNat).take (L2.length - ((v3 + (1 : Int))).toNat))) (n := ((L2.drop ((v3 + (1 : Int))).toNat).take (L2.length - ((v3 + (1 : Int))).toNat)).length) (size := 1) rfl (by decide) (by omega))⟩, by omega, by omega, rfl⟩) w6) (bR <| bE)
   ·
    refine Mach.ok_ite (fun g6 => ?_) (fun _ => Mach.ok_none)
    have w7 := kC (Zsi (E := eI) (L := L2) (R := ((L2.drop ((v3 + (1 : Int))).toNat).take (L2.length - ((v3 + (1 : Int))).toNat))) (l := ((v3 + (1 : Int))).toNat) (h := L2.length) (size := 1) ltA ltA (by decide) (by simp)) <| kR L2.length <| kI (v3 + (1 : Int)) (Int.ofNat ((v3 + (1 : Int))).toNat) <| kW (v3 + (1 : Int)) (v3 + (1 : Int)) <| kX (dP (((L2.take (v3).toNat).length = (L2.take (v3).toNat).length ∧ (((L2.take (v3).toNat).length * 1 = 0 ∧ (Za eI (L2.take (v3).toNat)) = []) ∨ ∃ c, (L2.take (v3).toNat).length * 1 ≠ 0 ∧ Zam (code (ZW eI (L2.take (v3).toNat))) 0 ((L2.take (v3).toNat).length * 1) = some c ∧ (Za eI (L2.take (v3).toNat)) = Zu c)) ∧ 0 < (L2.take (v3).toNat).length ∧ (L2.take (v3).toNat).length ≤ 100000 ∧ (Za eI (L2.take (v3).toNat)) = (Za eI (L2.take (v3).toNat)))) true (Za1 ⟨⟨rfl, (ZeR (E := eI) (L := (L2.take (v3).toNat)) (n := (L2.take (v3).toNat).length) (size := 1) rfl (by decide) (by omega))⟩, by omega, by omega, rfl⟩) w5
    refine Mach.ok_ite (fun g7 => ?_) (fun g7 => ?_)
    ·
     refine Mach.ok_bind (fun z8 c8 => ?_)
     cases z8 with
     | r0 y8_0 y8_1 =>
      refine Mach.ok_bind (fun z9 c9 => ?_)
      cases z9 with
      | r0 =>
       exact Mach.ok_none
      | r1 y9_0 =>
       refine Mach.ok_bind (fun z10 c10 => ?_)
       cases z10 with
       | r0 =>
        exact Mach.okF (Ze (oq [1, 2]) [(0, (v3 + (1 : Int)))] [(0, (v3).toNat), (1, ((L2.getD (v3).toNat 0)).toNat)] [(1, [.i (L2.getD (v3).toNat 0)]), (3, (RD.cel (L1.getD ((L2.getD (v3).toNat 0)).toNat RI.z)))] [(1, .ms 0 (v3).toNat (L2.take (v3).toNat).length (ZW eI (L2.take (v3).toNat))), (2, .ap (L2.take (v3).toNat).length (Za eI (L2.take (v3).toNat)) (Za eI (L2.take (v3).toNat))), (3, .ms ((v3 + (1 : Int))).toNat L2.length ((L2.drop ((v3 + (1 : Int))).toNat).take (L2.length - ((v3 + (1 : Int))).toNat)).length (ZW eI ((L2.drop ((v3 + (1 : Int))).toNat).take (L2.length - ((v3 + (1 : Int))).toNat)))), (4, .ap0), (6, (ZbT c8 [] 6).t), (7, (ZbU c9 [] 6).t), (10, (ZeF c10 [4] 6).t)]) [4] (Value.tuple #[Value.agg #[vi a0, ms RD (L1.set ((L2.getD (v3).toNat 0)).toNat (⟨(L1.getD ((L2.getD (v3).toNat 0)).toNat RI.z).a0, y8_0, y8_1, (i64.wrap ((L1.getD ((L2.getD (v3).toNat 0)).toNat RI.z).a3 + (1 : Int))), a3, a4, (1 : Int), a5, y9_0⟩ : RI)), vs 4 0 (L2.take (v3).toNat).length (L2.take (v3).toNat).length], Value.agg #[vi y8_0, vi y8_1], vq]) (kK (ZfQ c10 [4] 6) <| kK (Zc0 c9 [] 6) <| kK (ZcX c8 [] 6) <| kX (dP (0 = ((L2.drop ((v3 + (1 : Int))).toNat).take (L2.length - ((v3 + (1 : Int))).toNat)).length ∧ ((((L2.drop ((v3 + (1 : Int))).toNat).take (L2.length - ((v3 + (1 : Int))).toNat)).length * 1 = 0 ∧ ([] : List Value) = []) ∨ ∃ c, ((L2.drop ((v3 + (1 : Int))).toNat).take (L2.length - ((v3 + (1 : Int))).toNat)).length * 1 ≠ 0 ∧ Zam (code (ZW eI ((L2.drop ((v3 + (1 : Int))).toNat).take (L2.length - ((v3 + (1 : Int))).toNat)))) 0 (((L2.drop ((v3 + (1 : Int))).toNat).take (L2.length - ((v3 + (1 : Int))).toNat)).length * 1) = some c ∧ ([] : List Value) = Zu c))) true (Za1 ⟨by omega, .inl ⟨by omega, rfl⟩⟩) w7) (bR <| bE)
    ·
     refine Mach.ok_ite (fun g8 => ?_) (fun _ => Mach.ok_none)
     refine Mach.ok_bind (fun z9 c9 => ?_)
     cases z9 with
     | r0 y9_0 y9_1 =>
      refine Mach.ok_bind (fun z10 c10 => ?_)
      cases z10 with
      | r0 =>
       exact Mach.ok_none
      | r1 y10_0 =>
       refine Mach.ok_bind (fun z11 c11 => ?_)
       cases z11 with
       | r0 =>
        exact Mach.okF (Ze (oq [1, 2]) [(0, (v3 + (1 : Int)))] [(0, (v3).toNat), (1, ((L2.getD (v3).toNat 0)).toNat)] [(1, [.i (L2.getD (v3).toNat 0)]), (3, (RD.cel (L1.getD ((L2.getD (v3).toNat 0)).toNat RI.z)))] [(1, .ms 0 (v3).toNat (L2.take (v3).toNat).length (ZW eI (L2.take (v3).toNat))), (2, .ap (L2.take (v3).toNat).length (Za eI (L2.take (v3).toNat)) (Za eI (L2.take (v3).toNat))), (3, .ms ((v3 + (1 : Int))).toNat L2.length ((L2.drop ((v3 + (1 : Int))).toNat).take (L2.length - ((v3 + (1 : Int))).toNat)).length (ZW eI ((L2.drop ((v3 + (1 : Int))).toNat).take (L2.length - ((v3 + (1 : Int))).toNat)))), (4, .ap ((L2.drop ((v3 + (1 : Int))).toNat).take (L2.length - ((v3 + (1 : Int))).toNat)).length (κs L2 v3) (Za eI ((L2.take (v3).toNat) ++ ((L2.drop ((v3 + (1 : Int))).toNat).take (L2.length - ((v3 + (1 : Int))).toNat))))), (6, (ZbT c9 [] 7).t), (7, (ZbU c10 [] 7).t), (10, (ZeF c11 [5] 7).t)]) [5] (Value.tuple #[Value.agg #[vi a0, ms RD (L1.set ((L2.getD (v3).toNat 0)).toNat (⟨(L1.getD ((L2.getD (v3).toNat 0)).toNat RI.z).a0, y9_0, y9_1, (i64.wrap ((L1.getD ((L2.getD (v3).toNat 0)).toNat RI.z).a3 + (1 : Int))), a3, a4, (1 : Int), a5, y10_0⟩ : RI)), vs 5 0 ((L2.take (v3).toNat) ++ ((L2.drop ((v3 + (1 : Int))).toNat).take (L2.length - ((v3 + (1 : Int))).toNat))).length ((L2.take (v3).toNat) ++ ((L2.drop ((v3 + (1 : Int))).toNat).take (L2.length - ((v3 + (1 : Int))).toNat))).length], Value.agg #[vi y9_0, vi y9_1], vq]) (kKb (A := #[Value.agg #[vi a0, ms RD L1, vs 5 0 ((L2.take (v3).toNat).length + ((L2.drop ((v3 + (1 : Int))).toNat).take (L2.length - ((v3 + (1 : Int))).toNat)).length) ((L2.take (v3).toNat).length + ((L2.drop ((v3 + (1 : Int))).toNat).take (L2.length - ((v3 + (1 : Int))).toNat)).length)], vi (L2.getD (v3).toNat 0), Value.agg #[vi (L1.getD ((L2.getD (v3).toNat 0)).toNat RI.z).a0, vi y9_0, vi y9_1, vi (i64.wrap ((L1.getD ((L2.getD (v3).toNat 0)).toNat RI.z).a3 + (1 : Int))), vi a3, vi a4, vi (1 : Int), vi a5, ms RA y10_0]]) (ZfP (Zf (Zci (Zf rfl (Zf rfl (Zf (Zo rfl eqA eqA) rfl)))) (Zf rfl (Zf rfl rfl)))) (ZfQ c11 [5] 7) <| kR (Za eI ((L2.take (v3).toNat) ++ ((L2.drop ((v3 + (1 : Int))).toNat).take (L2.length - ((v3 + (1 : Int))).toNat)))) <| kK (Zc0 c10 [] 7) <| kK (ZcX c9 [] 7) <| kX (dP ((((L2.drop ((v3 + (1 : Int))).toNat).take (L2.length - ((v3 + (1 : Int))).toNat)).length = ((L2.drop ((v3 + (1 : Int))).toNat).take (L2.length - ((v3 + (1 : Int))).toNat)).length ∧ ((((L2.drop ((v3 + (1 : Int))).toNat).take (L2.length - ((v3 + (1 : Int))).toNat)).length * 1 = 0 ∧ (κs L2 v3) = []) ∨ ∃ c, ((L2.drop ((v3 + (1 : Int))).toNat).take (L2.length - ((v3 + (1 : Int))).toNat)).length * 1 ≠ 0 ∧ Zam (code (ZW eI ((L2.drop ((v3 + (1 : Int))).toNat).take (L2.length - ((v3 + (1 : Int))).toNat)))) 0 (((L2.drop ((v3 + (1 : Int))).toNat).take (L2.length - ((v3 + (1 : Int))).toNat)).length * 1) = some c ∧ (κs L2 v3) = Zu c)) ∧ 0 < ((L2.drop ((v3 + (1 : Int))).toNat).take (L2.length - ((v3 + (1 : Int))).toNat)).length ∧ ((L2.drop ((v3 + (1 : Int))).toNat).take (L2.length - ((v3 + (1 : Int))).toNat)).length ≤ 100000 ∧ (L2.take (v3).toNat).length < (L2.take (v3).toNat).length + ((L2.drop ((v3 + (1 : Int))).toNat).take (L2.length - ((v3 + (1 : Int))).toNat)).length ∧ (L2.take (v3).toNat).length ≤ 100000 ∧ (L2.take (v3).toNat).length * 1 ≤ (List.length (Za eI (L2.take (v3).toNat))) ∧ List.take ((L2.take (v3).toNat).length * 1) (Za eI (L2.take (v3).toNat)) ++ (κs L2 v3) = (Za eI ((L2.take (v3).toNat) ++ ((L2.drop ((v3 + (1 : Int))).toNat).take (L2.length - ((v3 + (1 : Int))).toNat)))))) true (Za1 ⟨⟨rfl, (ZeR (E := eI) (L := ((L2.drop ((v3 + (1 : Int))).toNat).take (L2.length - ((v3 + (1 : Int))).toNat))) (n := ((L2.drop ((v3 + (1 : Int))).toNat).take (L2.length - ((v3 + (1 : Int))).toNat)).length) (size := 1) rfl (by decide) (by omega))⟩, by omega, by omega, ltA, by omega, (Zdq (E := eI) (L := (L2.take (v3).toNat)) (M := ((L2.drop ((v3 + (1 : Int))).toNat).take (L2.length - ((v3 + (1 : Int))).toNat))) (n := (L2.take (v3).toNat).length) (show _ = _ * 1 from rfl) ltA (R := ((L2.take (v3).toNat) ++ ((L2.drop ((v3 + (1 : Int))).toNat).take (L2.length - ((v3 + (1 : Int))).toNat)))) (by rw [List.take_of_length_le ltA]))⟩) w7) (bR <| bE)
 ·
  refine Mach.ok_bind (fun z1 c1 => ?_)
  cases z1 with
  | r0 y1_0 =>
   have w2 := kK (Zql c1 [] 3) <| kN (v3 ≥ (0 : Int)) Zp
   refine Mach.ok_ite (fun g2 => ?_) (fun g2 => ?_)
   ·
    exact Mach.okF (Ze (oq [0, 3]) [] [] [] [(0, (Zf6 c1 [] 3).t)]) [] (Value.tuple #[Value.agg (κb a0 L1 L2), Value.agg #[vq, vq], vi (20 : Int)]) (kY ((i64.wrap (a3 + (1 : Int))) > (i64.wrap (a0 - y1_0))) w2) bE
   ·
    refine Mach.ok_bind (fun z3 c3 => ?_)
    cases z3 with
    | r0 y3_0 y3_1 =>
     have w4 := kK (ZcX c3 [] 4) <| kN ((i64.wrap (a3 + (1 : Int))) > (i64.wrap (a0 - y1_0))) w2
     refine Mach.ok_bind (fun z4 c4 => ?_)
     cases z4 with
     | r0 =>
      exact Mach.ok_none
     | r1 y4_0 =>
      refine Mach.ok_ite (fun g5 => ?_) (fun g5 => ?_)
      ·
       exact Mach.okF (Ze (oq [0, 2]) [] [] [] [(0, (Zf6 c1 [] 3).t), (1, (ZbT c3 [] 4).t), (2, (ZbU c4 [] 4).t), (5, .ap0)]) [6] (Value.tuple #[Value.agg #[vi a0, vs 6 0 1 1, ms eI L2], Value.agg #[vi y3_0, vi y3_1], vq]) (kX (dP (0 = L1.length ∧ ((L1.length * 9 = 0 ∧ ([] : List Value) = []) ∨ ∃ c, L1.length * 9 ≠ 0 ∧ Zam (code (ZW RD L1)) 0 (L1.length * 9) = some c ∧ ([] : List Value) = Zu c))) true (Za1 ⟨by omega, .inl ⟨by omega, rfl⟩⟩) <| kK (Zc0 c4 [] 4) w4) (bC (o := .cells [vi (i64.wrap (y1_0 + (1 : Int))), vi y3_0, vi y3_1, vi (1 : Int), vi a3, vi a4, vi (1 : Int), vi a5, ms RA y4_0] 71) (ZeC (E := RD) _ (L := ([(⟨(i64.wrap (y1_0 + (1 : Int))), y3_0, y3_1, (1 : Int), a3, a4, (1 : Int), a5, y4_0⟩ : RI)] : List RI)) _ (show ([vi (i64.wrap (y1_0 + (1 : Int))), vi y3_0, vi y3_1, vi (1 : Int), vi a3, vi a4, vi (1 : Int), vi a5, ms RA y4_0] : List Value) = Za RD ([(⟨(i64.wrap (y1_0 + (1 : Int))), y3_0, y3_1, (1 : Int), a3, a4, (1 : Int), a5, y4_0⟩ : RI)] : List RI) from rfl)) <| bE) (hv := ⟨Eq.trans (show (Value.tuple #[Value.agg #[vi a0, vs 0 0 ([(⟨(i64.wrap (y1_0 + (1 : Int))), y3_0, y3_1, (1 : Int), a3, a4, (1 : Int), a5, y4_0⟩ : RI)] : List RI).length ([(⟨(i64.wrap (y1_0 + (1 : Int))), y3_0, y3_1, (1 : Int), a3, a4, (1 : Int), a5, y4_0⟩ : RI)] : List RI).length, ms eI L2], Value.agg #[vi y3_0, vi y3_1], vq] : Value) = Value.tuple #[Value.agg #[vi a0, vs 0 0 1 1, ms eI L2], Value.agg #[vi y3_0, vi y3_1], vq] from (Zhm (Zf (Zci (Zf rfl (Zf (Zo rfl eqA eqA) (Zf rfl rfl)))) (Zf rfl (Zf rfl rfl))))) (by rfl), by rfl⟩)
      ·
       refine Mach.ok_ite (fun g6 => ?_) (fun _ => Mach.ok_none)
       exact Mach.okF (Ze (oq [0, 2]) [] [] [] [(0, (Zf6 c1 [] 3).t), (1, (ZbT c3 [] 4).t), (2, (ZbU c4 [] 4).t), (5, .ap L1.length (Za RD L1) (Za RD L1)), (6, .ap 1 [vi (i64.wrap (y1_0 + (1 : Int))), vi y3_0, vi y3_1, vi (1 : Int), vi a3, vi a4, vi (1 : Int), vi a5, ms RA y4_0] (Za RD (L1 ++ ([(⟨(i64.wrap (y1_0 + (1 : Int))), y3_0, y3_1, (1 : Int), a3, a4, (1 : Int), a5, y4_0⟩ : RI)] : List RI))))]) [7] (Value.tuple #[Value.agg #[vi a0, vs 7 0 (L1.length + 1) (L1.length + 1), ms eI L2], Value.agg #[vi y3_0, vi y3_1], vq]) (kA RD L1 (⟨(i64.wrap (y1_0 + (1 : Int))), y3_0, y3_1, (1 : Int), a3, a4, (1 : Int), a5, y4_0⟩ : RI) <| kX (dP ((L1.length = L1.length ∧ ((L1.length * 9 = 0 ∧ (Za RD L1) = []) ∨ ∃ c, L1.length * 9 ≠ 0 ∧ Zam (code (ZW RD L1)) 0 (L1.length * 9) = some c ∧ (Za RD L1) = Zu c)) ∧ 0 < L1.length ∧ L1.length ≤ 100000 ∧ (Za RD L1) = (Za RD L1))) true (Za1 ⟨⟨rfl, (ZeR (E := RD) (L := L1) (n := L1.length) (size := 9) rfl (by decide) (by omega))⟩, by omega, by omega, rfl⟩) <| kK (Zc0 c4 [] 4) w4) (bR <| bE) (hv := ⟨Eq.trans (show (Value.tuple #[Value.agg #[vi a0, vs 0 0 (L1 ++ ([(⟨(i64.wrap (y1_0 + (1 : Int))), y3_0, y3_1, (1 : Int), a3, a4, (1 : Int), a5, y4_0⟩ : RI)] : List RI)).length (L1 ++ ([(⟨(i64.wrap (y1_0 + (1 : Int))), y3_0, y3_1, (1 : Int), a3, a4, (1 : Int), a5, y4_0⟩ : RI)] : List RI)).length, ms eI L2], Value.agg #[vi y3_0, vi y3_1], vq] : Value) = Value.tuple #[Value.agg #[vi a0, vs 0 0 (L1.length + 1) (L1.length + 1), ms eI L2], Value.agg #[vi y3_0, vi y3_1], vq] from (Zhm (Zf (Zci (Zf rfl (Zf (Zo rfl eqA eqA) (Zf rfl rfl)))) (Zf rfl (Zf rfl rfl))))) (by rfl), by rfl⟩)

theorem ZnK (a0 : Int) (L1 : List RI) (L2 : List Int) (a3 a4 a5 : Int) (N : Nat) : (Zd7 a0 L1 L2 a3 a4 a5 N).Enter Try.prog Z7 #[Value.agg (κb a0 L1 L2), vi a3, vi a4, vi a5] (Zg3 a0 L1 L2 a3 a4 a5 N) := by
 unfold Zg3
 refine Mach.en_ite (fun g0 => ?_) (fun g0 => ?_)
 ·
  exact Mach.enF (Ze (oq [1]) [] [] [] []) [] (Value.tuple #[Value.agg (κb a0 L1 L2), Value.agg #[vq, vq], vi (1 : Int)]) (hY g0 Zp) bE
 ·
  refine Mach.en_ite (fun g1 => ?_) (fun g1 => ?_)
  ·
   exact Mach.enF (Ze (oq [0, 3]) [] [] [] []) [] (Value.tuple #[Value.agg (κb a0 L1 L2), Value.agg #[vq, vq], vi (1 : Int)]) (kY (a3 > (16 : Int)) <| hN g0 Zp) bE
  ·
   have w2 := kN (a3 > (16 : Int)) <| hN g0 Zp
   refine Mach.en_ite (fun g2 => ?_) (fun g2 => ?_)
   ·
    exact Mach.enF (Ze (oq [0, 2, 5]) [] [] [] []) [] (Value.tuple #[Value.agg (κb a0 L1 L2), Value.agg #[vq, vq], vi (1 : Int)]) (hY g2 w2) bE
   ·
    have w3 := kS a3 ((a3).toNat) .i64 <| kX ((IntKind.u64.wrap a3) == a3) true (beq_iff_eq.2 (ZeY ltA)) <| hN g2 w2
    refine Mach.en_ite (fun g3 => ?_) (fun g3 => ?_)
    ·
     exact Mach.enF (Ze (oq [0, 2, 4, 7]) [(0, a3)] [] [] [(0, .sh (a3).toNat)]) [] (Value.tuple #[Value.agg (κb a0 L1 L2), Value.agg #[vq, vq], vi (1 : Int)]) (kY (a4 ≥ (i64.wrap ((1 : Int) * (2 ^ (a3).toNat : Int)))) w3) bE
    ·
     have w4 := kN (a4 ≥ (i64.wrap ((1 : Int) * (2 ^ (a3).toNat : Int)))) w3
     refine Mach.en_ite (fun g4 => ?_) (fun g4 => ?_)
     ·
      exact Mach.enF (Ze (oq [0, 2, 4, 6, 9]) [(0, a3)] [] [] [(0, .sh (a3).toNat)]) [] (Value.tuple #[Value.agg (κb a0 L1 L2), Value.agg #[vq, vq], vi (1 : Int)]) (hY g4 w4) bE
     ·
      refine Mach.en_ite (fun g5 => ?_) (fun g5 => ?_)
      ·
       exact Mach.enF (Ze (oq [0, 2, 4, 6, 8, 11]) [(0, a3)] [] [] [(0, .sh (a3).toNat)]) [] (Value.tuple #[Value.agg (κb a0 L1 L2), Value.agg #[vq, vq], vi (1 : Int)]) (kY (a5 > (63 : Int)) <| hN g4 w4) bE
      ·
       refine Mach.en_ite (fun g6 => ?_) (fun _ => Mach.en_none)
       exact Mach.en_head (bK := Zd6 1) (M := Zd7 a0 L1 L2 a3 a4 a5 N) (cd := 1000000) (cm := 0) (y := (.h1m0 (((L2.length : Int) - (1 : Int))) : Za3)) (fu := 4000) (orc := (Ze (oq [0, 2, 4, 6, 8, 10]) [(0, a3), (2, ((L2.length : Int) - (1 : Int)))] [] [] [(0, .sh (a3).toNat)])) (live := [0, 1, 2]) (tv := [some (vi a3), some (vi a4), some (vi a5), some (vp 0 0), some (vp 1 0), some (vp 2 0), some (vi ((L2.length : Int) - (1 : Int)))]) (bl := [some (.cells [vi a0, ms RD L1, ms eI L2] 30), some (.cells [vq, vn, vn] 30), some (.cells [vq, vq] 41)]) rfl rfl (show ZC (Zd6 1).2 = [] from rfl) (by kernel_rfl) (kW ((L2.length : Int) - (1 : Int)) ((L2.length : Int) - (1 : Int)) <| kN (a5 > (63 : Int)) <| hN g4 w4) rfl (by decide +kernel) (by rfl) ⟨rr, ⟨rr, ⟨rr, ⟨rr, ⟨rr, ⟨rr, ⟨rr, trivial⟩⟩⟩⟩⟩⟩⟩ ⟨sm, ⟨sm, ⟨sm, trivial⟩⟩⟩

theorem Zl1 (a0 : Int) (L1 : List RI) (L2 : List Int) (a3 a4 a5 : Int) (N : Nat) (r : ZD) (h : Zai a0 L1 L2 a3 a4 a5 N = some r) : LSpec Try.prog 27 #[Value.agg (κb a0 L1 L2), vi a3, vi a4, vi a5] [] (ZjG a0 L1 L2 a3 a4 a5 r) (ZiU a0 L1 L2 a3 a4 a5 r) :=
 Mach.spec Zr (Zd7 a0 L1 L2 a3 a4 a5 N) Try.func27 (by kernel_rfl) (by kernel_rfl) (fun x => by cases x <;> exact ZH _ rfl) (fun r => by cases r <;> exact ZH _ rfl) (fun x => by
  cases x with
  | h1m0 _ => exact fun _ => (show ¬ (1 ∈ ZC (Zd6 1).2) from by decide +kernel)
  ) (fun x => (show (Zd7 a0 L1 L2 a3 a4 a5 N).Ok Try.prog Z7 x (ZaH a0 L1 L2 a3 a4 a5 N x) from by
  cases x with
  | h1m0 v3 => exact Zl0 a0 L1 L2 a3 a4 a5 v3 N
  )) (ZnK a0 L1 L2 a3 a4 a5 N) (n := N) h

theorem ZdT (a0 : Int) (L1 : List RI) (L2 : List Int) (a3 a4 a5 : Int) (N : Nat) (r : ZD) (h : Zai a0 L1 L2 a3 a4 a5 N = some r) : LSpec Try.prog 27 #[Value.agg (κb a0 L1 L2), vi a3, vi a4, vi a5] [] (Zqm a0 L1 L2 a3 a4 a5 r) (ZoE a0 L1 L2 a3 a4 a5 r) := by
 have h0 := Zl1 a0 L1 L2 a3 a4 a5 N r h
 cases r with
 | r0 _ => exact h0
 | r1 w1 w2 w3 => exact (LSpec.nlv (v2 := Value.tuple #[Value.agg #[vi a0, ms RD w1, ms eI ([] : List Int)], Value.agg #[vi w2, vi w3], vq]) h0 rfl rfl)
 | r2 w1 w2 w3 w4 => exact (LSpec.frzv (E := eI) (L := w2) (post := []) (v2 := Value.tuple #[Value.agg #[vi a0, ms RD w1, ms eI w2], Value.agg #[vi w3, vi w4], vq]) h0 (show 0 ≤ 0 from by decide) (show 0 < 1000000000 from by decide) trivial rfl rfl rfl)
 | r3 w1 w3 w4 => exact (LSpec.frzv (E := RD) (L := w1) (post := []) (v2 := Value.tuple #[Value.agg #[vi a0, ms RD w1, ms eI L2], Value.agg #[vi w3, vi w4], vq]) h0 (show 0 ≤ 0 from by decide) (show 0 < 1000000000 from by decide) trivial rfl rfl rfl)

noncomputable def Za0 {a0 : Int} {L1 : List RI} {L2 : List Int} {a3 : Int} {a4 : Int} {a5 : Int} {w5 : Int} {N : Nat} (h : Zai a0 L1 L2 a3 a4 a5 N = some (.r0 w5)) (ks : List Nat) (n : Nat) : ToldS := ⟨#[Value.agg (κb a0 L1 L2), vi a3, vi a4, vi a5], [], Value.tuple #[Value.agg (κb a0 L1 L2), Value.agg #[vq, vq], vi w5], [], 0⟩

theorem ZjI {a0 : Int} {L1 : List RI} {L2 : List Int} {a3 : Int} {a4 : Int} {a5 : Int} {w5 : Int} {N : Nat} (h : Zai a0 L1 L2 a3 a4 a5 N = some (.r0 w5)) (ks : List Nat) (n : Nat) (hk : ks.length = 0 := by rfl) (hnd : ks.Nodup := by decide +kernel) (hlt : ∀ k ∈ ks, k < n := by decide +kernel) : (Za0 (N := N)  h ks n).P Try.prog 27 n :=
 match ks, hk, hnd, hlt with
 | [], _, hnd, hlt => Zad (show LSpec Try.prog 27 #[Value.agg (κb a0 L1 L2), vi a3, vi a4, vi a5] [] (Value.tuple #[Value.agg (κb a0 L1 L2), Value.agg #[vq, vq], vi w5]) [] from ZdT a0 L1 L2 a3 a4 a5 N _ h) _ n [] hnd hlt

noncomputable def Zc1 {a0 : Int} {L1 : List RI} {L2 : List Int} {a3 : Int} {a4 : Int} {a5 : Int} {w1 : List RI} {w2 : Int} {w3 : Int} {N : Nat} (h : Zai a0 L1 L2 a3 a4 a5 N = some (.r1 w1 w2 w3)) (ks : List Nat) (n : Nat) : ToldS := ⟨#[Value.agg (κb a0 L1 L2), vi a3, vi a4, vi a5], [], Value.tuple #[Value.agg #[vi a0, ms RD w1, ms eI ([] : List Int)], Value.agg #[vi w2, vi w3], vq], [], 0⟩

theorem ZjJ {a0 : Int} {L1 : List RI} {L2 : List Int} {a3 : Int} {a4 : Int} {a5 : Int} {w1 : List RI} {w2 : Int} {w3 : Int} {N : Nat} (h : Zai a0 L1 L2 a3 a4 a5 N = some (.r1 w1 w2 w3)) (ks : List Nat) (n : Nat) (hk : ks.length = 0 := by rfl) (hnd : ks.Nodup := by decide +kernel) (hlt : ∀ k ∈ ks, k < n := by decide +kernel) : (Zc1 (N := N)  h ks n).P Try.prog 27 n :=
 match ks, hk, hnd, hlt with
 | [], _, hnd, hlt => Zad (show LSpec Try.prog 27 #[Value.agg (κb a0 L1 L2), vi a3, vi a4, vi a5] [] (Value.tuple #[Value.agg #[vi a0, ms RD w1, ms eI ([] : List Int)], Value.agg #[vi w2, vi w3], vq]) [] from ZdT a0 L1 L2 a3 a4 a5 N _ h) _ n [] hnd hlt

noncomputable def Zc2 {a0 : Int} {L1 : List RI} {L2 : List Int} {a3 : Int} {a4 : Int} {a5 : Int} {w1 : List RI} {w2 : List Int} {w3 : Int} {w4 : Int} {N : Nat} (h : Zai a0 L1 L2 a3 a4 a5 N = some (.r2 w1 w2 w3 w4)) (ks : List Nat) (n : Nat) : ToldS := ⟨#[Value.agg (κb a0 L1 L2), vi a3, vi a4, vi a5], [], Value.tuple #[Value.agg #[vi a0, ms RD w1, ms eI w2], Value.agg #[vi w3, vi w4], vq], [], 0⟩

theorem ZjK {a0 : Int} {L1 : List RI} {L2 : List Int} {a3 : Int} {a4 : Int} {a5 : Int} {w1 : List RI} {w2 : List Int} {w3 : Int} {w4 : Int} {N : Nat} (h : Zai a0 L1 L2 a3 a4 a5 N = some (.r2 w1 w2 w3 w4)) (ks : List Nat) (n : Nat) (hk : ks.length = 0 := by rfl) (hnd : ks.Nodup := by decide +kernel) (hlt : ∀ k ∈ ks, k < n := by decide +kernel) : (Zc2 (N := N)  h ks n).P Try.prog 27 n :=
 match ks, hk, hnd, hlt with
 | [], _, hnd, hlt => Zad (show LSpec Try.prog 27 #[Value.agg (κb a0 L1 L2), vi a3, vi a4, vi a5] [] (Value.tuple #[Value.agg #[vi a0, ms RD w1, ms eI w2], Value.agg #[vi w3, vi w4], vq]) [] from ZdT a0 L1 L2 a3 a4 a5 N _ h) _ n [] hnd hlt

noncomputable def Zc3 {a0 : Int} {L1 : List RI} {L2 : List Int} {a3 : Int} {a4 : Int} {a5 : Int} {w1 : List RI} {w3 : Int} {w4 : Int} {N : Nat} (h : Zai a0 L1 L2 a3 a4 a5 N = some (.r3 w1 w3 w4)) (ks : List Nat) (n : Nat) : ToldS := ⟨#[Value.agg (κb a0 L1 L2), vi a3, vi a4, vi a5], [], Value.tuple #[Value.agg #[vi a0, ms RD w1, ms eI L2], Value.agg #[vi w3, vi w4], vq], [], 0⟩

theorem ZjL {a0 : Int} {L1 : List RI} {L2 : List Int} {a3 : Int} {a4 : Int} {a5 : Int} {w1 : List RI} {w3 : Int} {w4 : Int} {N : Nat} (h : Zai a0 L1 L2 a3 a4 a5 N = some (.r3 w1 w3 w4)) (ks : List Nat) (n : Nat) (hk : ks.length = 0 := by rfl) (hnd : ks.Nodup := by decide +kernel) (hlt : ∀ k ∈ ks, k < n := by decide +kernel) : (Zc3 (N := N)  h ks n).P Try.prog 27 n :=
 match ks, hk, hnd, hlt with
 | [], _, hnd, hlt => Zad (show LSpec Try.prog 27 #[Value.agg (κb a0 L1 L2), vi a3, vi a4, vi a5] [] (Value.tuple #[Value.agg #[vi a0, ms RD w1, ms eI L2], Value.agg #[vi w3, vi w4], vq]) [] from ZdT a0 L1 L2 a3 a4 a5 N _ h) _ n [] hnd hlt

end Ev
end Go.Proofs.Ytomkpfibofpkbaa
namespace Go.Proofs.Ytomkpfibofpkbaa
open Go.RowKit
namespace Ev
set_option linter.unusedVariables false
set_option maxRecDepth 100000
set_option maxHeartbeats 4000000
noncomputable def ZhW (a0 a1 a2 : Int) (L3 : List RG) (L4 : List RF) (W5 : Nat → List Int) : Zab → Value
 | .r0 w19 w20 => Value.tuple #[vi w19, vi w20]
noncomputable def Zh3 (a0 a1 a2 : Int) (L3 : List RG) (L4 : List RF) (W5 : Nat → List Int) : Zab → List (Option AObj)
 | .r0 w19 w20 => (some (.cells (hpC a2 1 L3.length 2 L4.length 3 W5) 67) :: some (.cells (Za RB L3) 50) :: some (.cells (Za RA L4) 41) :: hpO W5 [])

noncomputable abbrev κK := (Value.tuple #[vq, vi (10 : Int)])
noncomputable abbrev κo (a2 : Int) (L3 : List RG) (L4 : List RF) (W5 : Nat → List Int) := (AObj.cells (hpC a2 1 L3.length 2 L4.length 3 W5) 67 :: AObj.cells (Za RB L3) 50 :: AObj.cells (Za RA L4) 41 :: hpP W5 [])
theorem Zl2 (a0 a1 a2 : Int) (L3 : List RG) (L4 : List RF) (W5 : Nat → List Int) (N : Nat) : Fx Try.prog Z7 Try.f57 (κo a2 L3 L4 W5) #[vp 0 0, Value.agg #[vi a0, vi a1]] (ZhW a0 a1 a2 L3 L4 W5) (Zh3 a0 a1 a2 L3 L4 W5) (Zap a0 a1 a2 L3 L4 W5 N) := by
 unfold Zap
 refine Zh (fun g0 => ?_) (fun g0 => ?_)
 ·
  exact fxC (Ze (oq [1]) [] [] [] []) (rg 0 20 []) κK (hD g0 Zp) (bS (hpC a2 1 L3.length 2 L4.length 3 W5) <| bR <| bR <| Zs <| bQ <| bE)
 ·
  have w1 := kT a0 (2 : Int) <| kE a0 (2 : Int) Zp
  refine Zh (fun g1 => ?_) (fun g1 => ?_)
  ·
   refine Zh (fun g2 => ?_) (fun g2 => ?_)
   ·
    have w3 := kY (a1 > (0 : Int)) <| hD g1 w1
    refine Zh (fun g3 => ?_) (fun _ => Zq)
    have w4 := kM a1 (1048576 : Int) <| kV a1 (1048576 : Int) w3
    refine Zh (fun g4 => ?_) (fun g4 => ?_)
    ·
     have w5 := kY ((a1 / (1048576 : Int)) ≥ (1 : Int)) w4
     refine Zh (fun g5 => ?_) (fun g5 => ?_)
     ·
      refine Zh (fun g6 => ?_) (fun g6 => ?_)
      ·
       have w7 := kM a1 (1048576 : Int) <| kY ((a1 % (1048576 : Int)) ≤ (1048575 : Int)) <| kY ((a1 % (1048576 : Int)) ≥ (1 : Int)) <| hY g5 <| kY ((a1 / (1048576 : Int)) ≥ (1 : Int)) <| kM a1 (1048576 : Int) <| kV a1 (1048576 : Int) <| kY (a1 > (0 : Int)) <| kE a0 (2 : Int) <| kO ((a0 == (2 : Int)) && ((a1 == (0 : Int)) && true)) <| kY ((a1 % (1048576 : Int)) ≤ (1048575 : Int)) <| kY ((a1 % (1048576 : Int)) ≥ (1 : Int)) <| hY g5 w5
       refine Zh (fun g7 => ?_) (fun g7 => ?_)
       ·
        exact fxC (Ze (oq [0, 3, 5, 7, 9, 11, 13, 15, 20, 22, 25, 27, 29, 31, 33, 37]) [(0, (a1 / (1048576 : Int))), (1, (a1 % (1048576 : Int))), (2, (a1 / (1048576 : Int))), (3, (a1 % (1048576 : Int))), (4, (a1 % (1048576 : Int)))] [] [] []) (rg 0 20 []) (Value.tuple #[vq, vi (21 : Int)]) (kY ((a1 % (1048576 : Int)) > (L3.length : Int)) w7) (bS (hpC a2 1 L3.length 2 L4.length 3 W5) <| bR <| bR <| Zs <| bQ <| bE)
       ·
        have w8 := kV a1 (1048576 : Int) <| kY ((a1 % (1048576 : Int)) ≤ (1048575 : Int)) <| kY ((a1 % (1048576 : Int)) ≥ (1 : Int)) <| hY g5 <| kY ((a1 / (1048576 : Int)) ≥ (1 : Int)) <| kM a1 (1048576 : Int) <| kV a1 (1048576 : Int) <| kY (a1 > (0 : Int)) <| kE a0 (2 : Int) <| kL RB L3 ((((a1 % (1048576 : Int)) - (1 : Int))).toNat) 0 1 <| kB (((a1 % (1048576 : Int)) - (1 : Int))).toNat L3.length <| kI ((a1 % (1048576 : Int)) - (1 : Int)) (Int.ofNat (((a1 % (1048576 : Int)) - (1 : Int))).toNat) <| kW ((a1 % (1048576 : Int)) - (1 : Int)) ((a1 % (1048576 : Int)) - (1 : Int)) <| kN ((a1 % (1048576 : Int)) > (L3.length : Int)) w7
        refine Zh (fun g8 => ?_) (fun g8 => ?_)
        ·
         exact fxC (Ze (oq [0, 3, 5, 7, 9, 11, 13, 15, 20, 22, 25, 27, 29, 31, 33, 36, 38, 41, 43, 45, 47, 49, 53]) [(0, (a1 / (1048576 : Int))), (1, (a1 % (1048576 : Int))), (2, (a1 / (1048576 : Int))), (3, (a1 % (1048576 : Int))), (4, (a1 % (1048576 : Int))), (5, ((a1 % (1048576 : Int)) - (1 : Int))), (6, (a1 / (1048576 : Int))), (7, (a1 % (1048576 : Int))), (8, (a1 / (1048576 : Int)))] [(0, (((a1 % (1048576 : Int)) - (1 : Int))).toNat)] [(13, [.i (L3.getD (((a1 % (1048576 : Int)) - (1 : Int))).toNat RG.z).a0])] []) (rg 0 20 []) (Value.tuple #[vq, vi (21 : Int)]) (hD g8 w8) (bS (hpC a2 1 L3.length 2 L4.length 3 W5) <| bR <| bR <| Zs <| bQ <| bE)
        ·
         have w9 := kL RB L3 ((((a1 % (1048576 : Int)) - (1 : Int))).toNat) 3 1 <| kE ((L3.getD (((a1 % (1048576 : Int)) - (1 : Int))).toNat RG.z).a0) (a1 / (1048576 : Int)) w8
         refine Zh (fun g9 => ?_) (fun g9 => ?_)
         ·
          exact fxC (Ze (oq [0, 3, 5, 7, 9, 11, 13, 15, 20, 22, 25, 27, 29, 31, 33, 36, 38, 41, 43, 45, 47, 49, 52, 55]) [(0, (a1 / (1048576 : Int))), (1, (a1 % (1048576 : Int))), (2, (a1 / (1048576 : Int))), (3, (a1 % (1048576 : Int))), (4, (a1 % (1048576 : Int))), (5, ((a1 % (1048576 : Int)) - (1 : Int))), (6, (a1 / (1048576 : Int))), (7, (a1 % (1048576 : Int))), (8, (a1 / (1048576 : Int)))] [(0, (((a1 % (1048576 : Int)) - (1 : Int))).toNat)] [(13, [.i (L3.getD (((a1 % (1048576 : Int)) - (1 : Int))).toNat RG.z).a0]), (18, [.i (L3.getD (((a1 % (1048576 : Int)) - (1 : Int))).toNat RG.z).a3])] []) (rg 0 20 []) (Value.tuple #[vq, vi (21 : Int)]) (hT g9 w9) (bS (hpC a2 1 L3.length 2 L4.length 3 W5) <| bR <| bR <| Zs <| bQ <| bE)
         ·
          exact fxC (Ze (oq [0, 3, 5, 7, 9, 11, 13, 15, 20, 22, 25, 27, 29, 31, 33, 36, 38, 41, 43, 45, 47, 49, 52, 54]) [(0, (a1 / (1048576 : Int))), (1, (a1 % (1048576 : Int))), (2, (a1 / (1048576 : Int))), (3, (a1 % (1048576 : Int))), (4, (a1 % (1048576 : Int))), (5, ((a1 % (1048576 : Int)) - (1 : Int))), (6, (a1 / (1048576 : Int))), (7, (a1 % (1048576 : Int))), (8, (a1 / (1048576 : Int)))] [(0, (((a1 % (1048576 : Int)) - (1 : Int))).toNat)] [(13, [.i (L3.getD (((a1 % (1048576 : Int)) - (1 : Int))).toNat RG.z).a0]), (18, [.i (L3.getD (((a1 % (1048576 : Int)) - (1 : Int))).toNat RG.z).a3])] []) (rg 0 20 []) (Value.tuple #[vi (a1 % (1048576 : Int)), vq]) (hF g9 w9) (bS (hpC a2 1 L3.length 2 L4.length 3 W5) <| bR <| bR <| Zs <| bQ <| bE)
      ·
       exact fxC (Ze (oq [0, 3, 5, 7, 9, 11, 12]) [(0, (a1 / (1048576 : Int))), (1, (a1 % (1048576 : Int)))] [] [] []) (rg 0 20 []) κK (kN ((a1 % (1048576 : Int)) ≥ (1 : Int)) <| hY g5 w5) (bS (hpC a2 1 L3.length 2 L4.length 3 W5) <| bR <| bR <| Zs <| bQ <| bE)
     ·
      exact fxC (Ze (oq [0, 3, 5, 7, 9, 10]) [(0, (a1 / (1048576 : Int))), (1, (a1 % (1048576 : Int)))] [] [] []) (rg 0 20 []) κK (hN g5 w5) (bS (hpC a2 1 L3.length 2 L4.length 3 W5) <| bR <| bR <| Zs <| bQ <| bE)
    ·
     exact fxC (Ze (oq [0, 3, 5, 7, 8]) [(0, (a1 / (1048576 : Int))), (1, (a1 % (1048576 : Int)))] [] [] []) (rg 0 20 []) κK (kN ((a1 / (1048576 : Int)) ≥ (1 : Int)) w4) (bS (hpC a2 1 L3.length 2 L4.length 3 W5) <| bR <| bR <| Zs <| bQ <| bE)
   ·
    exact fxC (Ze (oq [0, 3, 5, 6]) [] [] [] []) (rg 0 20 []) κK (kN (a1 > (0 : Int)) <| hD g1 w1) (bS (hpC a2 1 L3.length 2 L4.length 3 W5) <| bR <| bR <| Zs <| bQ <| bE)
  ·
   exact fxC (Ze (oq [0, 3, 4, 9]) [] [] [] []) (rg 0 20 []) (Value.tuple #[vq, vi (11 : Int)]) (kZ ((a0 == (2 : Int)) && ((a1 == (0 : Int)) && true)) <| kE a1 (0 : Int) w1) (bS (hpC a2 1 L3.length 2 L4.length 3 W5) <| bR <| bR <| Zs <| bQ <| bE)

theorem ZjU (a0 a1 a2 : Int) (L3 : List RG) (L4 : List RF) (W5 : Nat → List Int) (N : Nat) (r : Zab) (h : Zap a0 a1 a2 L3 L4 W5 N = some r) : LSpec Try.prog 57 #[vp 0 0, Value.agg #[vi a0, vi a1]] (κo a2 L3 L4 W5) (ZhW a0 a1 a2 L3 L4 W5 r) (Zh3 a0 a1 a2 L3 L4 W5 r) :=
 ZaK Zr Try.func57 (by kernel_rfl) (by kernel_rfl) (fun r => by cases r <;> exact ZH _ rfl) (Zl2 a0 a1 a2 L3 L4 W5 N) h

noncomputable abbrev κF (ks : List Nat) (a2 : Int) (L3 : List RG) (L4 : List RF) (W5 : Nat → List Int) := (((nth ks 0), AObj.cells (Zhs a2 (nth ks 1) L3.length (nth ks 2) L4.length (ZdN ks 3 17) W5) 67) :: ((nth ks 1), AObj.cells (Za RB L3) 50) :: ((nth ks 2), AObj.cells (Za RA L4) 41) :: hpK (ZdN ks 3 17) W5 [])
noncomputable def ZL {a0 : Int} {a1 : Int} {a2 : Int} {L3 : List RG} {L4 : List RF} {W5 : Nat → List Int} {w19 : Int} {w20 : Int} {N : Nat} (h : Zap a0 a1 a2 L3 L4 W5 N = some (.r0 w19 w20)) (ks : List Nat) (n : Nat) : ToldS := ⟨#[vp (nth ks 0) 0, Value.agg #[vi a0, vi a1]], (κF ks a2 L3 L4 W5), Value.tuple #[vi w19, vi w20], [], 0⟩

theorem ZdU {a0 : Int} {a1 : Int} {a2 : Int} {L3 : List RG} {L4 : List RF} {W5 : Nat → List Int} {w19 : Int} {w20 : Int} {N : Nat} (h : Zap a0 a1 a2 L3 L4 W5 N = some (.r0 w19 w20)) (ks : List Nat) (n : Nat) (hk : ks.length = 20 := by rfl) (hnd : ks.Nodup := by decide +kernel) (hlt : ∀ k ∈ ks, k < n := by decide +kernel) : (ZL (N := N)  h ks n).P Try.prog 57 n :=
 match ks, hk, hnd, hlt with
 | [k0, k1, k2, k3, k4, k5, k6, k7, k8, k9, k10, k11, k12, k13, k14, k15, k16, k17, k18, k19], _, hnd, hlt => Zad (show LSpec Try.prog 57 #[vp 0 0, Value.agg #[vi a0, vi a1]] (κo a2 L3 L4 W5) (Value.tuple #[vi w19, vi w20]) (some (.cells (hpC a2 1 L3.length 2 L4.length 3 W5) 67) :: some (.cells (Za RB L3) 50) :: some (.cells (Za RA L4) 41) :: hpO W5 []) from ZjU a0 a1 a2 L3 L4 W5 N _ h) _ n [] hnd hlt

end Ev
end Go.Proofs.Ytomkpfibofpkbaa
namespace Go.Proofs.Ytomkpfibofpkbaa
open Go.IntKind (i64)
open Go.RowKit
namespace Ev
set_option linter.unusedVariables false
set_option maxRecDepth 100000
set_option maxHeartbeats 4000000
noncomputable def Zgp (a0 a1 a2 : Int) (L3 : List RG) (L4 : List RF) (W5 : Nat → List Int) : Za4 → Value
 | .r0 w0 w2 w4 => vi w0
noncomputable def ZfE (a0 a1 a2 : Int) (L3 : List RG) (L4 : List RF) (W5 : Nat → List Int) : Za4 → List (Option AObj)
 | .r0 w0 w2 w4 => (some (.cells (hpC a2 20 w2.length 21 L4.length 22 w4) 67) :: none :: none :: none :: none :: none :: none :: none :: none :: none :: none :: none :: none :: none :: none :: none :: none :: none :: none :: none :: some (.cells (Za RB w2) 50) :: some (.cells (Za RA L4) 41) :: hpO w4 [])

theorem Zj2 (a0 a1 a2 : Int) (L3 : List RG) (L4 : List RF) (W5 : Nat → List Int) (N : Nat) : Gx Try.prog 23 (κo a2 L3 L4 W5) #[vp 0 0, Value.agg #[vi a0, vi a1]] (Zgp a0 a1 a2 L3 L4 W5) (ZfE a0 a1 a2 L3 L4 W5) (ZaV a0 a1 a2 L3 L4 W5 N) := by
 unfold ZaV
 refine Zx (fun g0 => ?_) (fun g0 => ?_)
 ·
  refine Z5 (fun z1 c1 => ?_)
  cases z1 with
  | r0 y1_0 y1_1 =>
   have w2 := kK (ZdU c1 (rg 0 20 []) 21) <| kY (a2 > (0 : Int)) Zp
   refine Zx (fun g2 => ?_) (fun g2 => ?_)
   ·
    exact gxR Zr 1 (Ze (oq [3, 7]) [] [] [] [(0, (ZL c1 (rg 0 20 []) 21).t)]) (0 :: (rg 900000001 19 (rg 1 19 []))) (vi y1_1) (hD g2 w2) (bS (hpC a2 1 L3.length 2 L4.length 3 W5) <| ZK <| bN <| bN <| bN <| bR <| bR <| Zs <| bQ <| bE)
   ·
    refine Zx (fun g3 => ?_) (fun g3 => ?_)
    ·
     exact gxR Zr 1 (Ze (oq [3, 6, 9]) [] [] [] [(0, (ZL c1 (rg 0 20 []) 21).t)]) (0 :: (rg 900000001 19 (rg 1 19 []))) (vi (1 : Int)) (hT g3 <| kE y1_1 (0 : Int) w2) (bS (hpC a2 1 L3.length 2 L4.length 3 W5) <| ZK <| bN <| bN <| bN <| bR <| bR <| Zs <| bQ <| bE)
    ·
     refine Zx (fun g4 => ?_) (fun _ => Zbk)
     refine Zx (fun g5 => ?_) (fun _ => Zbk)
     have w6 := kX (Ze5 (ZY 1 (List.drop ((0 + (((i64.wrap (y1_0 - (1 : Int)))).toNat * 5)) + 0) (Za RB (L3.set ((i64.wrap (y1_0 - (1 : Int)))).toNat (⟨(L3.getD ((i64.wrap (y1_0 - (1 : Int)))).toNat RG.z).a0, (L3.getD ((i64.wrap (y1_0 - (1 : Int)))).toNat RG.z).a1, (L3.getD ((i64.wrap (y1_0 - (1 : Int)))).toNat RG.z).a2, (0 : Int), (L3.getD ((i64.wrap (y1_0 - (1 : Int)))).toNat RG.z).a4⟩ : RG))))) [.i (L3.getD ((i64.wrap (y1_0 - (1 : Int)))).toNat RG.z).a0]) true (ZkB (E := RB) (L := (L3.set ((i64.wrap (y1_0 - (1 : Int)))).toNat (⟨(L3.getD ((i64.wrap (y1_0 - (1 : Int)))).toNat RG.z).a0, (L3.getD ((i64.wrap (y1_0 - (1 : Int)))).toNat RG.z).a1, (L3.getD ((i64.wrap (y1_0 - (1 : Int)))).toNat RG.z).a2, (0 : Int), (L3.getD ((i64.wrap (y1_0 - (1 : Int)))).toNat RG.z).a4⟩ : RG))) (i := ((i64.wrap (y1_0 - (1 : Int)))).toNat) (q := 0) ltA (show ((0 + (((i64.wrap (y1_0 - (1 : Int)))).toNat * 5)) + 0) = ((i64.wrap (y1_0 - (1 : Int)))).toNat * 5 + 0 from by omega) (show 0 + 1 ≤ 5 from by decide) rfl (by rw [ZkA ltA]; first | done | rfl)) <| kC (Za8 (E := RB) (L := L3) (i := ((i64.wrap (y1_0 - (1 : Int)))).toNat) (q := 3) (l := [vq]) (⟨(L3.getD ((i64.wrap (y1_0 - (1 : Int)))).toNat RG.z).a0, (L3.getD ((i64.wrap (y1_0 - (1 : Int)))).toNat RG.z).a1, (L3.getD ((i64.wrap (y1_0 - (1 : Int)))).toNat RG.z).a2, (0 : Int), (L3.getD ((i64.wrap (y1_0 - (1 : Int)))).toNat RG.z).a4⟩ : RG) (by omega) (show ((0 + (((i64.wrap (y1_0 - (1 : Int)))).toNat * 5)) + 3) = ((i64.wrap (y1_0 - (1 : Int)))).toNat * 5 + 3 from by omega) (show 3 + 1 ≤ 5 from by decide) rfl) <| kB ((i64.wrap (y1_0 - (1 : Int)))).toNat L3.length <| kI (i64.wrap (y1_0 - (1 : Int))) (Int.ofNat ((i64.wrap (y1_0 - (1 : Int)))).toNat) <| hF g3 <| kE y1_1 (0 : Int) w2
     refine Zx (fun g6 => ?_) (fun g6 => ?_)
     ·
      refine ZsX (fun κ hκ g7 => ?_)
      refine Zx (fun g8 => ?_) (fun _ => Zbk)
      exact Zsk Zr hκ 1 (Ze (oq [3, 6, 8, 11]) [] [(0, ((i64.wrap (y1_0 - (1 : Int)))).toNat), (1, κ), (2, κ)] [(3, [.i (L3.getD ((i64.wrap (y1_0 - (1 : Int)))).toNat RG.z).a0]), (4, [.i (L3.getD ((i64.wrap (y1_0 - (1 : Int)))).toNat RG.z).a1]), (5, [.i (L3.getD ((i64.wrap (y1_0 - (1 : Int)))).toNat RG.z).a1])] [(0, (ZL c1 (rg 0 20 []) 21).t), (1, .st (Za RB (L3.set ((i64.wrap (y1_0 - (1 : Int)))).toNat (⟨(L3.getD ((i64.wrap (y1_0 - (1 : Int)))).toNat RG.z).a0, (L3.getD ((i64.wrap (y1_0 - (1 : Int)))).toNat RG.z).a1, (L3.getD ((i64.wrap (y1_0 - (1 : Int)))).toNat RG.z).a2, (0 : Int), (L3.getD ((i64.wrap (y1_0 - (1 : Int)))).toNat RG.z).a4⟩ : RG)))), (2, .ap 1 [vi y1_0] (Za eI ((W5 κ) ++ ([y1_0] : List Int))))]) (0 :: (rg 900000001 19 (rg 1 (κ + 2) (22 :: (rg (κ + 4) (16 - κ) []))))) (vq) (kB κ 17 <| kJ ((L3.getD ((i64.wrap (y1_0 - (1 : Int)))).toNat RG.z).a1) κ <| kA eI (W5 κ) y1_0 <| kB κ 17 <| kJ ((L3.getD ((i64.wrap (y1_0 - (1 : Int)))).toNat RG.z).a1) κ <| kX (Ze5 (ZY 1 (List.drop ((0 + (((i64.wrap (y1_0 - (1 : Int)))).toNat * 5)) + 1) (Za RB (L3.set ((i64.wrap (y1_0 - (1 : Int)))).toNat (⟨(L3.getD ((i64.wrap (y1_0 - (1 : Int)))).toNat RG.z).a0, (L3.getD ((i64.wrap (y1_0 - (1 : Int)))).toNat RG.z).a1, (L3.getD ((i64.wrap (y1_0 - (1 : Int)))).toNat RG.z).a2, (0 : Int), (L3.getD ((i64.wrap (y1_0 - (1 : Int)))).toNat RG.z).a4⟩ : RG))))) [.i (L3.getD ((i64.wrap (y1_0 - (1 : Int)))).toNat RG.z).a1]) true (ZkB (E := RB) (L := (L3.set ((i64.wrap (y1_0 - (1 : Int)))).toNat (⟨(L3.getD ((i64.wrap (y1_0 - (1 : Int)))).toNat RG.z).a0, (L3.getD ((i64.wrap (y1_0 - (1 : Int)))).toNat RG.z).a1, (L3.getD ((i64.wrap (y1_0 - (1 : Int)))).toNat RG.z).a2, (0 : Int), (L3.getD ((i64.wrap (y1_0 - (1 : Int)))).toNat RG.z).a4⟩ : RG))) (i := ((i64.wrap (y1_0 - (1 : Int)))).toNat) (q := 1) ltA (show ((0 + (((i64.wrap (y1_0 - (1 : Int)))).toNat * 5)) + 1) = ((i64.wrap (y1_0 - (1 : Int)))).toNat * 5 + 1 from by omega) (show 1 + 1 ≤ 5 from by decide) rfl (by rw [ZkA ltA]; first | done | rfl)) <| kX (Ze5 (ZY 1 (List.drop ((0 + (((i64.wrap (y1_0 - (1 : Int)))).toNat * 5)) + 1) (Za RB (L3.set ((i64.wrap (y1_0 - (1 : Int)))).toNat (⟨(L3.getD ((i64.wrap (y1_0 - (1 : Int)))).toNat RG.z).a0, (L3.getD ((i64.wrap (y1_0 - (1 : Int)))).toNat RG.z).a1, (L3.getD ((i64.wrap (y1_0 - (1 : Int)))).toNat RG.z).a2, (0 : Int), (L3.getD ((i64.wrap (y1_0 - (1 : Int)))).toNat RG.z).a4⟩ : RG))))) [.i (L3.getD ((i64.wrap (y1_0 - (1 : Int)))).toNat RG.z).a1]) true (ZkB (E := RB) (L := (L3.set ((i64.wrap (y1_0 - (1 : Int)))).toNat (⟨(L3.getD ((i64.wrap (y1_0 - (1 : Int)))).toNat RG.z).a0, (L3.getD ((i64.wrap (y1_0 - (1 : Int)))).toNat RG.z).a1, (L3.getD ((i64.wrap (y1_0 - (1 : Int)))).toNat RG.z).a2, (0 : Int), (L3.getD ((i64.wrap (y1_0 - (1 : Int)))).toNat RG.z).a4⟩ : RG))) (i := ((i64.wrap (y1_0 - (1 : Int)))).toNat) (q := 1) ltA (show ((0 + (((i64.wrap (y1_0 - (1 : Int)))).toNat * 5)) + 1) = ((i64.wrap (y1_0 - (1 : Int)))).toNat * 5 + 1 from by omega) (show 1 + 1 ≤ 5 from by decide) rfl (by rw [ZkA ltA]; first | done | rfl)) <| hY g6 w6) (bU2P hκ ((hpC a2 1 L3.length 2 L4.length 3 W5).set (κ + 3) (vs 22 0 ((W5 κ).length + 1) ((W5 κ).length + 1))) 1 (show (vs 20 0 L3.length L3.length : Value) = vs 20 0 (L3.set ((i64.wrap (y1_0 - (1 : Int)))).toNat (⟨(L3.getD ((i64.wrap (y1_0 - (1 : Int)))).toNat RG.z).a0, (L3.getD ((i64.wrap (y1_0 - (1 : Int)))).toNat RG.z).a1, (L3.getD ((i64.wrap (y1_0 - (1 : Int)))).toNat RG.z).a2, (0 : Int), (L3.getD ((i64.wrap (y1_0 - (1 : Int)))).toNat RG.z).a4⟩ : RG)).length (L3.set ((i64.wrap (y1_0 - (1 : Int)))).toNat (⟨(L3.getD ((i64.wrap (y1_0 - (1 : Int)))).toNat RG.z).a0, (L3.getD ((i64.wrap (y1_0 - (1 : Int)))).toNat RG.z).a1, (L3.getD ((i64.wrap (y1_0 - (1 : Int)))).toNat RG.z).a2, (0 : Int), (L3.getD ((i64.wrap (y1_0 - (1 : Int)))).toNat RG.z).a4⟩ : RG)).length from Zo rfl eqA eqA) (κ + 3) (show (vs (κ + 22) 0 ((W5 κ).length + 1) ((W5 κ).length + 1) : Value) = vs (κ + 22) 0 ((W5 κ) ++ ([y1_0] : List Int)).length ((W5 κ) ++ ([y1_0] : List Int)).length from Zo rfl eqA eqA) <| ZK <| bN <| bN <| bN <| bR <| bR <| Zs <| bQ <| bE)
     ·
      exact gxR Zr 1 (Ze (oq [3, 6, 8, 10]) [] [(0, ((i64.wrap (y1_0 - (1 : Int)))).toNat)] [(3, [.i (L3.getD ((i64.wrap (y1_0 - (1 : Int)))).toNat RG.z).a0])] [(0, (ZL c1 (rg 0 20 []) 21).t), (1, .st (Za RB (L3.set ((i64.wrap (y1_0 - (1 : Int)))).toNat (⟨(L3.getD ((i64.wrap (y1_0 - (1 : Int)))).toNat RG.z).a0, (L3.getD ((i64.wrap (y1_0 - (1 : Int)))).toNat RG.z).a1, (L3.getD ((i64.wrap (y1_0 - (1 : Int)))).toNat RG.z).a2, (0 : Int), (L3.getD ((i64.wrap (y1_0 - (1 : Int)))).toNat RG.z).a4⟩ : RG))))]) (0 :: (rg 900000001 19 (rg 1 19 []))) (vq) (hN g6 w6) (bU (hpC a2 1 L3.length 2 L4.length 3 W5) 1 (show (vs 20 0 L3.length L3.length : Value) = vs 20 0 (L3.set ((i64.wrap (y1_0 - (1 : Int)))).toNat (⟨(L3.getD ((i64.wrap (y1_0 - (1 : Int)))).toNat RG.z).a0, (L3.getD ((i64.wrap (y1_0 - (1 : Int)))).toNat RG.z).a1, (L3.getD ((i64.wrap (y1_0 - (1 : Int)))).toNat RG.z).a2, (0 : Int), (L3.getD ((i64.wrap (y1_0 - (1 : Int)))).toNat RG.z).a4⟩ : RG)).length (L3.set ((i64.wrap (y1_0 - (1 : Int)))).toNat (⟨(L3.getD ((i64.wrap (y1_0 - (1 : Int)))).toNat RG.z).a0, (L3.getD ((i64.wrap (y1_0 - (1 : Int)))).toNat RG.z).a1, (L3.getD ((i64.wrap (y1_0 - (1 : Int)))).toNat RG.z).a2, (0 : Int), (L3.getD ((i64.wrap (y1_0 - (1 : Int)))).toNat RG.z).a4⟩ : RG)).length from Zo rfl eqA eqA) <| ZK <| bN <| bN <| bN <| bR <| bR <| Zs <| bQ <| bE)
 ·
  exact gxR Zr 1 (Ze (oq [2]) [] [] [] []) (0 :: (rg 900000001 19 (rg 1 19 []))) (vi (4 : Int)) (kN (a2 > (0 : Int)) Zp) (bS (hpC a2 1 L3.length 2 L4.length 3 W5) <| ZK <| bN <| bN <| bN <| bR <| bR <| Zs <| bQ <| bE)

theorem Zit (a0 a1 a2 : Int) (L3 : List RG) (L4 : List RF) (W5 : Nat → List Int) (N : Nat) (r : Za4) (h : ZaV a0 a1 a2 L3 L4 W5 N = some r) : LSpec Try.prog 23 #[vp 0 0, Value.agg #[vi a0, vi a1]] (κo a2 L3 L4 W5) (Zgp a0 a1 a2 L3 L4 W5 r) (ZfE a0 a1 a2 L3 L4 W5 r) :=
 Zj2 a0 a1 a2 L3 L4 W5 N r h

noncomputable def ZbV {a0 : Int} {a1 : Int} {a2 : Int} {L3 : List RG} {L4 : List RF} {W5 : Nat → List Int} {w0 : Int} {w2 : List RG} {w4 : Nat → List Int} {N : Nat} (h : ZaV a0 a1 a2 L3 L4 W5 N = some (.r0 w0 w2 w4)) (ks : List Nat) (n : Nat) : ToldS := ⟨#[vp (nth ks 0) 0, Value.agg #[vi a0, vi a1]], (κF ks a2 L3 L4 W5), vi w0, [((nth ks 0), some (.cells [vi a2, vs n 0 w2.length w2.length, vs (n + 1) 0 L4.length L4.length, vs (n + 2) 0 (w4 0).length (w4 0).length, vs (n + 3) 0 (w4 1).length (w4 1).length, vs (n + 4) 0 (w4 2).length (w4 2).length, vs (n + 5) 0 (w4 3).length (w4 3).length, vs (n + 6) 0 (w4 4).length (w4 4).length, vs (n + 7) 0 (w4 5).length (w4 5).length, vs (n + 8) 0 (w4 6).length (w4 6).length, vs (n + 9) 0 (w4 7).length (w4 7).length, vs (n + 10) 0 (w4 8).length (w4 8).length, vs (n + 11) 0 (w4 9).length (w4 9).length, vs (n + 12) 0 (w4 10).length (w4 10).length, vs (n + 13) 0 (w4 11).length (w4 11).length, vs (n + 14) 0 (w4 12).length (w4 12).length, vs (n + 15) 0 (w4 13).length (w4 13).length, vs (n + 16) 0 (w4 14).length (w4 14).length, vs (n + 17) 0 (w4 15).length (w4 15).length, vs (n + 18) 0 (w4 16).length (w4 16).length] 67)), ((nth ks 1), none), ((nth ks 2), none), ((nth ks 3), none), ((nth ks 4), none), ((nth ks 5), none), ((nth ks 6), none), ((nth ks 7), none), ((nth ks 8), none), ((nth ks 9), none), ((nth ks 10), none), ((nth ks 11), none), ((nth ks 12), none), ((nth ks 13), none), ((nth ks 14), none), ((nth ks 15), none), ((nth ks 16), none), ((nth ks 17), none), ((nth ks 18), none), ((nth ks 19), none), (n, some (.cells (Za RB w2) 50)), ((n + 1), some (.cells (Za RA L4) 41)), ((n + 2), some (.cells (Za eI (w4 0)) 3 true)), ((n + 3), some (.cells (Za eI (w4 1)) 3 true)), ((n + 4), some (.cells (Za eI (w4 2)) 3 true)), ((n + 5), some (.cells (Za eI (w4 3)) 3 true)), ((n + 6), some (.cells (Za eI (w4 4)) 3 true)), ((n + 7), some (.cells (Za eI (w4 5)) 3 true)), ((n + 8), some (.cells (Za eI (w4 6)) 3 true)), ((n + 9), some (.cells (Za eI (w4 7)) 3 true)), ((n + 10), some (.cells (Za eI (w4 8)) 3 true)), ((n + 11), some (.cells (Za eI (w4 9)) 3 true)), ((n + 12), some (.cells (Za eI (w4 10)) 3 true)), ((n + 13), some (.cells (Za eI (w4 11)) 3 true)), ((n + 14), some (.cells (Za eI (w4 12)) 3 true)), ((n + 15), some (.cells (Za eI (w4 13)) 3 true)), ((n + 16), some (.cells (Za eI (w4 14)) 3 true)), ((n + 17), some (.cells (Za eI (w4 15)) 3 true)), ((n + 18), some (.cells (Za eI (w4 16)) 3 true))], 19⟩

theorem ZjV {a0 : Int} {a1 : Int} {a2 : Int} {L3 : List RG} {L4 : List RF} {W5 : Nat → List Int} {w0 : Int} {w2 : List RG} {w4 : Nat → List Int} {N : Nat} (h : ZaV a0 a1 a2 L3 L4 W5 N = some (.r0 w0 w2 w4)) (ks : List Nat) (n : Nat) (hk : ks.length = 20 := by rfl) (hnd : ks.Nodup := by decide +kernel) (hlt : ∀ k ∈ ks, k < n := by decide +kernel) : (ZbV (N := N)  h ks n).P Try.prog 23 n :=
 match ks, hk, hnd, hlt with
 | [k0, k1, k2, k3, k4, k5, k6, k7, k8, k9, k10, k11, k12, k13, k14, k15, k16, k17, k18, k19], _, hnd, hlt => Zad (show LSpec Try.prog 23 #[vp 0 0, Value.agg #[vi a0, vi a1]] (κo a2 L3 L4 W5) (vi w0) (some (.cells (hpC a2 20 w2.length 21 L4.length 22 w4) 67) :: none :: none :: none :: none :: none :: none :: none :: none :: none :: none :: none :: none :: none :: none :: none :: none :: none :: none :: none :: some (.cells (Za RB w2) 50) :: some (.cells (Za RA L4) 41) :: hpO w4 []) from Zit a0 a1 a2 L3 L4 W5 N _ h) _ n (rg 0 39 []) hnd hlt

noncomputable def ZlO (a0 : Int) (L1 : List RI) (L2 : List Int) (a3 a4 : Int) : ZaA → Value
 | .r0 w0 w1 => Value.tuple #[vi w0, vi w1]
noncomputable def ZkP (a0 : Int) (L1 : List RI) (L2 : List Int) (a3 a4 : Int) : ZaA → List (Option AObj)
 | .r0 w0 w1 => []

def Zqq : ZaB → Nat
 | .h1m0 v0 => 1
noncomputable def ZqU (a0 : Int) (L1 : List RI) (L2 : List Int) (a3 a4 : Int) : ZaB → List (Nat × Value)
 | .h1m0 v0 => [(2, vp 0 0), (3, vp 1 0), (6, vi (v0 : Int))]
noncomputable def ZqV (a0 : Int) (L1 : List RI) (L2 : List Int) (a3 a4 : Int) : ZaB → List (Option AObj)
 | .h1m0 v0 => [some (.cells [vi a0, ms RD L1, ms eI L2] 30), some (.cells [vi a3, vi a4] 41)]

noncomputable def Zef : Nat → Code × List ZaO
 | 1 => Zc4 [1, 1, 1, 0, 1, 3] (Zep Try.f59) []
 | _ => (.skip, [])
def ZkQ : Nat → Bool
 | 1 => true
 | _ => true
noncomputable def ZlP (i : Nat) : List ZaO := match ZkQ i with | true => .rnd i :: (Zef i).2 | false => (Zef i).2

noncomputable def Zeg (a0 : Int) (L1 : List RI) (L2 : List Int) (a3 a4 : Int) (N : Nat) : Mach := ⟨Try.f59, [], ZaB, ZaA, ZbC a0 L1 L2 a3 a4 N, Zqq, Zef, ZkQ, ZqU a0 L1 L2 a3 a4, ZqV a0 L1 L2 a3 a4, ZlO a0 L1 L2 a3 a4, ZkP a0 L1 L2 a3 a4⟩

theorem Zms (a0 : Int) (L1 : List RI) (L2 : List Int) (a3 a4 : Int) (v0 N : Nat) : (Zeg a0 L1 L2 a3 a4 N).Ok Try.prog Z7 (.h1m0 v0 : ZaB) (ZbC a0 L1 L2 a3 a4 N (.h1m0 v0 : ZaB)) := by
 show (Zeg a0 L1 L2 a3 a4 N).Ok Try.prog Z7 (.h1m0 v0 : ZaB) (Zct a0 L1 L2 a3 a4 N v0)
 unfold Zct
 refine Mach.ok_ite (fun g0 => ?_) (fun g0 => ?_)
 ·
  have w1 := kG RD L1 (((0 + (v0 * 9)) + 1) + 0) v0 1 2 9 <| kB v0 L1.length <| kI (v0 : Int) (Int.ofNat v0) <| hY g0 Zp
  refine Mach.ok_ite (fun g1 => ?_) (fun g1 => ?_)
  ·
   have w2 := kG RD L1 ((((0 + (v0 * 9)) + 1) + 2) + 3) v0 6 1 9 <| kB v0 L1.length <| kI (v0 : Int) (Int.ofNat v0) <| kZ (((L1.getD v0 RI.z).a1 == a3) && (((L1.getD v0 RI.z).a2 == a4) && true)) w1
   refine Mach.ok_ite (fun g2 => ?_) (fun g2 => ?_)
   ·
    exact Mach.okF (Ze (oq [1, 3, 5]) [] [(0, v0), (1, v0)] [(2, [.i (L1.getD v0 RI.z).a1, .i (L1.getD v0 RI.z).a2]), (5, [.i (L1.getD v0 RI.z).a6])] []) [] (Value.tuple #[vi (v0 : Int), vq]) (hD g2 w2) bE
   ·
    refine Mach.ok_ite (fun g3 => ?_) (fun _ => Mach.ok_none)
    exact Mach.okN (Ze (oq [1, 3, 4]) [(0, (((v0 + 1) : Nat) : Int))] [(0, v0), (1, v0)] [(2, [.i (L1.getD v0 RI.z).a1, .i (L1.getD v0 RI.z).a2]), (5, [.i (L1.getD v0 RI.z).a6])] []) [0, 1] [some (vp 0 0), some (vp 1 0), some (vi (((v0 + 1) : Nat) : Int))] (kW ((v0 : Int) + (1 : Int)) (((v0 + 1) : Nat) : Int) <| kE ((L1.getD v0 RI.z).a6) (0 : Int) w2) (tC (tC (tC (tE)))) (bS [vi a0, ms RD L1, ms eI L2] <| bS [vi a3, vi a4] <| bE) (show 1 ∈ ZC (ZlP 1) from by decide +kernel)
  ·
   refine Mach.ok_ite (fun g2 => ?_) (fun _ => Mach.ok_none)
   exact Mach.okN (Ze (oq [1, 2]) [(0, (((v0 + 1) : Nat) : Int))] [(0, v0)] [(2, [.i (L1.getD v0 RI.z).a1, .i (L1.getD v0 RI.z).a2])] []) [0, 1] [some (vp 0 0), some (vp 1 0), some (vi (((v0 + 1) : Nat) : Int))] (kW ((v0 : Int) + (1 : Int)) (((v0 + 1) : Nat) : Int) <| kO (((L1.getD v0 RI.z).a1 == a3) && (((L1.getD v0 RI.z).a2 == a4) && true)) w1) (tC (tC (tC (tE)))) (bS [vi a0, ms RD L1, ms eI L2] <| bS [vi a3, vi a4] <| bE) (show 1 ∈ ZC (ZlP 1) from by decide +kernel)
 ·
  exact Mach.okF (Ze (oq [0]) [] [] [] []) [] (Value.tuple #[vq, vi (21 : Int)]) (hN g0 Zp) bE

theorem ZoG (a0 : Int) (L1 : List RI) (L2 : List Int) (a3 a4 : Int) (N : Nat) : (Zeg a0 L1 L2 a3 a4 N).Enter Try.prog Z7 #[Value.agg (κb a0 L1 L2), Value.agg #[vi a3, vi a4]] (Zhu a0 L1 L2 a3 a4 N) := by
 unfold Zhu
 refine Mach.en_ite (fun g0 => ?_) (fun g0 => ?_)
 ·
  exact Mach.enF (Ze (oq [1]) [] [] [] []) [] κK (hD g0 Zp) bE
 ·
  have w1 := kT a3 (2 : Int) <| kF a3 (1 : Int) <| kE a3 (2 : Int) Zp
  refine Mach.en_ite (fun g1 => ?_) (fun g1 => ?_)
  ·
   exact Mach.enF (Ze (oq [0, 2, 5, 7, 11]) [] [] [] []) [] (Value.tuple #[vq, vi (11 : Int)]) (hT g1 <| hT g1 w1) bE
  ·
   refine Mach.en_ite (fun g2 => ?_) (fun g2 => ?_)
   ·
    refine Mach.en_ite (fun g3 => ?_) (fun _ => Mach.en_none)
    have w4 := kV a4 (1048576 : Int) <| kY (a4 ≥ (1048576 : Int)) <| hF g1 w1
    refine Mach.en_ite (fun g4 => ?_) (fun g4 => ?_)
    ·
     refine Mach.en_ite (fun g5 => ?_) (fun g5 => ?_)
     ·
      exact Mach.en_head (bK := Zef 1) (M := Zeg a0 L1 L2 a3 a4 N) (cd := 1000000) (cm := 0) (y := (.h1m0 (0) : ZaB)) (fu := 4000) (orc := (Ze (oq [0, 2, 5, 6, 9, 11, 13, 16]) [(0, (a4 / (1048576 : Int))), (1, (a4 % (1048576 : Int)))] [] [] [])) (live := [0, 1]) (tv := [some (vp 0 0), some (vp 1 0), some (vq)]) (bl := [some (.cells [vi a0, ms RD L1, ms eI L2] 30), some (.cells [vi a3, vi a4] 41)]) rfl rfl (show ZC (Zef 1).2 = [] from rfl) (by kernel_rfl) (hF g1 <| kY ((a4 % (1048576 : Int)) ≥ (1 : Int)) <| kM a4 (1048576 : Int) <| hY g4 w4) rfl (by decide +kernel) (by rfl) ⟨rr, ⟨rr, ⟨⟨Eq.trans (show κG = vq from (congrArg (Value.int .i64) (by first | rfl | omega))) (by rfl), by rfl⟩, trivial⟩⟩⟩ ⟨sm, ⟨sm, trivial⟩⟩
     ·
      exact Mach.enF (Ze (oq [0, 2, 5, 6, 9, 11, 12]) [(0, (a4 / (1048576 : Int))), (1, (a4 % (1048576 : Int)))] [] [] []) [] κK (kN ((a4 % (1048576 : Int)) ≥ (1 : Int)) <| kM a4 (1048576 : Int) <| hY g4 w4) bE
    ·
     exact Mach.enF (Ze (oq [0, 2, 5, 6, 9, 10]) [(0, (a4 / (1048576 : Int)))] [] [] []) [] κK (hN g4 w4) bE
   ·
    exact Mach.enF (Ze (oq [0, 2, 5, 6, 8]) [] [] [] []) [] κK (kN (a4 ≥ (1048576 : Int)) <| hF g1 w1) bE

theorem Zno (a0 : Int) (L1 : List RI) (L2 : List Int) (a3 a4 : Int) (N : Nat) (r : ZaA) (h : Zas a0 L1 L2 a3 a4 N = some r) : LSpec Try.prog 59 #[Value.agg (κb a0 L1 L2), Value.agg #[vi a3, vi a4]] [] (ZlO a0 L1 L2 a3 a4 r) (ZkP a0 L1 L2 a3 a4 r) :=
 Mach.spec Zr (Zeg a0 L1 L2 a3 a4 N) Try.func59 (by kernel_rfl) (by kernel_rfl) (fun x => by cases x <;> exact ZH _ rfl) (fun r => by cases r <;> exact ZH _ rfl) (fun x => by
  cases x with
  | h1m0 _ => exact fun _ => (show ¬ (1 ∈ ZC (Zef 1).2) from by decide +kernel)
  ) (fun x => (show (Zeg a0 L1 L2 a3 a4 N).Ok Try.prog Z7 x (ZbC a0 L1 L2 a3 a4 N x) from by
  cases x with
  | h1m0 v0 => exact Zms a0 L1 L2 a3 a4 v0 N
  )) (ZoG a0 L1 L2 a3 a4 N) (n := N) h

noncomputable def Z2 {a0 : Int} {L1 : List RI} {L2 : List Int} {a3 : Int} {a4 : Int} {w0 : Int} {w1 : Int} {N : Nat} (h : Zas a0 L1 L2 a3 a4 N = some (.r0 w0 w1)) (ks : List Nat) (n : Nat) : ToldS := ⟨#[Value.agg (κb a0 L1 L2), Value.agg #[vi a3, vi a4]], [], Value.tuple #[vi w0, vi w1], [], 0⟩

theorem Zd8 {a0 : Int} {L1 : List RI} {L2 : List Int} {a3 : Int} {a4 : Int} {w0 : Int} {w1 : Int} {N : Nat} (h : Zas a0 L1 L2 a3 a4 N = some (.r0 w0 w1)) (ks : List Nat) (n : Nat) (hk : ks.length = 0 := by rfl) (hnd : ks.Nodup := by decide +kernel) (hlt : ∀ k ∈ ks, k < n := by decide +kernel) : (Z2 (N := N)  h ks n).P Try.prog 59 n :=
 match ks, hk, hnd, hlt with
 | [], _, hnd, hlt => Zad (show LSpec Try.prog 59 #[Value.agg (κb a0 L1 L2), Value.agg #[vi a3, vi a4]] [] (Value.tuple #[vi w0, vi w1]) [] from Zno a0 L1 L2 a3 a4 N _ h) _ n [] hnd hlt

noncomputable def ZiV (a0 : Int) (L1 : List RI) (L2 : List Int) (a3 a4 a5 a6 a7 a8 a9 a10 a11 : Int) (L12 : List RF) : ZbQ → Value
 | .r0 => Value.agg #[vi a0, vs 0 0 L1.length L1.length, ms eI L2]
noncomputable def ZhX (a0 : Int) (L1 : List RI) (L2 : List Int) (a3 a4 a5 a6 a7 a8 a9 a10 a11 : Int) (L12 : List RF) : ZbQ → List (Option AObj)
 | .r0 => [some (.cells (Za RD (L1.set (a3).toNat (⟨a4, a5, a6, a7, a8, a9, a10, a11, L12⟩ : RI))) 71)]

noncomputable abbrev κu (a0 : Int) (L1 : List RI) (a3 : Int) (a4 : Int) (a5 : Int) (a6 : Int) (a7 : Int) (a8 : Int) (a9 : Int) (a10 : Int) (a11 : Int) (L12 : List RF) (L2 : List Int) := #[vi a0, ms RD (L1.set (a3).toNat (⟨a4, a5, a6, a7, a8, a9, a10, a11, L12⟩ : RI)), ms eI L2]
noncomputable def ZoH (a0 : Int) (L1 : List RI) (L2 : List Int) (a3 a4 a5 a6 a7 a8 a9 a10 a11 : Int) (L12 : List RF) : ZbQ → Value
 | .r0 => Value.agg (κu a0 L1 a3 a4 a5 a6 a7 a8 a9 a10 a11 L12 L2)
noncomputable def ZnL (a0 : Int) (L1 : List RI) (L2 : List Int) (a3 a4 a5 a6 a7 a8 a9 a10 a11 : Int) (L12 : List RF) : ZbQ → List (Option AObj)
 | .r0 => []

theorem Znp (a0 : Int) (L1 : List RI) (L2 : List Int) (a3 a4 a5 a6 a7 a8 a9 a10 a11 : Int) (L12 : List RF) (N : Nat) : Fx Try.prog Z7 Try.f58 [] #[Value.agg (κb a0 L1 L2), vi a3, Value.agg #[vi a4, vi a5, vi a6, vi a7, vi a8, vi a9, vi a10, vi a11, ms RA L12]] (ZiV a0 L1 L2 a3 a4 a5 a6 a7 a8 a9 a10 a11 L12) (ZhX a0 L1 L2 a3 a4 a5 a6 a7 a8 a9 a10 a11 L12) (Zbh a0 L1 L2 a3 a4 a5 a6 a7 a8 a9 a10 a11 L12 N) := by
 unfold Zbh
 refine Zh (fun _ => Zq) (fun g0 => ?_)
 refine Zh (fun g1 => ?_) (fun _ => Zq)
 refine Zh (fun g2 => ?_) (fun _ => Zq)
 refine Zh (fun g3 => ?_) (fun _ => Zq)
 exact fxC (Ze (oq []) [] [(0, (a3).toNat)] [] [(0, .ap L1.length (Za RD L1) (Za RD L1)), (1, .st (Za RD (L1.set (a3).toNat (⟨a4, a5, a6, a7, a8, a9, a10, a11, L12⟩ : RI))))]) [4] (Value.agg #[vi a0, vs 4 0 (0 + L1.length) (0 + L1.length), ms eI L2]) (kC (Za8 (E := RD) (L := L1) (i := (a3).toNat) (q := 0) (l := [vi a4, vi a5, vi a6, vi a7, vi a8, vi a9, vi a10, vi a11, ms RA L12]) (⟨a4, a5, a6, a7, a8, a9, a10, a11, L12⟩ : RI) (by omega) (show (0 + ((a3).toNat * 9)) = (a3).toNat * 9 + 0 from by omega) (show 0 + 9 ≤ 9 from by decide) rfl) <| kB (a3).toNat (0 + L1.length) <| kI a3 (Int.ofNat (a3).toNat) <| kX (dP ((L1.length = L1.length ∧ ((L1.length * 9 = 0 ∧ (Za RD L1) = []) ∨ ∃ c, L1.length * 9 ≠ 0 ∧ Zam (code (ZW RD L1)) 0 (L1.length * 9) = some c ∧ (Za RD L1) = Zu c)) ∧ 0 < L1.length ∧ L1.length ≤ 100000 ∧ 0 < 0 + L1.length ∧ 0 ≤ 100000 ∧ 0 * 9 ≤ (List.length []) ∧ List.take (0 * 9) [] ++ (Za RD L1) = (Za RD L1))) true (Za1 ⟨⟨rfl, (ZeR (E := RD) (L := L1) (n := L1.length) (size := 9) rfl (by decide) (by omega))⟩, by omega, by omega, ltA, by omega, (Zdq (E := RD) (L := ([] : List RI)) (M := L1) (n := 0) (show _ = _ * 9 from rfl) ltA (R := L1) (by rw [List.take_of_length_le ltA]; rfl))⟩) Zp) (bR <| bE) (hv := ⟨Eq.trans (show (Value.agg #[vi a0, vs 0 0 L1.length L1.length, ms eI L2] : Value) = Value.agg #[vi a0, vs 0 0 (0 + L1.length) (0 + L1.length), ms eI L2] from (Zci (Zf rfl (Zf (Zo rfl eqA eqA) (Zf rfl rfl))))) (by rfl), by rfl⟩)

theorem ZkR (a0 : Int) (L1 : List RI) (L2 : List Int) (a3 a4 a5 a6 a7 a8 a9 a10 a11 : Int) (L12 : List RF) (N : Nat) (r : ZbQ) (h : Zbh a0 L1 L2 a3 a4 a5 a6 a7 a8 a9 a10 a11 L12 N = some r) : LSpec Try.prog 58 #[Value.agg (κb a0 L1 L2), vi a3, Value.agg #[vi a4, vi a5, vi a6, vi a7, vi a8, vi a9, vi a10, vi a11, ms RA L12]] [] (ZiV a0 L1 L2 a3 a4 a5 a6 a7 a8 a9 a10 a11 L12 r) (ZhX a0 L1 L2 a3 a4 a5 a6 a7 a8 a9 a10 a11 L12 r) :=
 ZaK Zr Try.func58 (by kernel_rfl) (by kernel_rfl) (fun r => by cases r <;> exact ZH _ rfl) (Znp a0 L1 L2 a3 a4 a5 a6 a7 a8 a9 a10 a11 L12 N) h

theorem Zl3 (a0 : Int) (L1 : List RI) (L2 : List Int) (a3 a4 a5 a6 a7 a8 a9 a10 a11 : Int) (L12 : List RF) (N : Nat) (r : ZbQ) (h : Zbh a0 L1 L2 a3 a4 a5 a6 a7 a8 a9 a10 a11 L12 N = some r) : LSpec Try.prog 58 #[Value.agg (κb a0 L1 L2), vi a3, Value.agg #[vi a4, vi a5, vi a6, vi a7, vi a8, vi a9, vi a10, vi a11, ms RA L12]] [] (ZoH a0 L1 L2 a3 a4 a5 a6 a7 a8 a9 a10 a11 L12 r) (ZnL a0 L1 L2 a3 a4 a5 a6 a7 a8 a9 a10 a11 L12 r) := by
 have h0 := ZkR a0 L1 L2 a3 a4 a5 a6 a7 a8 a9 a10 a11 L12 N r h
 cases r with
 | r0 => exact (LSpec.frzv (E := RD) (L := (L1.set (a3).toNat (⟨a4, a5, a6, a7, a8, a9, a10, a11, L12⟩ : RI))) (post := []) (v2 := Value.agg (κu a0 L1 a3 a4 a5 a6 a7 a8 a9 a10 a11 L12 L2)) h0 (show 0 ≤ 0 from by decide) (show 0 < 1000000000 from by decide) trivial rfl (Zci (Zf rfl (Zf (ZhO eqA eqA) (Zf rfl rfl)))) rfl)

noncomputable def Zcc {a0 : Int} {L1 : List RI} {L2 : List Int} {a3 : Int} {a4 : Int} {a5 : Int} {a6 : Int} {a7 : Int} {a8 : Int} {a9 : Int} {a10 : Int} {a11 : Int} {L12 : List RF} {N : Nat} (h : Zbh a0 L1 L2 a3 a4 a5 a6 a7 a8 a9 a10 a11 L12 N = some (.r0)) (ks : List Nat) (n : Nat) : ToldS := ⟨#[Value.agg (κb a0 L1 L2), vi a3, Value.agg #[vi a4, vi a5, vi a6, vi a7, vi a8, vi a9, vi a10, vi a11, ms RA L12]], [], Value.agg (κu a0 L1 a3 a4 a5 a6 a7 a8 a9 a10 a11 L12 L2), [], 0⟩

theorem ZcM {a0 : Int} {L1 : List RI} {L2 : List Int} {a3 : Int} {a4 : Int} {a5 : Int} {a6 : Int} {a7 : Int} {a8 : Int} {a9 : Int} {a10 : Int} {a11 : Int} {L12 : List RF} {N : Nat} (h : Zbh a0 L1 L2 a3 a4 a5 a6 a7 a8 a9 a10 a11 L12 N = some (.r0)) (ks : List Nat) (n : Nat) (hk : ks.length = 0 := by rfl) (hnd : ks.Nodup := by decide +kernel) (hlt : ∀ k ∈ ks, k < n := by decide +kernel) : (Zcc (N := N)  h ks n).P Try.prog 58 n :=
 match ks, hk, hnd, hlt with
 | [], _, hnd, hlt => Zad (show LSpec Try.prog 58 #[Value.agg (κb a0 L1 L2), vi a3, Value.agg #[vi a4, vi a5, vi a6, vi a7, vi a8, vi a9, vi a10, vi a11, ms RA L12]] [] (Value.agg (κu a0 L1 a3 a4 a5 a6 a7 a8 a9 a10 a11 L12 L2)) [] from Zl3 a0 L1 L2 a3 a4 a5 a6 a7 a8 a9 a10 a11 L12 N _ h) _ n [] hnd hlt

set_option linter.unusedVariables false
set_option maxRecDepth 100000
set_option maxHeartbeats 4000000
noncomputable def ZhY (a0 : Int) (L1 : List RI) (L2 : List Int) (a3 a4 : Int) : Zaz → Value
 | .r0 w1 w3 => Value.tuple #[Value.agg #[vi a0, ms RD w1, ms eI L2], vi w3]
 | .r1 w1 w2 => Value.tuple #[Value.agg #[vi a0, ms RD w1, vs 0 0 w2.length w2.length], vq]
noncomputable def Zh4 (a0 : Int) (L1 : List RI) (L2 : List Int) (a3 a4 : Int) : Zaz → List (Option AObj)
 | .r0 w1 w3 => []
 | .r1 w1 w2 => [some (.cells (Za eI w2) 3)]

noncomputable def ZnM (a0 : Int) (L1 : List RI) (L2 : List Int) (a3 a4 : Int) : Zaz → Value
 | .r0 w1 w3 => Value.tuple #[Value.agg #[vi a0, ms RD w1, ms eI L2], vi w3]
 | .r1 w1 w2 => Value.tuple #[Value.agg #[vi a0, ms RD w1, ms eI w2], vq]
noncomputable def Znq (a0 : Int) (L1 : List RI) (L2 : List Int) (a3 a4 : Int) : Zaz → List (Option AObj)
 | .r0 w1 w3 => []
 | .r1 w1 w2 => []

theorem Zmt (a0 : Int) (L1 : List RI) (L2 : List Int) (a3 a4 : Int) (N : Nat) : Fx Try.prog Z7 Try.f28 [] #[Value.agg (κb a0 L1 L2), Value.agg #[vi a3, vi a4]] (ZhY a0 L1 L2 a3 a4) (Zh4 a0 L1 L2 a3 a4) (ZaP a0 L1 L2 a3 a4 N) := by
 unfold ZaP
 refine Zbb (fun z0 c0 => ?_)
 cases z0 with
 | r0 y0_0 y0_1 =>
  have w1 := kK (Zd8 c0 [] 3) Zp
  refine Zh (fun g1 => ?_) (fun g1 => ?_)
  ·
   exact fxC (Ze (oq [1]) [] [] [] [(0, (Z2 c0 [] 3).t)]) [] (Value.tuple #[Value.agg (κb a0 L1 L2), vi y0_1]) (hD g1 w1) bE
  ·
   refine Zh (fun g2 => ?_) (fun g2 => ?_)
   ·
    exact fxC (Ze (oq [0, 3]) [] [] [] [(0, (Z2 c0 [] 3).t)]) [] (Value.tuple #[Value.agg (κb a0 L1 L2), vi (1 : Int)]) (hT g2 <| kE y0_1 (0 : Int) w1) bE
   ·
    refine Zh (fun g3 => ?_) (fun _ => Zq)
    refine Zh (fun g4 => ?_) (fun _ => Zq)
    have w5 := kG RD L1 (0 + ((y0_0).toNat * 9)) ((y0_0).toNat) 0 9 9 <| kB (y0_0).toNat L1.length <| kI y0_0 (Int.ofNat (y0_0).toNat) <| hF g2 <| kE y0_1 (0 : Int) w1
    refine Zbb (fun z5 c5 => ?_)
    cases z5 with
    | r0 =>
     refine Zh (fun g6 => ?_) (fun g6 => ?_)
     ·
      refine Zh (fun g7 => ?_) (fun g7 => ?_)
      ·
       exact fxC (Ze (oq [0, 2, 5]) [] [(0, (y0_0).toNat)] [(3, (RD.cel (L1.getD (y0_0).toNat RI.z)))] [(0, (Z2 c0 [] 3).t), (3, (Zcc c5 [] 4).t), (5, .ap0)]) [5] (Value.tuple #[Value.agg #[vi a0, ms RD (L1.set (y0_0).toNat (⟨(L1.getD (y0_0).toNat RI.z).a0, (L1.getD (y0_0).toNat RI.z).a1, (L1.getD (y0_0).toNat RI.z).a2, (L1.getD (y0_0).toNat RI.z).a3, (L1.getD (y0_0).toNat RI.z).a4, (L1.getD (y0_0).toNat RI.z).a5, (0 : Int), (L1.getD (y0_0).toNat RI.z).a7, (L1.getD (y0_0).toNat RI.z).a8⟩ : RI)), vs 5 0 1 1], vq]) (kX (dP (0 = L2.length ∧ ((L2.length * 1 = 0 ∧ ([] : List Value) = []) ∨ ∃ c, L2.length * 1 ≠ 0 ∧ Zam (code (ZW eI L2)) 0 (L2.length * 1) = some c ∧ ([] : List Value) = Zu c))) true (Za1 ⟨by omega, .inl ⟨by omega, rfl⟩⟩) <| hY g6 <| kK (ZcM c5 [] 4) w5) (bC (o := .cells [vi y0_0] 3) (ZeC (E := eI) _ (L := ([y0_0] : List Int)) _ (show ([vi y0_0] : List Value) = Za eI ([y0_0] : List Int) from rfl)) <| bE) (hv := ⟨Eq.trans (show (Value.tuple #[Value.agg #[vi a0, ms RD (L1.set (y0_0).toNat (⟨(L1.getD (y0_0).toNat RI.z).a0, (L1.getD (y0_0).toNat RI.z).a1, (L1.getD (y0_0).toNat RI.z).a2, (L1.getD (y0_0).toNat RI.z).a3, (L1.getD (y0_0).toNat RI.z).a4, (L1.getD (y0_0).toNat RI.z).a5, (0 : Int), (L1.getD (y0_0).toNat RI.z).a7, (L1.getD (y0_0).toNat RI.z).a8⟩ : RI)), vs 0 0 ([y0_0] : List Int).length ([y0_0] : List Int).length], vq] : Value) = Value.tuple #[Value.agg #[vi a0, ms RD (L1.set (y0_0).toNat (⟨(L1.getD (y0_0).toNat RI.z).a0, (L1.getD (y0_0).toNat RI.z).a1, (L1.getD (y0_0).toNat RI.z).a2, (L1.getD (y0_0).toNat RI.z).a3, (L1.getD (y0_0).toNat RI.z).a4, (L1.getD (y0_0).toNat RI.z).a5, (0 : Int), (L1.getD (y0_0).toNat RI.z).a7, (L1.getD (y0_0).toNat RI.z).a8⟩ : RI)), vs 0 0 1 1], vq] from (Zhm (Zf (Zci (Zf rfl (Zf rfl (Zf (Zo rfl eqA eqA) rfl)))) (Zf rfl rfl)))) (by rfl), by rfl⟩)
      ·
       refine Zh (fun g8 => ?_) (fun _ => Zq)
       exact fxC (Ze (oq [0, 2, 5]) [] [(0, (y0_0).toNat)] [(3, (RD.cel (L1.getD (y0_0).toNat RI.z)))] [(0, (Z2 c0 [] 3).t), (3, (Zcc c5 [] 4).t), (5, .ap L2.length (Za eI L2) (Za eI L2)), (6, .ap 1 [vi y0_0] (Za eI (L2 ++ ([y0_0] : List Int))))]) [6] (Value.tuple #[Value.agg #[vi a0, ms RD (L1.set (y0_0).toNat (⟨(L1.getD (y0_0).toNat RI.z).a0, (L1.getD (y0_0).toNat RI.z).a1, (L1.getD (y0_0).toNat RI.z).a2, (L1.getD (y0_0).toNat RI.z).a3, (L1.getD (y0_0).toNat RI.z).a4, (L1.getD (y0_0).toNat RI.z).a5, (0 : Int), (L1.getD (y0_0).toNat RI.z).a7, (L1.getD (y0_0).toNat RI.z).a8⟩ : RI)), vs 6 0 (L2.length + 1) (L2.length + 1)], vq]) (kA eI L2 y0_0 <| kX (dP ((L2.length = L2.length ∧ ((L2.length * 1 = 0 ∧ (Za eI L2) = []) ∨ ∃ c, L2.length * 1 ≠ 0 ∧ Zam (code (ZW eI L2)) 0 (L2.length * 1) = some c ∧ (Za eI L2) = Zu c)) ∧ 0 < L2.length ∧ L2.length ≤ 100000 ∧ (Za eI L2) = (Za eI L2))) true (Za1 ⟨⟨rfl, (ZeR (E := eI) (L := L2) (n := L2.length) (size := 1) rfl (by decide) (by omega))⟩, by omega, by omega, rfl⟩) <| hY g6 <| kK (ZcM c5 [] 4) w5) (bR <| bE) (hv := ⟨Eq.trans (show (Value.tuple #[Value.agg #[vi a0, ms RD (L1.set (y0_0).toNat (⟨(L1.getD (y0_0).toNat RI.z).a0, (L1.getD (y0_0).toNat RI.z).a1, (L1.getD (y0_0).toNat RI.z).a2, (L1.getD (y0_0).toNat RI.z).a3, (L1.getD (y0_0).toNat RI.z).a4, (L1.getD (y0_0).toNat RI.z).a5, (0 : Int), (L1.getD (y0_0).toNat RI.z).a7, (L1.getD (y0_0).toNat RI.z).a8⟩ : RI)), vs 0 0 (L2 ++ ([y0_0] : List Int)).length (L2 ++ ([y0_0] : List Int)).length], vq] : Value) = Value.tuple #[Value.agg #[vi a0, ms RD (L1.set (y0_0).toNat (⟨(L1.getD (y0_0).toNat RI.z).a0, (L1.getD (y0_0).toNat RI.z).a1, (L1.getD (y0_0).toNat RI.z).a2, (L1.getD (y0_0).toNat RI.z).a3, (L1.getD (y0_0).toNat RI.z).a4, (L1.getD (y0_0).toNat RI.z).a5, (0 : Int), (L1.getD (y0_0).toNat RI.z).a7, (L1.getD (y0_0).toNat RI.z).a8⟩ : RI)), vs 0 0 (L2.length + 1) (L2.length + 1)], vq] from (Zhm (Zf (Zci (Zf rfl (Zf rfl (Zf (Zo rfl eqA eqA) rfl)))) (Zf rfl rfl)))) (by rfl), by rfl⟩)
     ·
      exact fxC (Ze (oq [0, 2, 4]) [] [(0, (y0_0).toNat)] [(3, (RD.cel (L1.getD (y0_0).toNat RI.z)))] [(0, (Z2 c0 [] 3).t), (3, (Zcc c5 [] 4).t)]) [] (Value.tuple #[Value.agg #[vi a0, ms RD (L1.set (y0_0).toNat (⟨(L1.getD (y0_0).toNat RI.z).a0, (L1.getD (y0_0).toNat RI.z).a1, (L1.getD (y0_0).toNat RI.z).a2, (L1.getD (y0_0).toNat RI.z).a3, (L1.getD (y0_0).toNat RI.z).a4, (L1.getD (y0_0).toNat RI.z).a5, (0 : Int), (L1.getD (y0_0).toNat RI.z).a7, (L1.getD (y0_0).toNat RI.z).a8⟩ : RI)), ms eI L2], vq]) (hN g6 <| kK (ZcM c5 [] 4) w5) bE

theorem ZjW (a0 : Int) (L1 : List RI) (L2 : List Int) (a3 a4 : Int) (N : Nat) (r : Zaz) (h : ZaP a0 L1 L2 a3 a4 N = some r) : LSpec Try.prog 28 #[Value.agg (κb a0 L1 L2), Value.agg #[vi a3, vi a4]] [] (ZhY a0 L1 L2 a3 a4 r) (Zh4 a0 L1 L2 a3 a4 r) :=
 ZaK Zr Try.func28 (by kernel_rfl) (by kernel_rfl) (fun r => by cases r <;> exact ZH _ rfl) (Zmt a0 L1 L2 a3 a4 N) h

theorem Zgq (a0 : Int) (L1 : List RI) (L2 : List Int) (a3 a4 : Int) (N : Nat) (r : Zaz) (h : ZaP a0 L1 L2 a3 a4 N = some r) : LSpec Try.prog 28 #[Value.agg (κb a0 L1 L2), Value.agg #[vi a3, vi a4]] [] (ZnM a0 L1 L2 a3 a4 r) (Znq a0 L1 L2 a3 a4 r) := by
 have h0 := ZjW a0 L1 L2 a3 a4 N r h
 cases r with
 | r0 _ _ => exact h0
 | r1 w1 w2 => exact (LSpec.frzv (E := eI) (L := w2) (post := []) (v2 := Value.tuple #[Value.agg #[vi a0, ms RD w1, ms eI w2], vq]) h0 (show 0 ≤ 0 from by decide) (show 0 < 1000000000 from by decide) trivial rfl rfl rfl)

noncomputable def Zf7 {a0 : Int} {L1 : List RI} {L2 : List Int} {a3 : Int} {a4 : Int} {w1 : List RI} {w3 : Int} {N : Nat} (h : ZaP a0 L1 L2 a3 a4 N = some (.r0 w1 w3)) (ks : List Nat) (n : Nat) : ToldS := ⟨#[Value.agg (κb a0 L1 L2), Value.agg #[vi a3, vi a4]], [], Value.tuple #[Value.agg #[vi a0, ms RD w1, ms eI L2], vi w3], [], 0⟩

theorem ZhZ {a0 : Int} {L1 : List RI} {L2 : List Int} {a3 : Int} {a4 : Int} {w1 : List RI} {w3 : Int} {N : Nat} (h : ZaP a0 L1 L2 a3 a4 N = some (.r0 w1 w3)) (ks : List Nat) (n : Nat) (hk : ks.length = 0 := by rfl) (hnd : ks.Nodup := by decide +kernel) (hlt : ∀ k ∈ ks, k < n := by decide +kernel) : (Zf7 (N := N)  h ks n).P Try.prog 28 n :=
 match ks, hk, hnd, hlt with
 | [], _, hnd, hlt => Zad (show LSpec Try.prog 28 #[Value.agg (κb a0 L1 L2), Value.agg #[vi a3, vi a4]] [] (Value.tuple #[Value.agg #[vi a0, ms RD w1, ms eI L2], vi w3]) [] from Zgq a0 L1 L2 a3 a4 N _ h) _ n [] hnd hlt

noncomputable def Zf8 {a0 : Int} {L1 : List RI} {L2 : List Int} {a3 : Int} {a4 : Int} {w1 : List RI} {w2 : List Int} {N : Nat} (h : ZaP a0 L1 L2 a3 a4 N = some (.r1 w1 w2)) (ks : List Nat) (n : Nat) : ToldS := ⟨#[Value.agg (κb a0 L1 L2), Value.agg #[vi a3, vi a4]], [], Value.tuple #[Value.agg #[vi a0, ms RD w1, ms eI w2], vq], [], 0⟩

theorem Zia {a0 : Int} {L1 : List RI} {L2 : List Int} {a3 : Int} {a4 : Int} {w1 : List RI} {w2 : List Int} {N : Nat} (h : ZaP a0 L1 L2 a3 a4 N = some (.r1 w1 w2)) (ks : List Nat) (n : Nat) (hk : ks.length = 0 := by rfl) (hnd : ks.Nodup := by decide +kernel) (hlt : ∀ k ∈ ks, k < n := by decide +kernel) : (Zf8 (N := N)  h ks n).P Try.prog 28 n :=
 match ks, hk, hnd, hlt with
 | [], _, hnd, hlt => Zad (show LSpec Try.prog 28 #[Value.agg (κb a0 L1 L2), Value.agg #[vi a3, vi a4]] [] (Value.tuple #[Value.agg #[vi a0, ms RD w1, ms eI w2], vq]) [] from Zgq a0 L1 L2 a3 a4 N _ h) _ n [] hnd hlt

noncomputable def Zf9 (a0 a1 a2 a3 : Int) (L4 : List RG) (L5 : List RF) (W6 : Nat → List Int) : Zaj → Value
 | .r0 w19 w20 => Value.tuple #[vi w19, vi w20]
noncomputable abbrev κE (a3 : Int) (L4 : List RG) (L5 : List RF) (W6 : Nat → List Int) := (some (AObj.cells (hpC a3 1 L4.length 2 L5.length 3 W6) 67) :: some (AObj.cells (Za RB L4) 50) :: some (AObj.cells (Za RA L5) 41) :: hpO W6 [])
noncomputable def Zfl (a0 a1 a2 a3 : Int) (L4 : List RG) (L5 : List RF) (W6 : Nat → List Int) : Zaj → List (Option AObj)
 | .r0 w19 w20 => (κE a3 L4 L5 W6)

theorem Ziu (a0 a1 a2 a3 : Int) (L4 : List RG) (L5 : List RF) (W6 : Nat → List Int) (N : Nat) : Fx Try.prog Z7 Try.f51 (κf a3 L4 L5 W6) #[vp 0 0, Value.agg #[vi a0, vi a1], vi a2] (Zf9 a0 a1 a2 a3 L4 L5 W6) (Zfl a0 a1 a2 a3 L4 L5 W6) (Zaf a0 a1 a2 a3 L4 L5 W6 N) := by
 unfold Zaf
 refine Zh (fun g0 => ?_) (fun g0 => ?_)
 ·
  refine Zbb (fun z1 c1 => ?_)
  cases z1 with
  | r0 y1_0 y1_1 =>
   have w2 := kK (ZdU c1 (rg 0 20 []) 21) <| kY (a3 > (0 : Int)) Zp
   refine Zh (fun g2 => ?_) (fun g2 => ?_)
   ·
    exact fxC (Ze (oq [3, 7]) [] [] [] [(0, (ZL c1 (rg 0 20 []) 21).t)]) (rg 0 20 []) (Value.tuple #[vq, vi y1_1]) (hD g2 w2) (bS (hpC a3 1 L4.length 2 L5.length 3 W6) <| bR <| bR <| Zs <| bQ <| bE)
   ·
    refine Zh (fun g3 => ?_) (fun g3 => ?_)
    ·
     exact fxC (Ze (oq [3, 6, 9]) [] [] [] [(0, (ZL c1 (rg 0 20 []) 21).t)]) (rg 0 20 []) (Value.tuple #[vq, vi (22 : Int)]) (hY g3 <| kE y1_1 (0 : Int) w2) (bS (hpC a3 1 L4.length 2 L5.length 3 W6) <| bR <| bR <| Zs <| bQ <| bE)
    ·
     refine Zh (fun g4 => ?_) (fun _ => Zq)
     refine Zh (fun g5 => ?_) (fun _ => Zq)
     have w6 := kL RB L4 (((i64.wrap (y1_0 - (1 : Int)))).toNat) 1 1 <| kB ((i64.wrap (y1_0 - (1 : Int)))).toNat L4.length <| kI (i64.wrap (y1_0 - (1 : Int))) (Int.ofNat ((i64.wrap (y1_0 - (1 : Int)))).toNat) <| hN g3 <| kE y1_1 (0 : Int) w2
     refine Zh (fun g6 => ?_) (fun g6 => ?_)
     ·
      exact fxC (Ze (oq [3, 6, 8, 11]) [] [(0, ((i64.wrap (y1_0 - (1 : Int)))).toNat)] [(3, [.i (L4.getD ((i64.wrap (y1_0 - (1 : Int)))).toNat RG.z).a1])] [(0, (ZL c1 (rg 0 20 []) 21).t)]) (rg 0 20 []) (Value.tuple #[vq, vi (22 : Int)]) (kY (a2 ≥ (L4.getD ((i64.wrap (y1_0 - (1 : Int)))).toNat RG.z).a1) w6) (bS (hpC a3 1 L4.length 2 L5.length 3 W6) <| bR <| bR <| Zs <| bQ <| bE)
     ·
      exact fxC (Ze (oq [3, 6, 8, 10]) [] [(0, ((i64.wrap (y1_0 - (1 : Int)))).toNat)] [(3, [.i (L4.getD ((i64.wrap (y1_0 - (1 : Int)))).toNat RG.z).a1])] [(0, (ZL c1 (rg 0 20 []) 21).t)]) (rg 0 20 []) (Value.tuple #[vi y1_0, vq]) (kN (a2 ≥ (L4.getD ((i64.wrap (y1_0 - (1 : Int)))).toNat RG.z).a1) w6) (bS (hpC a3 1 L4.length 2 L5.length 3 W6) <| bR <| bR <| Zs <| bQ <| bE)
 ·
  exact fxC (Ze (oq [2]) [] [] [] []) (rg 0 20 []) (Value.tuple #[vq, vi (4 : Int)]) (kN (a3 > (0 : Int)) Zp) (bS (hpC a3 1 L4.length 2 L5.length 3 W6) <| bR <| bR <| Zs <| bQ <| bE)

theorem Zh5 (a0 a1 a2 a3 : Int) (L4 : List RG) (L5 : List RF) (W6 : Nat → List Int) (N : Nat) (r : Zaj) (h : Zaf a0 a1 a2 a3 L4 L5 W6 N = some r) : LSpec Try.prog 51 #[vp 0 0, Value.agg #[vi a0, vi a1], vi a2] (κf a3 L4 L5 W6) (Zf9 a0 a1 a2 a3 L4 L5 W6 r) (Zfl a0 a1 a2 a3 L4 L5 W6 r) :=
 ZaK Zr Try.func51 (by kernel_rfl) (by kernel_rfl) (fun r => by cases r <;> exact ZH _ rfl) (Ziu a0 a1 a2 a3 L4 L5 W6 N) h

noncomputable def Z0 {a0 : Int} {a1 : Int} {a2 : Int} {a3 : Int} {L4 : List RG} {L5 : List RF} {W6 : Nat → List Int} {w19 : Int} {w20 : Int} {N : Nat} (h : Zaf a0 a1 a2 a3 L4 L5 W6 N = some (.r0 w19 w20)) (ks : List Nat) (n : Nat) : ToldS := ⟨#[vp (nth ks 0) 0, Value.agg #[vi a0, vi a1], vi a2], (κw ks a3 L4 L5 W6), Value.tuple #[vi w19, vi w20], [], 0⟩

theorem Zd9 {a0 : Int} {a1 : Int} {a2 : Int} {a3 : Int} {L4 : List RG} {L5 : List RF} {W6 : Nat → List Int} {w19 : Int} {w20 : Int} {N : Nat} (h : Zaf a0 a1 a2 a3 L4 L5 W6 N = some (.r0 w19 w20)) (ks : List Nat) (n : Nat) (hk : ks.length = 20 := by rfl) (hnd : ks.Nodup := by decide +kernel) (hlt : ∀ k ∈ ks, k < n := by decide +kernel) : (Z0 (N := N)  h ks n).P Try.prog 51 n :=
 match ks, hk, hnd, hlt with
 | [k0, k1, k2, k3, k4, k5, k6, k7, k8, k9, k10, k11, k12, k13, k14, k15, k16, k17, k18, k19], _, hnd, hlt => Zad (show LSpec Try.prog 51 #[vp 0 0, Value.agg #[vi a0, vi a1], vi a2] (κf a3 L4 L5 W6) (Value.tuple #[vi w19, vi w20]) (κE a3 L4 L5 W6) from Zh5 a0 a1 a2 a3 L4 L5 W6 N _ h) _ n [] hnd hlt

noncomputable def Zib (a0 a1 a2 a3 : Int) (L4 : List RG) (L5 : List RF) (W6 : Nat → List Int) : Zcu → Value
 | .r0 w19 w20 w21 => Value.tuple #[Value.agg #[vi w19, vi w20], vi w21]
noncomputable def Zh6 (a0 a1 a2 a3 : Int) (L4 : List RG) (L5 : List RF) (W6 : Nat → List Int) : Zcu → List (Option AObj)
 | .r0 w19 w20 w21 => (κE a3 L4 L5 W6)

theorem Zl4 (a0 a1 a2 a3 : Int) (L4 : List RG) (L5 : List RF) (W6 : Nat → List Int) (N : Nat) : Fx Try.prog Z7 Try.f24 (κf a3 L4 L5 W6) #[vp 0 0, Value.agg #[vi a0, vi a1], vi a2] (Zib a0 a1 a2 a3 L4 L5 W6) (Zh6 a0 a1 a2 a3 L4 L5 W6) (Zcb a0 a1 a2 a3 L4 L5 W6 N) := by
 unfold Zcb
 refine Zbb (fun z0 c0 => ?_)
 cases z0 with
 | r0 y0_0 y0_1 =>
  refine Zh (fun g1 => ?_) (fun g1 => ?_)
  ·
   exact fxC (Ze (oq [1]) [] [] [] [(0, (Z0 c0 (rg 0 20 []) 22).t)]) (rg 0 20 []) (Value.tuple #[Value.agg #[vq, vq], vi y0_1]) (hD g1 <| kK (Zd9 c0 (rg 0 20 []) 22) Zp) (bS (hpC a3 1 L4.length 2 L5.length 3 W6) <| bR <| bR <| Zs <| bQ <| bE)
  ·
   refine Zh (fun g2 => ?_) (fun _ => Zq)
   refine Zh (fun g3 => ?_) (fun _ => Zq)
   exact fxC (Ze (oq [0]) [] [(0, ((i64.wrap (y0_0 + a2))).toNat)] [(2, (RA.cel (L5.getD ((i64.wrap (y0_0 + a2))).toNat RF.z)))] [(0, (Z0 c0 (rg 0 20 []) 22).t)]) (rg 0 20 []) (Value.tuple #[Value.agg #[vi (L5.getD ((i64.wrap (y0_0 + a2))).toNat RF.z).a0, vi (L5.getD ((i64.wrap (y0_0 + a2))).toNat RF.z).a1], vq]) (kLn RA L5 (((i64.wrap (y0_0 + a2))).toNat) 0 2 <| kB ((i64.wrap (y0_0 + a2))).toNat L5.length <| kI (i64.wrap (y0_0 + a2)) (Int.ofNat ((i64.wrap (y0_0 + a2))).toNat) <| kE y0_1 (0 : Int) <| kK (Zd9 c0 (rg 0 20 []) 22) Zp) (bS (hpC a3 1 L4.length 2 L5.length 3 W6) <| bR <| bR <| Zs <| bQ <| bE)

theorem ZjX (a0 a1 a2 a3 : Int) (L4 : List RG) (L5 : List RF) (W6 : Nat → List Int) (N : Nat) (r : Zcu) (h : Zcb a0 a1 a2 a3 L4 L5 W6 N = some r) : LSpec Try.prog 24 #[vp 0 0, Value.agg #[vi a0, vi a1], vi a2] (κf a3 L4 L5 W6) (Zib a0 a1 a2 a3 L4 L5 W6 r) (Zh6 a0 a1 a2 a3 L4 L5 W6 r) :=
 ZaK Zr Try.func24 (by kernel_rfl) (by kernel_rfl) (fun r => by cases r <;> exact ZH _ rfl) (Zl4 a0 a1 a2 a3 L4 L5 W6 N) h

noncomputable def ZdV {a0 : Int} {a1 : Int} {a2 : Int} {a3 : Int} {L4 : List RG} {L5 : List RF} {W6 : Nat → List Int} {w19 : Int} {w20 : Int} {w21 : Int} {N : Nat} (h : Zcb a0 a1 a2 a3 L4 L5 W6 N = some (.r0 w19 w20 w21)) (ks : List Nat) (n : Nat) : ToldS := ⟨#[vp (nth ks 0) 0, Value.agg #[vi a0, vi a1], vi a2], (κw ks a3 L4 L5 W6), Value.tuple #[Value.agg #[vi w19, vi w20], vi w21], [], 0⟩

theorem Zmu {a0 : Int} {a1 : Int} {a2 : Int} {a3 : Int} {L4 : List RG} {L5 : List RF} {W6 : Nat → List Int} {w19 : Int} {w20 : Int} {w21 : Int} {N : Nat} (h : Zcb a0 a1 a2 a3 L4 L5 W6 N = some (.r0 w19 w20 w21)) (ks : List Nat) (n : Nat) (hk : ks.length = 20 := by rfl) (hnd : ks.Nodup := by decide +kernel) (hlt : ∀ k ∈ ks, k < n := by decide +kernel) : (ZdV (N := N)  h ks n).P Try.prog 24 n :=
 match ks, hk, hnd, hlt with
 | [k0, k1, k2, k3, k4, k5, k6, k7, k8, k9, k10, k11, k12, k13, k14, k15, k16, k17, k18, k19], _, hnd, hlt => Zad (show LSpec Try.prog 24 #[vp 0 0, Value.agg #[vi a0, vi a1], vi a2] (κf a3 L4 L5 W6) (Value.tuple #[Value.agg #[vi w19, vi w20], vi w21]) (κE a3 L4 L5 W6) from ZjX a0 a1 a2 a3 L4 L5 W6 N _ h) _ n [] hnd hlt

noncomputable def ZlQ (a0 : Int) (L1 : List RI) (L2 : List Int) (a3 a4 a5 : Int) : ZcH → Value
 | .r0 w0 w1 w2 => Value.tuple #[Value.agg #[vi w0, vi w1], vi w2]
noncomputable def ZkS (a0 : Int) (L1 : List RI) (L2 : List Int) (a3 a4 a5 : Int) : ZcH → List (Option AObj)
 | .r0 w0 w1 w2 => []

theorem ZoI (a0 : Int) (L1 : List RI) (L2 : List Int) (a3 a4 a5 : Int) (N : Nat) : Fx Try.prog Z7 Try.f29 [] #[Value.agg (κb a0 L1 L2), Value.agg #[vi a3, vi a4], vi a5] (ZlQ a0 L1 L2 a3 a4 a5) (ZkS a0 L1 L2 a3 a4 a5) (ZdR a0 L1 L2 a3 a4 a5 N) := by
 unfold ZdR
 refine Zbb (fun z0 c0 => ?_)
 cases z0 with
 | r0 y0_0 y0_1 =>
  refine Zh (fun g1 => ?_) (fun g1 => ?_)
  ·
   exact fxC (Ze (oq [1]) [] [] [] [(0, (Z2 c0 [] 3).t)]) [] (Value.tuple #[Value.agg #[vq, vq], vi y0_1]) (hD g1 <| kK (Zd8 c0 [] 3) Zp) bE
  ·
   have w2 := kE y0_1 (0 : Int) <| kK (Zd8 c0 [] 3) Zp
   refine Zh (fun g2 => ?_) (fun g2 => ?_)
   ·
    exact fxC (Ze (oq [0, 3]) [] [] [] [(0, (Z2 c0 [] 3).t)]) [] (Value.tuple #[Value.agg #[vq, vq], vi (22 : Int)]) (hY g2 w2) bE
   ·
    refine Zh (fun g3 => ?_) (fun _ => Zq)
    refine Zh (fun g4 => ?_) (fun _ => Zq)
    have w5 := kG RD L1 ((((0 + ((y0_0).toNat * 9)) + 1) + 2) + 1) ((y0_0).toNat) 4 1 9 <| kB (y0_0).toNat L1.length <| kI y0_0 (Int.ofNat (y0_0).toNat) <| hN g2 w2
    refine Zh (fun g5 => ?_) (fun g5 => ?_)
    ·
     exact fxC (Ze (oq [0, 2, 5]) [] [(0, (y0_0).toNat)] [(3, [.i (L1.getD (y0_0).toNat RI.z).a4])] [(0, (Z2 c0 [] 3).t)]) [] (Value.tuple #[Value.agg #[vq, vq], vi (22 : Int)]) (kY (a5 ≥ (L1.getD (y0_0).toNat RI.z).a4) w5) bE
    ·
     refine Zh (fun g6 => ?_) (fun _ => Zq)
     exact fxC (Ze (oq [0, 2, 4]) [] [(0, (y0_0).toNat), (1, (y0_0).toNat), (2, (a5).toNat)] [(3, [.i (L1.getD (y0_0).toNat RI.z).a4]), (5, [(mc RA (L1.getD (y0_0).toNat RI.z).a8)]), (6, (RA.cel ((L1.getD (y0_0).toNat RI.z).a8.getD (a5).toNat RF.z)))] [(0, (Z2 c0 [] 3).t)]) [] (Value.tuple #[Value.agg #[vi ((L1.getD (y0_0).toNat RI.z).a8.getD (a5).toNat RF.z).a0, vi ((L1.getD (y0_0).toNat RI.z).a8.getD (a5).toNat RF.z).a1], vq]) (kG RA ((L1.getD (y0_0).toNat RI.z).a8) (0 + ((a5).toNat * 2)) ((a5).toNat) 0 2 2 <| kB (a5).toNat (L1.getD (y0_0).toNat RI.z).a8.length <| kI a5 (Int.ofNat (a5).toNat) <| kG RD L1 (((0 + ((y0_0).toNat * 9)) + 1) + 7) ((y0_0).toNat) 8 1 9 <| kB (y0_0).toNat L1.length <| kI y0_0 (Int.ofNat (y0_0).toNat) <| kN (a5 ≥ (L1.getD (y0_0).toNat RI.z).a4) w5) bE

theorem Znr (a0 : Int) (L1 : List RI) (L2 : List Int) (a3 a4 a5 : Int) (N : Nat) (r : ZcH) (h : ZdR a0 L1 L2 a3 a4 a5 N = some r) : LSpec Try.prog 29 #[Value.agg (κb a0 L1 L2), Value.agg #[vi a3, vi a4], vi a5] [] (ZlQ a0 L1 L2 a3 a4 a5 r) (ZkS a0 L1 L2 a3 a4 a5 r) :=
 ZaK Zr Try.func29 (by kernel_rfl) (by kernel_rfl) (fun r => by cases r <;> exact ZH _ rfl) (ZoI a0 L1 L2 a3 a4 a5 N) h

noncomputable def ZfA {a0 : Int} {L1 : List RI} {L2 : List Int} {a3 : Int} {a4 : Int} {a5 : Int} {w0 : Int} {w1 : Int} {w2 : Int} {N : Nat} (h : ZdR a0 L1 L2 a3 a4 a5 N = some (.r0 w0 w1 w2)) (ks : List Nat) (n : Nat) : ToldS := ⟨#[Value.agg (κb a0 L1 L2), Value.agg #[vi a3, vi a4], vi a5], [], Value.tuple #[Value.agg #[vi w0, vi w1], vi w2], [], 0⟩

theorem ZkT {a0 : Int} {L1 : List RI} {L2 : List Int} {a3 : Int} {a4 : Int} {a5 : Int} {w0 : Int} {w1 : Int} {w2 : Int} {N : Nat} (h : ZdR a0 L1 L2 a3 a4 a5 N = some (.r0 w0 w1 w2)) (ks : List Nat) (n : Nat) (hk : ks.length = 0 := by rfl) (hnd : ks.Nodup := by decide +kernel) (hlt : ∀ k ∈ ks, k < n := by decide +kernel) : (ZfA (N := N)  h ks n).P Try.prog 29 n :=
 match ks, hk, hnd, hlt with
 | [], _, hnd, hlt => Zad (show LSpec Try.prog 29 #[Value.agg (κb a0 L1 L2), Value.agg #[vi a3, vi a4], vi a5] [] (Value.tuple #[Value.agg #[vi w0, vi w1], vi w2]) [] from Znr a0 L1 L2 a3 a4 a5 N _ h) _ n [] hnd hlt

end Ev
end Go.Proofs.Ytomkpfibofpkbaa
namespace Go.Proofs.Ytomkpfibofpkbaa
open Go.RowKit
namespace Ev
set_option linter.unusedVariables false
set_option maxRecDepth 100000
set_option maxHeartbeats 4000000
noncomputable def Zg9 (a0 a1 a2 a3 a4 : Int) (b5 : Bool) (a6 a7 a8 a9 a10 : Int) (L11 : List RI) (L12 : List Int) (L13 : List RF) (a14 : Int) (L15 : List RG) (L16 : List RF) (W17 : Nat → List Int) : ZaW → Value
 | .r0 w20 w21 => Value.agg #[vi w20, vi w21]
noncomputable def Zgr (a0 a1 a2 a3 a4 : Int) (b5 : Bool) (a6 a7 a8 a9 a10 : Int) (L11 : List RI) (L12 : List Int) (L13 : List RF) (a14 : Int) (L15 : List RG) (L16 : List RF) (W17 : Nat → List Int) : ZaW → List (Option AObj)
 | .r0 w20 w21 => (some (.cells (κc a10 L11 L12 L13) 37) :: some (.cells (hpC a14 3 L15.length 4 L16.length 5 W17) 67) :: some (.cells (Za RA L13) 41 true) :: some (.cells (Za RB L15) 50) :: some (.cells (Za RA L16) 41) :: hpO W17 [])

theorem ZjY (a0 a1 a2 a3 a4 : Int) (b5 : Bool) (a6 a7 a8 a9 a10 : Int) (L11 : List RI) (L12 : List Int) (L13 : List RF) (a14 : Int) (L15 : List RG) (L16 : List RF) (W17 : Nat → List Int) (N : Nat) : Fx Try.prog Z7 Try.f30 (.cells (κc a10 L11 L12 L13) 37 :: .cells (hpC a14 3 L15.length 4 L16.length 5 W17) 67 :: .cells (Za RA L13) 41 true :: .cells (Za RB L15) 50 :: .cells (Za RA L16) 41 :: hpP W17 []) #[vp 0 0, Value.agg (κk a0 a1 a2 a3 a4 b5 a6 a7 a8 a9)] (Zg9 a0 a1 a2 a3 a4 b5 a6 a7 a8 a9 a10 L11 L12 L13 a14 L15 L16 W17) (Zgr a0 a1 a2 a3 a4 b5 a6 a7 a8 a9 a10 L11 L12 L13 a14 L15 L16 W17) (ZaC a0 a1 a2 a3 a4 b5 a6 a7 a8 a9 a10 L11 L12 L13 a14 L15 L16 W17 N) := by
 unfold ZaC
 refine Zh (fun g0 => ?_) (fun g0 => ?_)
 ·
  refine Zh (fun g1 => ?_) (fun g1 => ?_)
  ·
   exact fxC (Ze (oq [1, 3]) [] [] [] []) (rg 0 22 []) (Value.agg #[vi a8, vi a9]) (kX (b5) true (by assumption) <| hT g0 Zp) (bS (κc a10 L11 L12 L13) <| bS (hpC a14 3 L15.length 4 L16.length 5 W17) <| bQ <| bR <| bR <| Zs <| bQ <| bE)
  ·
   refine Zh (fun g2 => ?_) (fun g2 => ?_)
   ·
    refine Zh (fun g3 => ?_) (fun _ => Zq)
    refine Zh (fun g4 => ?_) (fun _ => Zq)
    refine Zh (fun g5 => ?_) (fun _ => Zq)
    refine Zh (fun g6 => ?_) (fun _ => Zq)
    refine Zh (fun g7 => ?_) (fun _ => Zq)
    exact fxC (Ze (oq [1, 2, 7]) [(0, a4), (1, (a4 / (2 : Int)))] [(0, ((Int.tmod (a4 / (2 : Int)) (L13.length : Int))).toNat)] [(6, (RA.cel (L13.getD ((Int.tmod (a4 / (2 : Int)) (L13.length : Int))).toNat RF.z)))] [(0, .dv)]) (rg 0 22 []) (Value.agg #[vi (L13.getD ((Int.tmod (a4 / (2 : Int)) (L13.length : Int))).toNat RF.z).a0, vi (L13.getD ((Int.tmod (a4 / (2 : Int)) (L13.length : Int))).toNat RF.z).a1]) (kLn RA L13 (((Int.tmod (a4 / (2 : Int)) (L13.length : Int))).toNat) 0 2 <| kB ((Int.tmod (a4 / (2 : Int)) (L13.length : Int))).toNat L13.length <| kI (Int.tmod (a4 / (2 : Int)) (L13.length : Int)) (Int.ofNat ((Int.tmod (a4 / (2 : Int)) (L13.length : Int))).toNat) <| kX (dP (IntKind.i64 = IntKind.i64 ∧ (L13.length : Int) ≠ 0)) true (Za1 ⟨rfl, by omega⟩) <| kV a4 (2 : Int) <| kX ((IntKind.i64.wrap a4) == a4) true (beq_iff_eq.2 (wrap_i64 ltA)) <| kY ((L13.length : Int) > (0 : Int)) <| kX (b5) false (Bool.eq_false_iff.2 (by assumption)) <| hT g0 Zp) (bS (κc a10 L11 L12 L13) <| bS (hpC a14 3 L15.length 4 L16.length 5 W17) <| bQ <| bR <| bR <| Zs <| bQ <| bE)
   ·
    exact fxC (Ze (oq [1, 2, 6]) [] [] [] []) (rg 0 22 []) (Value.agg #[vi a8, vi a9]) (kN ((L13.length : Int) > (0 : Int)) <| kX (b5) false (Bool.eq_false_iff.2 (by assumption)) <| hT g0 Zp) (bS (κc a10 L11 L12 L13) <| bS (hpC a14 3 L15.length 4 L16.length 5 W17) <| bQ <| bR <| bR <| Zs <| bQ <| bE)
 ·
  exact fxC (Ze (oq [0]) [] [] [] []) (rg 0 22 []) (Value.agg #[vi a8, vi a9]) (hF g0 Zp) (bS (κc a10 L11 L12 L13) <| bS (hpC a14 3 L15.length 4 L16.length 5 W17) <| bQ <| bR <| bR <| Zs <| bQ <| bE)

theorem ZiW (a0 a1 a2 a3 a4 : Int) (b5 : Bool) (a6 a7 a8 a9 a10 : Int) (L11 : List RI) (L12 : List Int) (L13 : List RF) (a14 : Int) (L15 : List RG) (L16 : List RF) (W17 : Nat → List Int) (N : Nat) (r : ZaW) (h : ZaC a0 a1 a2 a3 a4 b5 a6 a7 a8 a9 a10 L11 L12 L13 a14 L15 L16 W17 N = some r) : LSpec Try.prog 30 #[vp 0 0, Value.agg (κk a0 a1 a2 a3 a4 b5 a6 a7 a8 a9)] (.cells (κc a10 L11 L12 L13) 37 :: .cells (hpC a14 3 L15.length 4 L16.length 5 W17) 67 :: .cells (Za RA L13) 41 true :: .cells (Za RB L15) 50 :: .cells (Za RA L16) 41 :: hpP W17 []) (Zg9 a0 a1 a2 a3 a4 b5 a6 a7 a8 a9 a10 L11 L12 L13 a14 L15 L16 W17 r) (Zgr a0 a1 a2 a3 a4 b5 a6 a7 a8 a9 a10 L11 L12 L13 a14 L15 L16 W17 r) :=
 ZaK Zr Try.func30 (by kernel_rfl) (by kernel_rfl) (fun r => by cases r <;> exact ZH _ rfl) (ZjY a0 a1 a2 a3 a4 b5 a6 a7 a8 a9 a10 L11 L12 L13 a14 L15 L16 W17 N) h

noncomputable def Za7 {a0 : Int} {a1 : Int} {a2 : Int} {a3 : Int} {a4 : Int} {b5 : Bool} {a6 : Int} {a7 : Int} {a8 : Int} {a9 : Int} {a10 : Int} {L11 : List RI} {L12 : List Int} {L13 : List RF} {a14 : Int} {L15 : List RG} {L16 : List RF} {W17 : Nat → List Int} {w20 : Int} {w21 : Int} {N : Nat} (h : ZaC a0 a1 a2 a3 a4 b5 a6 a7 a8 a9 a10 L11 L12 L13 a14 L15 L16 W17 N = some (.r0 w20 w21)) (ks : List Nat) (n : Nat) : ToldS := ⟨#[vp (nth ks 0) 0, Value.agg (κk a0 a1 a2 a3 a4 b5 a6 a7 a8 a9)], (κt ks a10 L11 L12 L13 a14 L15 L16 W17), Value.agg #[vi w20, vi w21], [], 0⟩

theorem ZbF {a0 : Int} {a1 : Int} {a2 : Int} {a3 : Int} {a4 : Int} {b5 : Bool} {a6 : Int} {a7 : Int} {a8 : Int} {a9 : Int} {a10 : Int} {L11 : List RI} {L12 : List Int} {L13 : List RF} {a14 : Int} {L15 : List RG} {L16 : List RF} {W17 : Nat → List Int} {w20 : Int} {w21 : Int} {N : Nat} (h : ZaC a0 a1 a2 a3 a4 b5 a6 a7 a8 a9 a10 L11 L12 L13 a14 L15 L16 W17 N = some (.r0 w20 w21)) (ks : List Nat) (n : Nat) (hk : ks.length = 22 := by rfl) (hnd : ks.Nodup := by decide +kernel) (hlt : ∀ k ∈ ks, k < n := by decide +kernel) : (Za7 (N := N)  h ks n).P Try.prog 30 n :=
 match ks, hk, hnd, hlt with
 | [k0, k1, k2, k3, k4, k5, k6, k7, k8, k9, k10, k11, k12, k13, k14, k15, k16, k17, k18, k19, k20, k21], _, hnd, hlt => Zad (show LSpec Try.prog 30 #[vp 0 0, Value.agg (κk a0 a1 a2 a3 a4 b5 a6 a7 a8 a9)] (.cells (κc a10 L11 L12 L13) 37 :: .cells (hpC a14 3 L15.length 4 L16.length 5 W17) 67 :: .cells (Za RA L13) 41 true :: .cells (Za RB L15) 50 :: .cells (Za RA L16) 41 :: hpP W17 []) (Value.agg #[vi w20, vi w21]) (some (.cells (κc a10 L11 L12 L13) 37) :: some (.cells (hpC a14 3 L15.length 4 L16.length 5 W17) 67) :: some (.cells (Za RA L13) 41 true) :: some (.cells (Za RB L15) 50) :: some (.cells (Za RA L16) 41) :: hpO W17 []) from ZiW a0 a1 a2 a3 a4 b5 a6 a7 a8 a9 a10 L11 L12 L13 a14 L15 L16 W17 N _ h) _ n [] hnd hlt

end Ev
end Go.Proofs.Ytomkpfibofpkbaa
namespace Go.Proofs.Ytomkpfibofpkbaa
open Go.IntKind (i64)
open Go.RowKit
namespace Ev
set_option linter.unusedVariables false
set_option maxRecDepth 100000
set_option maxHeartbeats 4000000
noncomputable def Zh7 (a0 a1 a2 a3 a4 a5 : Int) (L6 : List RG) (L7 : List RF) (W8 : Nat → List Int) : ZF → Value
 | .r0 w1 w19 => vi w19
noncomputable def ZgA (a0 a1 a2 a3 a4 a5 : Int) (L6 : List RG) (L7 : List RF) (W8 : Nat → List Int) : ZF → List (Option AObj)
 | .r0 w1 w19 => (some (.cells (hpC a5 1 L6.length 2 w1.length 3 W8) 67) :: some (.cells (Za RB L6) 50) :: some (.cells (Za RA w1) 41) :: hpO W8 [])

theorem ZkU (a0 a1 a2 a3 a4 a5 : Int) (L6 : List RG) (L7 : List RF) (W8 : Nat → List Int) (N : Nat) : Fx Try.prog Z7 Try.f18 (κx a5 L6 L7 W8) #[vp 0 0, Value.agg #[vi a0, vi a1], vi a2, Value.agg #[vi a3, vi a4]] (Zh7 a0 a1 a2 a3 a4 a5 L6 L7 W8) (ZgA a0 a1 a2 a3 a4 a5 L6 L7 W8) (Za5 a0 a1 a2 a3 a4 a5 L6 L7 W8 N) := by
 unfold Za5
 refine Zbb (fun z0 c0 => ?_)
 cases z0 with
 | r0 y0_0 y0_1 =>
  have w1 := kK (Zd9 c0 (rg 0 20 []) 22) Zp
  refine Zh (fun g1 => ?_) (fun g1 => ?_)
  ·
   exact fxC (Ze (oq [1]) [] [] [] [(0, (Z0 c0 (rg 0 20 []) 22).t)]) (rg 0 20 []) (vi y0_1) (hD g1 w1) (bS (hpC a5 1 L6.length 2 L7.length 3 W8) <| bR <| bR <| Zs <| bQ <| bE)
  ·
   have w2 := kE y0_1 (0 : Int) w1
   refine Zh (fun g2 => ?_) (fun _ => Zq)
   refine Zh (fun g3 => ?_) (fun _ => Zq)
   have w4 := kL RB L6 (((i64.wrap (y0_0 - (1 : Int)))).toNat) 2 1 <| kB ((i64.wrap (y0_0 - (1 : Int)))).toNat L6.length <| kI (i64.wrap (y0_0 - (1 : Int))) (Int.ofNat ((i64.wrap (y0_0 - (1 : Int)))).toNat) w2
   refine Zh (fun g4 => ?_) (fun _ => Zq)
   refine Zh (fun g5 => ?_) (fun _ => Zq)
   have w6 := kX ((i64.wrap (((BitVec.ofInt i64.bits ((L6.getD ((i64.wrap (y0_0 - (1 : Int)))).toNat RG.z).a2 / (2 ^ (a2).toNat : Int)) &&& BitVec.ofInt i64.bits (1 : Int)).toNat : Nat) : Int)) == (((L6.getD ((i64.wrap (y0_0 - (1 : Int)))).toNat RG.z).a2 / (2 ^ (a2).toNat : Int)) % (2 : Int))) true (beq_iff_eq.2 (ZnB _)) <| kS a2 ((a2).toNat) .i64 w4
   refine Zh (fun g6 => ?_) (fun g6 => ?_)
   ·
    refine Zh (fun g7 => ?_) (fun g7 => ?_)
    ·
     refine Zh (fun g8 => ?_) (fun g8 => ?_)
     ·
      refine Zh (fun g9 => ?_) (fun g9 => ?_)
      ·
       have w10 := kY (a4 > (0 : Int)) <| hD g8 <| hT g7 <| hT g6 w6
       refine Zh (fun g10 => ?_) (fun _ => Zq)
       have w11 := kM a4 (1048576 : Int) <| kV a4 (1048576 : Int) w10
       refine Zh (fun g11 => ?_) (fun g11 => ?_)
       ·
        refine Zh (fun g12 => ?_) (fun g12 => ?_)
        ·
         refine Zh (fun g13 => ?_) (fun g13 => ?_)
         ·
          refine Zh (fun g14 => ?_) (fun _ => Zq)
          refine Zh (fun g15 => ?_) (fun _ => Zq)
          exact fxC (Ze (oq [0, 3, 5, 7, 9, 11, 13, 15, 17, 23]) [(2, (((L6.getD ((i64.wrap (y0_0 - (1 : Int)))).toNat RG.z).a2 / (2 ^ (a2).toNat : Int)) % (2 : Int))), (3, (a4 / (1048576 : Int))), (4, (a4 % (1048576 : Int)))] [(0, ((i64.wrap (y0_0 - (1 : Int)))).toNat), (1, ((i64.wrap (y0_0 + a2))).toNat)] [(2, [.i (L6.getD ((i64.wrap (y0_0 - (1 : Int)))).toNat RG.z).a2])] [(0, (Z0 c0 (rg 0 20 []) 22).t), (1, .sh (a2).toNat), (3, .st (Za RA (L7.set ((i64.wrap (y0_0 + a2))).toNat (⟨a3, a4⟩ : RF))))]) (rg 0 20 []) (vq) (kC (Za8 (E := RA) (L := L7) (i := ((i64.wrap (y0_0 + a2))).toNat) (q := 0) (l := [vi a3, vi a4]) (⟨a3, a4⟩ : RF) (by omega) (show (0 + (((i64.wrap (y0_0 + a2))).toNat * 2)) = ((i64.wrap (y0_0 + a2))).toNat * 2 + 0 from by omega) (show 0 + 2 ≤ 2 from by decide) rfl) <| kB ((i64.wrap (y0_0 + a2))).toNat L7.length <| kI (i64.wrap (y0_0 + a2)) (Int.ofNat ((i64.wrap (y0_0 + a2))).toNat) <| hT g7 <| kY ((a4 % (1048576 : Int)) ≤ (1048575 : Int)) <| kY ((a4 % (1048576 : Int)) ≥ (1 : Int)) <| hY g12 <| kY ((a4 / (1048576 : Int)) ≥ (1 : Int)) w11) (bU (hpC a5 1 L6.length 2 L7.length 3 W8) 2 (show (vs 2 0 L7.length L7.length : Value) = vs 2 0 (L7.set ((i64.wrap (y0_0 + a2))).toNat (⟨a3, a4⟩ : RF)).length (L7.set ((i64.wrap (y0_0 + a2))).toNat (⟨a3, a4⟩ : RF)).length from Zo rfl eqA eqA) <| bR <| bR <| Zs <| bQ <| bE)
         ·
          exact fxC (Ze (oq [0, 3, 5, 7, 9, 11, 13, 14]) [(2, (((L6.getD ((i64.wrap (y0_0 - (1 : Int)))).toNat RG.z).a2 / (2 ^ (a2).toNat : Int)) % (2 : Int))), (3, (a4 / (1048576 : Int))), (4, (a4 % (1048576 : Int)))] [(0, ((i64.wrap (y0_0 - (1 : Int)))).toNat)] [(2, [.i (L6.getD ((i64.wrap (y0_0 - (1 : Int)))).toNat RG.z).a2])] [(0, (Z0 c0 (rg 0 20 []) 22).t), (1, .sh (a2).toNat)]) (rg 0 20 []) (vi (10 : Int)) (kN ((a4 % (1048576 : Int)) ≥ (1 : Int)) <| hY g12 <| kY ((a4 / (1048576 : Int)) ≥ (1 : Int)) w11) (bS (hpC a5 1 L6.length 2 L7.length 3 W8) <| bR <| bR <| Zs <| bQ <| bE)
        ·
         exact fxC (Ze (oq [0, 3, 5, 7, 9, 11, 12]) [(2, (((L6.getD ((i64.wrap (y0_0 - (1 : Int)))).toNat RG.z).a2 / (2 ^ (a2).toNat : Int)) % (2 : Int))), (3, (a4 / (1048576 : Int))), (4, (a4 % (1048576 : Int)))] [(0, ((i64.wrap (y0_0 - (1 : Int)))).toNat)] [(2, [.i (L6.getD ((i64.wrap (y0_0 - (1 : Int)))).toNat RG.z).a2])] [(0, (Z0 c0 (rg 0 20 []) 22).t), (1, .sh (a2).toNat)]) (rg 0 20 []) (vi (10 : Int)) (hN g12 <| kY ((a4 / (1048576 : Int)) ≥ (1 : Int)) w11) (bS (hpC a5 1 L6.length 2 L7.length 3 W8) <| bR <| bR <| Zs <| bQ <| bE)
       ·
        exact fxC (Ze (oq [0, 3, 5, 7, 9, 10]) [(2, (((L6.getD ((i64.wrap (y0_0 - (1 : Int)))).toNat RG.z).a2 / (2 ^ (a2).toNat : Int)) % (2 : Int))), (3, (a4 / (1048576 : Int))), (4, (a4 % (1048576 : Int)))] [(0, ((i64.wrap (y0_0 - (1 : Int)))).toNat)] [(2, [.i (L6.getD ((i64.wrap (y0_0 - (1 : Int)))).toNat RG.z).a2])] [(0, (Z0 c0 (rg 0 20 []) 22).t), (1, .sh (a2).toNat)]) (rg 0 20 []) (vi (10 : Int)) (kN ((a4 / (1048576 : Int)) ≥ (1 : Int)) w11) (bS (hpC a5 1 L6.length 2 L7.length 3 W8) <| bR <| bR <| Zs <| bQ <| bE)
      ·
       exact fxC (Ze (oq [0, 3, 5, 7, 8]) [(2, (((L6.getD ((i64.wrap (y0_0 - (1 : Int)))).toNat RG.z).a2 / (2 ^ (a2).toNat : Int)) % (2 : Int)))] [(0, ((i64.wrap (y0_0 - (1 : Int)))).toNat)] [(2, [.i (L6.getD ((i64.wrap (y0_0 - (1 : Int)))).toNat RG.z).a2])] [(0, (Z0 c0 (rg 0 20 []) 22).t), (1, .sh (a2).toNat)]) (rg 0 20 []) (vi (10 : Int)) (kN (a4 > (0 : Int)) <| hD g8 <| hT g7 <| hT g6 w6) (bS (hpC a5 1 L6.length 2 L7.length 3 W8) <| bR <| bR <| Zs <| bQ <| bE)
     ·
      refine Zh (fun g9 => ?_) (fun _ => Zq)
      refine Zh (fun g10 => ?_) (fun _ => Zq)
      exact fxC (Ze (oq [0, 3, 5, 6, 11]) [(2, (((L6.getD ((i64.wrap (y0_0 - (1 : Int)))).toNat RG.z).a2 / (2 ^ (a2).toNat : Int)) % (2 : Int)))] [(0, ((i64.wrap (y0_0 - (1 : Int)))).toNat), (1, ((i64.wrap (y0_0 + a2))).toNat)] [(2, [.i (L6.getD ((i64.wrap (y0_0 - (1 : Int)))).toNat RG.z).a2])] [(0, (Z0 c0 (rg 0 20 []) 22).t), (1, .sh (a2).toNat), (2, .st (Za RA (L7.set ((i64.wrap (y0_0 + a2))).toNat (⟨a3, a4⟩ : RF))))]) (rg 0 20 []) (vq) (kC (Za8 (E := RA) (L := L7) (i := ((i64.wrap (y0_0 + a2))).toNat) (q := 0) (l := [vi a3, vi a4]) (⟨a3, a4⟩ : RF) (by omega) (show (0 + (((i64.wrap (y0_0 + a2))).toNat * 2)) = ((i64.wrap (y0_0 + a2))).toNat * 2 + 0 from by omega) (show 0 + 2 ≤ 2 from by decide) rfl) <| kB ((i64.wrap (y0_0 + a2))).toNat L7.length <| kI (i64.wrap (y0_0 + a2)) (Int.ofNat ((i64.wrap (y0_0 + a2))).toNat) <| hT g7 <| kE a4 (0 : Int) <| hT g7 <| hT g6 w6) (bU (hpC a5 1 L6.length 2 L7.length 3 W8) 2 (show (vs 2 0 L7.length L7.length : Value) = vs 2 0 (L7.set ((i64.wrap (y0_0 + a2))).toNat (⟨a3, a4⟩ : RF)).length (L7.set ((i64.wrap (y0_0 + a2))).toNat (⟨a3, a4⟩ : RF)).length from Zo rfl eqA eqA) <| bR <| bR <| Zs <| bQ <| bE)
    ·
     by_cases g8 : a3 = (1 : Int)
     ·
      exact fxC (Ze (oq [0, 3, 4, 7, 10]) [(2, (((L6.getD ((i64.wrap (y0_0 - (1 : Int)))).toNat RG.z).a2 / (2 ^ (a2).toNat : Int)) % (2 : Int)))] [(0, ((i64.wrap (y0_0 - (1 : Int)))).toNat)] [(2, [.i (L6.getD ((i64.wrap (y0_0 - (1 : Int)))).toNat RG.z).a2])] [(0, (Z0 c0 (rg 0 20 []) 22).t), (1, .sh (a2).toNat)]) (rg 0 20 []) (vi (10 : Int)) (hF g7 <| hT g8 <| hF g7 <| hT g6 w6) (bS (hpC a5 1 L6.length 2 L7.length 3 W8) <| bR <| bR <| Zs <| bQ <| bE)
     ·
      exact fxC (Ze (oq [0, 3, 4, 6]) [(2, (((L6.getD ((i64.wrap (y0_0 - (1 : Int)))).toNat RG.z).a2 / (2 ^ (a2).toNat : Int)) % (2 : Int)))] [(0, ((i64.wrap (y0_0 - (1 : Int)))).toNat)] [(2, [.i (L6.getD ((i64.wrap (y0_0 - (1 : Int)))).toNat RG.z).a2])] [(0, (Z0 c0 (rg 0 20 []) 22).t), (1, .sh (a2).toNat)]) (rg 0 20 []) (vi (10 : Int)) (hF g8 <| hF g7 <| hT g6 w6) (bS (hpC a5 1 L6.length 2 L7.length 3 W8) <| bR <| bR <| Zs <| bQ <| bE)
   ·
    refine Zh (fun g7 => ?_) (fun g7 => ?_)
    ·
     refine Zh (fun g8 => ?_) (fun g8 => ?_)
     ·
      refine Zh (fun g9 => ?_) (fun g9 => ?_)
      ·
       have w10 := kY (a4 > (0 : Int)) <| hD g8 <| hT g7 <| hF g6 w6
       refine Zh (fun g10 => ?_) (fun _ => Zq)
       have w11 := kM a4 (1048576 : Int) <| kV a4 (1048576 : Int) w10
       by_cases g11 : (1 : Int) ≤ (a4 / (1048576 : Int))
       ·
        by_cases g12 : (a4 / (1048576 : Int)) ≤ (1073741824 : Int)
        ·
         by_cases g13 : (1 : Int) ≤ (a4 % (1048576 : Int))
         ·
          exact fxC (Ze (oq [0, 2, 5, 7, 9, 11, 13, 15, 17, 23]) [(2, (((L6.getD ((i64.wrap (y0_0 - (1 : Int)))).toNat RG.z).a2 / (2 ^ (a2).toNat : Int)) % (2 : Int))), (3, (a4 / (1048576 : Int))), (4, (a4 % (1048576 : Int)))] [(0, ((i64.wrap (y0_0 - (1 : Int)))).toNat)] [(2, [.i (L6.getD ((i64.wrap (y0_0 - (1 : Int)))).toNat RG.z).a2])] [(0, (Z0 c0 (rg 0 20 []) 22).t), (1, .sh (a2).toNat)]) (rg 0 20 []) (vi (10 : Int)) (hT g7 <| kY ((a4 % (1048576 : Int)) ≤ (1048575 : Int)) <| kY ((a4 % (1048576 : Int)) ≥ (1 : Int)) <| hY g12 <| kY ((a4 / (1048576 : Int)) ≥ (1 : Int)) w11) (bS (hpC a5 1 L6.length 2 L7.length 3 W8) <| bR <| bR <| Zs <| bQ <| bE)
         ·
          exact fxC (Ze (oq [0, 2, 5, 7, 9, 11, 13, 14]) [(2, (((L6.getD ((i64.wrap (y0_0 - (1 : Int)))).toNat RG.z).a2 / (2 ^ (a2).toNat : Int)) % (2 : Int))), (3, (a4 / (1048576 : Int))), (4, (a4 % (1048576 : Int)))] [(0, ((i64.wrap (y0_0 - (1 : Int)))).toNat)] [(2, [.i (L6.getD ((i64.wrap (y0_0 - (1 : Int)))).toNat RG.z).a2])] [(0, (Z0 c0 (rg 0 20 []) 22).t), (1, .sh (a2).toNat)]) (rg 0 20 []) (vi (10 : Int)) (kN ((a4 % (1048576 : Int)) ≥ (1 : Int)) <| hY g12 <| kY ((a4 / (1048576 : Int)) ≥ (1 : Int)) w11) (bS (hpC a5 1 L6.length 2 L7.length 3 W8) <| bR <| bR <| Zs <| bQ <| bE)
        ·
         exact fxC (Ze (oq [0, 2, 5, 7, 9, 11, 12]) [(2, (((L6.getD ((i64.wrap (y0_0 - (1 : Int)))).toNat RG.z).a2 / (2 ^ (a2).toNat : Int)) % (2 : Int))), (3, (a4 / (1048576 : Int))), (4, (a4 % (1048576 : Int)))] [(0, ((i64.wrap (y0_0 - (1 : Int)))).toNat)] [(2, [.i (L6.getD ((i64.wrap (y0_0 - (1 : Int)))).toNat RG.z).a2])] [(0, (Z0 c0 (rg 0 20 []) 22).t), (1, .sh (a2).toNat)]) (rg 0 20 []) (vi (10 : Int)) (hN g12 <| kY ((a4 / (1048576 : Int)) ≥ (1 : Int)) w11) (bS (hpC a5 1 L6.length 2 L7.length 3 W8) <| bR <| bR <| Zs <| bQ <| bE)
       ·
        exact fxC (Ze (oq [0, 2, 5, 7, 9, 10]) [(2, (((L6.getD ((i64.wrap (y0_0 - (1 : Int)))).toNat RG.z).a2 / (2 ^ (a2).toNat : Int)) % (2 : Int))), (3, (a4 / (1048576 : Int))), (4, (a4 % (1048576 : Int)))] [(0, ((i64.wrap (y0_0 - (1 : Int)))).toNat)] [(2, [.i (L6.getD ((i64.wrap (y0_0 - (1 : Int)))).toNat RG.z).a2])] [(0, (Z0 c0 (rg 0 20 []) 22).t), (1, .sh (a2).toNat)]) (rg 0 20 []) (vi (10 : Int)) (kN ((a4 / (1048576 : Int)) ≥ (1 : Int)) w11) (bS (hpC a5 1 L6.length 2 L7.length 3 W8) <| bR <| bR <| Zs <| bQ <| bE)
      ·
       exact fxC (Ze (oq [0, 2, 5, 7, 8]) [(2, (((L6.getD ((i64.wrap (y0_0 - (1 : Int)))).toNat RG.z).a2 / (2 ^ (a2).toNat : Int)) % (2 : Int)))] [(0, ((i64.wrap (y0_0 - (1 : Int)))).toNat)] [(2, [.i (L6.getD ((i64.wrap (y0_0 - (1 : Int)))).toNat RG.z).a2])] [(0, (Z0 c0 (rg 0 20 []) 22).t), (1, .sh (a2).toNat)]) (rg 0 20 []) (vi (10 : Int)) (kN (a4 > (0 : Int)) <| hD g8 <| hT g7 <| hF g6 w6) (bS (hpC a5 1 L6.length 2 L7.length 3 W8) <| bR <| bR <| Zs <| bQ <| bE)
     ·
      exact fxC (Ze (oq [0, 2, 5, 6, 11]) [(2, (((L6.getD ((i64.wrap (y0_0 - (1 : Int)))).toNat RG.z).a2 / (2 ^ (a2).toNat : Int)) % (2 : Int)))] [(0, ((i64.wrap (y0_0 - (1 : Int)))).toNat)] [(2, [.i (L6.getD ((i64.wrap (y0_0 - (1 : Int)))).toNat RG.z).a2])] [(0, (Z0 c0 (rg 0 20 []) 22).t), (1, .sh (a2).toNat)]) (rg 0 20 []) (vi (10 : Int)) (hT g7 <| kE a4 (0 : Int) <| hT g7 <| hF g6 w6) (bS (hpC a5 1 L6.length 2 L7.length 3 W8) <| bR <| bR <| Zs <| bQ <| bE)
    ·
     refine Zh (fun g8 => ?_) (fun g8 => ?_)
     ·
      refine Zh (fun g9 => ?_) (fun _ => Zq)
      refine Zh (fun g10 => ?_) (fun _ => Zq)
      exact fxC (Ze (oq [0, 2, 4, 7, 10]) [(2, (((L6.getD ((i64.wrap (y0_0 - (1 : Int)))).toNat RG.z).a2 / (2 ^ (a2).toNat : Int)) % (2 : Int)))] [(0, ((i64.wrap (y0_0 - (1 : Int)))).toNat), (1, ((i64.wrap (y0_0 + a2))).toNat)] [(2, [.i (L6.getD ((i64.wrap (y0_0 - (1 : Int)))).toNat RG.z).a2])] [(0, (Z0 c0 (rg 0 20 []) 22).t), (1, .sh (a2).toNat), (2, .st (Za RA (L7.set ((i64.wrap (y0_0 + a2))).toNat (⟨a3, a4⟩ : RF))))]) (rg 0 20 []) (vq) (kC (Za8 (E := RA) (L := L7) (i := ((i64.wrap (y0_0 + a2))).toNat) (q := 0) (l := [vi a3, vi a4]) (⟨a3, a4⟩ : RF) (by omega) (show (0 + (((i64.wrap (y0_0 + a2))).toNat * 2)) = ((i64.wrap (y0_0 + a2))).toNat * 2 + 0 from by omega) (show 0 + 2 ≤ 2 from by decide) rfl) <| kB ((i64.wrap (y0_0 + a2))).toNat L7.length <| kI (i64.wrap (y0_0 + a2)) (Int.ofNat ((i64.wrap (y0_0 + a2))).toNat) <| hF g7 <| hT g8 <| hF g7 <| hF g6 w6) (bU (hpC a5 1 L6.length 2 L7.length 3 W8) 2 (show (vs 2 0 L7.length L7.length : Value) = vs 2 0 (L7.set ((i64.wrap (y0_0 + a2))).toNat (⟨a3, a4⟩ : RF)).length (L7.set ((i64.wrap (y0_0 + a2))).toNat (⟨a3, a4⟩ : RF)).length from Zo rfl eqA eqA) <| bR <| bR <| Zs <| bQ <| bE)
     ·
      exact fxC (Ze (oq [0, 2, 4, 6]) [(2, (((L6.getD ((i64.wrap (y0_0 - (1 : Int)))).toNat RG.z).a2 / (2 ^ (a2).toNat : Int)) % (2 : Int)))] [(0, ((i64.wrap (y0_0 - (1 : Int)))).toNat)] [(2, [.i (L6.getD ((i64.wrap (y0_0 - (1 : Int)))).toNat RG.z).a2])] [(0, (Z0 c0 (rg 0 20 []) 22).t), (1, .sh (a2).toNat)]) (rg 0 20 []) (vi (10 : Int)) (hF g8 <| hF g7 <| hF g6 w6) (bS (hpC a5 1 L6.length 2 L7.length 3 W8) <| bR <| bR <| Zs <| bQ <| bE)

theorem Zj3 (a0 a1 a2 a3 a4 a5 : Int) (L6 : List RG) (L7 : List RF) (W8 : Nat → List Int) (N : Nat) (r : ZF) (h : Za5 a0 a1 a2 a3 a4 a5 L6 L7 W8 N = some r) : LSpec Try.prog 18 #[vp 0 0, Value.agg #[vi a0, vi a1], vi a2, Value.agg #[vi a3, vi a4]] (κx a5 L6 L7 W8) (Zh7 a0 a1 a2 a3 a4 a5 L6 L7 W8 r) (ZgA a0 a1 a2 a3 a4 a5 L6 L7 W8 r) :=
 ZaK Zr Try.func18 (by kernel_rfl) (by kernel_rfl) (fun r => by cases r <;> exact ZH _ rfl) (ZkU a0 a1 a2 a3 a4 a5 L6 L7 W8 N) h

noncomputable def Zbo {a0 : Int} {a1 : Int} {a2 : Int} {a3 : Int} {a4 : Int} {a5 : Int} {L6 : List RG} {L7 : List RF} {W8 : Nat → List Int} {w1 : List RF} {w19 : Int} {N : Nat} (h : Za5 a0 a1 a2 a3 a4 a5 L6 L7 W8 N = some (.r0 w1 w19)) (ks : List Nat) (n : Nat) : ToldS := ⟨#[vp (nth ks 0) 0, Value.agg #[vi a0, vi a1], vi a2, Value.agg #[vi a3, vi a4]], (((nth ks 0), .cells (Zhs a5 (nth ks 1) L6.length (nth ks 2) L7.length (ZdN ks 3 17) W8) 67) :: ((nth ks 1), .cells (Za RB L6) 50) :: ((nth ks 2), .cells (Za RA L7) 41) :: hpK (ZdN ks 3 17) W8 []), vi w19, [((nth ks 0), some (.cells (Zhs a5 (nth ks 1) L6.length (nth ks 2) w1.length (ZdN ks 3 17) W8) 67)), ((nth ks 2), some (.cells (Za RA w1) 41))], 0⟩

theorem Zdu {a0 : Int} {a1 : Int} {a2 : Int} {a3 : Int} {a4 : Int} {a5 : Int} {L6 : List RG} {L7 : List RF} {W8 : Nat → List Int} {w1 : List RF} {w19 : Int} {N : Nat} (h : Za5 a0 a1 a2 a3 a4 a5 L6 L7 W8 N = some (.r0 w1 w19)) (ks : List Nat) (n : Nat) (hk : ks.length = 20 := by rfl) (hnd : ks.Nodup := by decide +kernel) (hlt : ∀ k ∈ ks, k < n := by decide +kernel) : (Zbo (N := N)  h ks n).P Try.prog 18 n :=
 match ks, hk, hnd, hlt with
 | [k0, k1, k2, k3, k4, k5, k6, k7, k8, k9, k10, k11, k12, k13, k14, k15, k16, k17, k18, k19], _, hnd, hlt => Zad (show LSpec Try.prog 18 #[vp 0 0, Value.agg #[vi a0, vi a1], vi a2, Value.agg #[vi a3, vi a4]] (κx a5 L6 L7 W8) (vi w19) (some (.cells (hpC a5 1 L6.length 2 w1.length 3 W8) 67) :: some (.cells (Za RB L6) 50) :: some (.cells (Za RA w1) 41) :: hpO W8 []) from Zj3 a0 a1 a2 a3 a4 a5 L6 L7 W8 N _ h) _ n [0, 2] hnd hlt

noncomputable def ZiX (a0 : Int) (L1 : List RI) (L2 : List Int) (a3 a4 a5 a6 a7 a8 a9 a10 a11 : Int) (L12 : List RF) : ZbR → Value
 | .r0 => Value.agg #[vi a0, vs 1 0 L1.length L1.length, ms eI L2]
noncomputable def Zic (a0 : Int) (L1 : List RI) (L2 : List Int) (a3 a4 a5 a6 a7 a8 a9 a10 a11 : Int) (L12 : List RF) : ZbR → List (Option AObj)
 | .r0 => [none, some (.cells (Za RD (L1.set (a3).toNat (⟨a4, a5, a6, a7, a8, a9, a10, a11, L12⟩ : RI))) 71)]

noncomputable def ZoJ (a0 : Int) (L1 : List RI) (L2 : List Int) (a3 a4 a5 a6 a7 a8 a9 a10 a11 : Int) (L12 : List RF) : ZbR → Value
 | .r0 => Value.agg (κu a0 L1 a3 a4 a5 a6 a7 a8 a9 a10 a11 L12 L2)
noncomputable def ZnN (a0 : Int) (L1 : List RI) (L2 : List Int) (a3 a4 a5 a6 a7 a8 a9 a10 a11 : Int) (L12 : List RF) : ZbR → List (Option AObj)
 | .r0 => [none]

theorem Zns (a0 : Int) (L1 : List RI) (L2 : List Int) (a3 a4 a5 a6 a7 a8 a9 a10 a11 : Int) (L12 : List RF) (N : Nat) : Fx Try.prog Z7 Try.f58 [.cells (Za RA L12) 41] #[Value.agg (κb a0 L1 L2), vi a3, Value.agg #[vi a4, vi a5, vi a6, vi a7, vi a8, vi a9, vi a10, vi a11, vs 0 0 L12.length L12.length]] (ZiX a0 L1 L2 a3 a4 a5 a6 a7 a8 a9 a10 a11 L12) (Zic a0 L1 L2 a3 a4 a5 a6 a7 a8 a9 a10 a11 L12) (Zbz a0 L1 L2 a3 a4 a5 a6 a7 a8 a9 a10 a11 L12 N) := by
 unfold Zbz
 refine Zh (fun _ => Zq) (fun g0 => ?_)
 refine Zh (fun g1 => ?_) (fun _ => Zq)
 refine Zh (fun g2 => ?_) (fun _ => Zq)
 refine Zh (fun g3 => ?_) (fun _ => Zq)
 exact fxC (Ze (oq []) [] [(0, (a3).toNat)] [] [(0, .ap L1.length (Za RD L1) (Za RD L1)), (1, .stf 0 (ZW RA L12) (Za RD (L1.set (a3).toNat (⟨a4, a5, a6, a7, a8, a9, a10, a11, L12⟩ : RI))))]) [0, 5] (Value.agg #[vi a0, vs 5 0 (0 + L1.length) (0 + L1.length), ms eI L2]) (kC (Za8 (E := RD) (L := L1) (i := (a3).toNat) (q := 0) (l := [vi a4, vi a5, vi a6, vi a7, vi a8, vi a9, vi a10, vi a11, ms RA L12]) (⟨a4, a5, a6, a7, a8, a9, a10, a11, L12⟩ : RI) (by omega) (show (0 + ((a3).toNat * 9)) = (a3).toNat * 9 + 0 from by omega) (show 0 + 9 ≤ 9 from by decide) rfl) <| kX (dP ((Za RA L12) = Zu (ZW RA L12))) true (Za1 (Zf2 _)) <| kB (a3).toNat (0 + L1.length) <| kI a3 (Int.ofNat (a3).toNat) <| kX (dP ((L1.length = L1.length ∧ ((L1.length * 9 = 0 ∧ (Za RD L1) = []) ∨ ∃ c, L1.length * 9 ≠ 0 ∧ Zam (code (ZW RD L1)) 0 (L1.length * 9) = some c ∧ (Za RD L1) = Zu c)) ∧ 0 < L1.length ∧ L1.length ≤ 100000 ∧ 0 < 0 + L1.length ∧ 0 ≤ 100000 ∧ 0 * 9 ≤ (List.length []) ∧ List.take (0 * 9) [] ++ (Za RD L1) = (Za RD L1))) true (Za1 ⟨⟨rfl, (ZeR (E := RD) (L := L1) (n := L1.length) (size := 9) rfl (by decide) (by omega))⟩, by omega, by omega, ltA, by omega, (Zdq (E := RD) (L := ([] : List RI)) (M := L1) (n := 0) (show _ = _ * 9 from rfl) ltA (R := L1) (by rw [List.take_of_length_le ltA]; rfl))⟩) Zp) (bN <| bR <| bE) (hv := ⟨Eq.trans (show (Value.agg #[vi a0, vs 1 0 L1.length L1.length, ms eI L2] : Value) = Value.agg #[vi a0, vs 1 0 (0 + L1.length) (0 + L1.length), ms eI L2] from (Zci (Zf rfl (Zf (Zo rfl eqA eqA) (Zf rfl rfl))))) (by rfl), by rfl⟩)

theorem ZkV (a0 : Int) (L1 : List RI) (L2 : List Int) (a3 a4 a5 a6 a7 a8 a9 a10 a11 : Int) (L12 : List RF) (N : Nat) (r : ZbR) (h : Zbz a0 L1 L2 a3 a4 a5 a6 a7 a8 a9 a10 a11 L12 N = some r) : LSpec Try.prog 58 #[Value.agg (κb a0 L1 L2), vi a3, Value.agg #[vi a4, vi a5, vi a6, vi a7, vi a8, vi a9, vi a10, vi a11, vs 0 0 L12.length L12.length]] [.cells (Za RA L12) 41] (ZiX a0 L1 L2 a3 a4 a5 a6 a7 a8 a9 a10 a11 L12 r) (Zic a0 L1 L2 a3 a4 a5 a6 a7 a8 a9 a10 a11 L12 r) :=
 ZaK Zr Try.func58 (by kernel_rfl) (by kernel_rfl) (fun r => by cases r <;> exact ZH _ rfl) (Zns a0 L1 L2 a3 a4 a5 a6 a7 a8 a9 a10 a11 L12 N) h

theorem Zl5 (a0 : Int) (L1 : List RI) (L2 : List Int) (a3 a4 a5 a6 a7 a8 a9 a10 a11 : Int) (L12 : List RF) (N : Nat) (r : ZbR) (h : Zbz a0 L1 L2 a3 a4 a5 a6 a7 a8 a9 a10 a11 L12 N = some r) : LSpec Try.prog 58 #[Value.agg (κb a0 L1 L2), vi a3, Value.agg #[vi a4, vi a5, vi a6, vi a7, vi a8, vi a9, vi a10, vi a11, vs 0 0 L12.length L12.length]] [.cells (Za RA L12) 41] (ZoJ a0 L1 L2 a3 a4 a5 a6 a7 a8 a9 a10 a11 L12 r) (ZnN a0 L1 L2 a3 a4 a5 a6 a7 a8 a9 a10 a11 L12 r) := by
 have h0 := ZkV a0 L1 L2 a3 a4 a5 a6 a7 a8 a9 a10 a11 L12 N r h
 cases r with
 | r0 => exact (LSpec.frzv (E := RD) (L := (L1.set (a3).toNat (⟨a4, a5, a6, a7, a8, a9, a10, a11, L12⟩ : RI))) (post := [none]) (v2 := Value.agg (κu a0 L1 a3 a4 a5 a6 a7 a8 a9 a10 a11 L12 L2)) h0 (show 1 ≤ 1 from by decide) (show 1 < 1000000000 from by decide) ⟨trivial, trivial⟩ rfl (Zci (Zf rfl (Zf (ZhO eqA eqA) (Zf rfl rfl)))) rfl)

noncomputable def ZeG {a0 : Int} {L1 : List RI} {L2 : List Int} {a3 : Int} {a4 : Int} {a5 : Int} {a6 : Int} {a7 : Int} {a8 : Int} {a9 : Int} {a10 : Int} {a11 : Int} {L12 : List RF} {N : Nat} (h : Zbz a0 L1 L2 a3 a4 a5 a6 a7 a8 a9 a10 a11 L12 N = some (.r0)) (ks : List Nat) (n : Nat) : ToldS := ⟨#[Value.agg (κb a0 L1 L2), vi a3, Value.agg #[vi a4, vi a5, vi a6, vi a7, vi a8, vi a9, vi a10, vi a11, vs (nth ks 0) 0 L12.length L12.length]], [((nth ks 0), .cells (Za RA L12) 41)], Value.agg (κu a0 L1 a3 a4 a5 a6 a7 a8 a9 a10 a11 L12 L2), [((nth ks 0), none)], 0⟩

theorem ZfR {a0 : Int} {L1 : List RI} {L2 : List Int} {a3 : Int} {a4 : Int} {a5 : Int} {a6 : Int} {a7 : Int} {a8 : Int} {a9 : Int} {a10 : Int} {a11 : Int} {L12 : List RF} {N : Nat} (h : Zbz a0 L1 L2 a3 a4 a5 a6 a7 a8 a9 a10 a11 L12 N = some (.r0)) (ks : List Nat) (n : Nat) (hk : ks.length = 1 := by rfl) (hnd : ks.Nodup := by decide +kernel) (hlt : ∀ k ∈ ks, k < n := by decide +kernel) : (ZeG (N := N)  h ks n).P Try.prog 58 n :=
 match ks, hk, hnd, hlt with
 | [k0], _, hnd, hlt => Zad (show LSpec Try.prog 58 #[Value.agg (κb a0 L1 L2), vi a3, Value.agg #[vi a4, vi a5, vi a6, vi a7, vi a8, vi a9, vi a10, vi a11, vs 0 0 L12.length L12.length]] [.cells (Za RA L12) 41] (Value.agg (κu a0 L1 a3 a4 a5 a6 a7 a8 a9 a10 a11 L12 L2)) [none] from Zl5 a0 L1 L2 a3 a4 a5 a6 a7 a8 a9 a10 a11 L12 N _ h) _ n [0] hnd hlt

end Ev
end Go.Proofs.Ytomkpfibofpkbaa
