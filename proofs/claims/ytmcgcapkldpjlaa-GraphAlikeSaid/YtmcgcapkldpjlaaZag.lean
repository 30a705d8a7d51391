/- The law GraphAlike, for every input. -/
import Derived.Test.YtmcgcapkldpjlaaZaf
import Derived.Test.YtmcgcapkldpjlaaZac
import Derived.StillTail
import Derived.OrdersHeld
import Derived.WideBlind
/- Calls do what the plain functions say. -/
namespace Go.Proofs.Ytmcgcapkldpjlaa
open Go.RowKit
namespace Ev
set_option linter.unusedVariables false
set_option maxRecDepth 100000
theorem Zln (L0 : List R_iiiiiiiA) (N : Nat) : (ZbQ L0 N).Enter Try.prog Zq #[vs 0 0 L0.length L0.length, vn] (Zfn L0 N) := by
 unfold Zfn
 refine Mach.en_ite (fun g0 => ?_) (fun g0 => ?_)
 ·
  exact Mach.en_fin (M := ZbQ L0 N) (cd := 1000000) (cm := 0) (r := (.r0 (false) : ZaC)) (fu := 4000) (orc := (Zp [(0, true)] [] [] [] [])) (live := [0]) (u := vf) (bl := [some (.cells (Zb E_iiiiiiiA L0) 34)]) (ob := [(((L0.length : Int) != (0 : Int)), true)]) (by kernel_rfl) (oD Zg) rfl (by decide) (by rfl) rr ⟨(Ze (E := E_iiiiiiiA) (α := R_iiiiiiiA) _ L0 _), trivial⟩
 ·
  exact Mach.en_head (bK := Zeh 1) (M := ZbQ L0 N) (cd := 1000000) (cm := 0) (y := (.h1m0 : Za5)) (fu := 4000) (orc := (Zp [(0, false)] [] [] [] [])) (live := [0]) (tv := [some (vs 0 0 L0.length L0.length), some (vn), some (vq)]) (bl := [some (.cells (Zb E_iiiiiiiA L0) 34)]) (ob := [(((L0.length : Int) != (0 : Int)), false)]) rfl rfl (show Zw (Zeh 1).2 = [] from rfl) (by kernel_rfl) (oE Zg) rfl (by decide) (by rfl) ⟨rr, ⟨rr, ⟨rr, trivial⟩⟩⟩ ⟨(Ze (E := E_iiiiiiiA) (α := R_iiiiiiiA) _ L0 _), trivial⟩

theorem ZjZ (L0 : List R_iiiiiiiA) (N : Nat) (r : ZaC) (h : Zgf L0 N = some r) : LSpec Try.prog 11 #[vs 0 0 L0.length L0.length, vn] [.cells (Zb E_iiiiiiiA L0) 34] (Zie L0 r) (Zhm L0 r) :=
 Mach.spec Zb0 (ZbQ L0 N) Try.func11 (by kernel_rfl) (by kernel_rfl) (fun x => by cases x <;> exact Zae _ rfl) (fun r => by cases r <;> exact Zae _ rfl) (fun x => by
  cases x with
  | h1m0 => exact fun _ => (show ¬ (1 ∈ Zw (Zeh 1).2) from by decide +kernel)
  ) (fun x => (show (ZbQ L0 N).Ok Try.prog Zq x (Zdn L0 N x) from by
  cases x with
  | h1m0 => exact Zjw L0 N
  )) (Zln L0 N) (n := N) h

noncomputable def ZdC (L0 : List R_iiiiiiiA) (w1 : Bool) (k0 n : Nat) : Zbp := .call [(k0, .cells (Zb E_iiiiiiiA L0) 34)] (Value.bool w1) [] 0
def ZcO (A : Array Value) (L0 : List R_iiiiiiiA) (w1 : Bool) (k0 n : Nat) : Prop := ZC Try.prog 11 A [(k0, .cells (Zb E_iiiiiiiA L0) 34)] (Value.bool w1) [] n 0

theorem ZdD (A : Array Value) (L0 : List R_iiiiiiiA) (w1 : Bool) (N : Nat) (h : Zgf L0 N = some (.r0 w1)) (k0 n : Nat) (hA : A = #[vs k0 0 L0.length L0.length, vn]) (hnd : ([k0] : List Nat).Nodup) (hlt : ∀ k ∈ ([k0] : List Nat), k < n) : ZcO A L0 w1 k0 n :=
 Zan hA (LSpec.callL (show LSpec Try.prog 11 #[vs 0 0 L0.length L0.length, vn] [.cells (Zb E_iiiiiiiA L0) 34] (Value.bool w1) [some (.cells (Zb E_iiiiiiiA L0) 34)] from ZjZ L0 N _ h) [k0] n [] rfl hnd hlt (show 1 ≤ 1 from by decide) (show ∀ j ∈ ([] : List Nat), j < 1 from by decide) (by rfl) ⟨(Zt _ _ _), trivial⟩ (by rfl) ⟨(Zt _ _ _), trivial⟩ ⟨.inr rfl, trivial⟩ rfl rfl rfl (Zf (Zk rfl (ZD _ _ _)) rfl) rfl)

noncomputable def Zjx (L0 : List R_iiiiiiiA) (L1 : List R_ii) (L2 : List R_iiiiiiiA) (L3 : List R_ii) : Zo → Value
 | .r0 w2 => Value.bool w2
noncomputable def Zi7 (L0 : List R_iiiiiiiA) (L1 : List R_ii) (L2 : List R_iiiiiiiA) (L3 : List R_ii) : Zo → List (Option AObj)
 | .r0 w2 => [some (.cells (Zb E_iiiiiiiA L0) 34), some (.cells (Zb E_iiiiiiiA L2) 34)]

def Znf : graph_Alike_3X → Nat
 | .h1m0 => 1
 | .h1m1 v2 => 1
 | .h1m2 v2 v3 => 1
 | .h1m3 v2 v3 v4 v5 => 1
noncomputable def Zn6 (L0 : List R_iiiiiiiA) (L1 : List R_ii) (L2 : List R_iiiiiiiA) (L3 : List R_ii) : graph_Alike_3X → List (Nat × Value)
 | .h1m0 => [(0, vn), (2, vn), (34, vq), (35, vq)]
 | .h1m1 v2 => [(0, vn), (2, vs 2 0 v2.length v2.length), (34, vq), (35, vq)]
 | .h1m2 v2 v3 => [(0, vs 2 0 v2.length v2.length), (2, vn), (34, vi (v3 : Int)), (35, vq)]
 | .h1m3 v2 v3 v4 v5 => [(0, vs 2 0 v2.length v2.length), (2, vs 3 0 v3.length v3.length), (34, vi (v4 : Int)), (35, vi (v5 : Int))]
noncomputable def Zn7 (L0 : List R_iiiiiiiA) (L1 : List R_ii) (L2 : List R_iiiiiiiA) (L3 : List R_ii) : graph_Alike_3X → List (Option AObj)
 | .h1m0 => [some (.cells (Zb E_iiiiiiiA L0) 34), some (.cells (Zb E_iiiiiiiA L2) 34)]
 | .h1m1 v2 => [some (.cells (Zb E_iiiiiiiA L0) 34), some (.cells (Zb E_iiiiiiiA L2) 34), some (.cells (Zb E_iiiiiiiA v2) 34)]
 | .h1m2 v2 v3 => [some (.cells (Zb E_iiiiiiiA L0) 34), some (.cells (Zb E_iiiiiiiA L2) 34), some (.cells (Zb E_iiiiiiiA v2) 34)]
 | .h1m3 v2 v3 v4 v5 => [some (.cells (Zb E_iiiiiiiA L0) 34), some (.cells (Zb E_iiiiiiiA L2) 34), some (.cells (Zb E_iiiiiiiA v2) 34), some (.cells (Zb E_iiiiiiiA v3) 34)]

noncomputable def Za6 : Nat → Code × List ZaF
 | 1 => Zbj [1, 1, 1, 1, 0, 1, 3] (Zcb Try.f13) []
 | _ => (.skip, [])
def Zi8 : Nat → Bool
 | 1 => true
 | _ => true
noncomputable def Zfi (i : Nat) : List ZaF := match Zi8 i with | true => .rnd i :: (Za6 i).2 | false => (Za6 i).2

noncomputable def Zy (L0 : List R_iiiiiiiA) (L1 : List R_ii) (L2 : List R_iiiiiiiA) (L3 : List R_ii) (N : Nat) : Mach := ⟨Try.f13, [.cells (Zb E_iiiiiiiA L0) 34, .cells (Zb E_iiiiiiiA L2) 34], graph_Alike_3X, Zo, Zb6 L0 L1 L2 L3 N, Znf, Za6, Zi8, Zn6 L0 L1 L2 L3, Zn7 L0 L1 L2 L3, Zjx L0 L1 L2 L3, Zi7 L0 L1 L2 L3⟩

theorem Zku (L0 : List R_iiiiiiiA) (L1 : List R_ii) (L2 : List R_iiiiiiiA) (L3 : List R_ii) (N : Nat) : (Zy L0 L1 L2 L3 N).Ok Try.prog Zq (.h1m0 : graph_Alike_3X) (Zb6 L0 L1 L2 L3 N (.h1m0 : graph_Alike_3X)) := by
 show (Zy L0 L1 L2 L3 N).Ok Try.prog Zq (.h1m0 : graph_Alike_3X) (ZeG L0 L1 L2 L3 N)
 unfold ZeG
 exact Mach.ok_fin (M := Zy L0 L1 L2 L3 N) (cd := 1000000) (cm := 0) (r := (.r0 (true) : Zo)) (fu := 4000) (orc := (Zp [] [] [] [] [])) (live := [0, 1]) (u := vT) (bl := [some (.cells (Zb E_iiiiiiiA L0) 34), some (.cells (Zb E_iiiiiiiA L2) 34)]) (ob := []) (fun gv => by kernel_rfl) Zg rfl (by decide) (by rfl) rr ⟨(Ze (E := E_iiiiiiiA) (α := R_iiiiiiiA) _ L0 _), ⟨(Ze (E := E_iiiiiiiA) (α := R_iiiiiiiA) _ L2 _), trivial⟩⟩

theorem Zkv (L0 : List R_iiiiiiiA) (L1 : List R_ii) (L2 : List R_iiiiiiiA) (L3 : List R_ii) (v2 : List R_iiiiiiiA) (N : Nat) : (Zy L0 L1 L2 L3 N).Ok Try.prog Zq (.h1m1 v2 : graph_Alike_3X) (Zb6 L0 L1 L2 L3 N (.h1m1 v2 : graph_Alike_3X)) := by
 show (Zy L0 L1 L2 L3 N).Ok Try.prog Zq (.h1m1 v2 : graph_Alike_3X) (ZeH L0 L1 L2 L3 N v2)
 unfold ZeH
 exact Mach.ok_fin (M := Zy L0 L1 L2 L3 N) (cd := 1000000) (cm := 0) (r := (.r0 (true) : Zo)) (fu := 4000) (orc := (Zp [] [] [] [] [])) (live := [0, 1]) (u := vT) (bl := [some (.cells (Zb E_iiiiiiiA L0) 34), some (.cells (Zb E_iiiiiiiA L2) 34)]) (ob := []) (fun gv => by kernel_rfl) Zg rfl (by decide) (by rfl) rr ⟨(Ze (E := E_iiiiiiiA) (α := R_iiiiiiiA) _ L0 _), ⟨(Ze (E := E_iiiiiiiA) (α := R_iiiiiiiA) _ L2 _), trivial⟩⟩

theorem Zkw (L0 : List R_iiiiiiiA) (L1 : List R_ii) (L2 : List R_iiiiiiiA) (L3 : List R_ii) (v2 : List R_iiiiiiiA) (v3 N : Nat) : (Zy L0 L1 L2 L3 N).Ok Try.prog Zq (.h1m2 v2 v3 : graph_Alike_3X) (Zb6 L0 L1 L2 L3 N (.h1m2 v2 v3 : graph_Alike_3X)) := by
 show (Zy L0 L1 L2 L3 N).Ok Try.prog Zq (.h1m2 v2 v3 : graph_Alike_3X) (ZeI L0 L1 L2 L3 N v2 v3)
 unfold ZeI
 refine Mach.ok_ite (fun g0 => ?_) (fun g0 => ?_)
 ·
  exact Mach.ok_none
 ·
  exact Mach.ok_fin (M := Zy L0 L1 L2 L3 N) (cd := 1000000) (cm := 0) (r := (.r0 (true) : Zo)) (fu := 4000) (orc := (Zp [(0, false)] [] [] [] [])) (live := [0, 1]) (u := vT) (bl := [some (.cells (Zb E_iiiiiiiA L0) 34), some (.cells (Zb E_iiiiiiiA L2) 34)]) (ob := [((decide ((0 : Int) < (v3 : Int))), false)]) (fun gv => by kernel_rfl) (oN Zg) rfl (by decide) (by rfl) rr ⟨(Ze (E := E_iiiiiiiA) (α := R_iiiiiiiA) _ L0 _), ⟨(Ze (E := E_iiiiiiiA) (α := R_iiiiiiiA) _ L2 _), trivial⟩⟩

theorem Zkx (L0 : List R_iiiiiiiA) (L1 : List R_ii) (L2 : List R_iiiiiiiA) (L3 : List R_ii) (v2 v3 : List R_iiiiiiiA) (v4 v5 N : Nat) : (Zy L0 L1 L2 L3 N).Ok Try.prog Zq (.h1m3 v2 v3 v4 v5 : graph_Alike_3X) (Zb6 L0 L1 L2 L3 N (.h1m3 v2 v3 v4 v5 : graph_Alike_3X)) := by
 show (Zy L0 L1 L2 L3 N).Ok Try.prog Zq (.h1m3 v2 v3 v4 v5 : graph_Alike_3X) (ZbL L0 L1 L2 L3 N v2 v3 v4 v5)
 unfold ZbL
 refine Mach.ok_ite (fun g0 => ?_) (fun g0 => ?_)
 ·
  refine Mach.ok_ite (fun g1 => ?_) (fun g1 => ?_)
  ·
   refine Mach.ok_ite (fun g2 => ?_) (fun g2 => ?_)
   ·
    refine Mach.ok_ite (fun g3 => ?_) (fun g3 => ?_)
    ·
     refine Mach.ok_ite (fun g4 => ?_) (fun g4 => ?_)
     ·
      refine Mach.ok_ite (fun g5 => ?_) (fun g5 => ?_)
      ·
       exact Mach.ok_fin (M := Zy L0 L1 L2 L3 N) (cd := 1000000) (cm := 0) (r := (.r0 (false) : Zo)) (fu := 4000) (orc := (Zp [(0, true), (1, true), (2, true), (3, true)] [] [(0, v5), (1, v5)] [(0, [.i (v2.getD v5 R_iiiiiiiA.z).a2, .i (v2.getD v5 R_iiiiiiiA.z).a3, .i (v2.getD v5 R_iiiiiiiA.z).a4, .i (v2.getD v5 R_iiiiiiiA.z).a5, .i (v2.getD v5 R_iiiiiiiA.z).a6]), (3, [.i (v3.getD v5 R_iiiiiiiA.z).a2, .i (v3.getD v5 R_iiiiiiiA.z).a3, .i (v3.getD v5 R_iiiiiiiA.z).a4, .i (v3.getD v5 R_iiiiiiiA.z).a5, .i (v3.getD v5 R_iiiiiiiA.z).a6])] [])) (live := [0, 1]) (u := vf) (bl := [some (.cells (Zb E_iiiiiiiA L0) 34), some (.cells (Zb E_iiiiiiiA L2) 34)]) (ob := [((!(((v2.getD v5 R_iiiiiiiA.z).a2 == (v3.getD v5 R_iiiiiiiA.z).a2) && (((v2.getD v5 R_iiiiiiiA.z).a3 == (v3.getD v5 R_iiiiiiiA.z).a3) && (((v2.getD v5 R_iiiiiiiA.z).a4 == (v3.getD v5 R_iiiiiiiA.z).a4) && (((2 : Int) == (2 : Int)) && (((0 : Int) == (0 : Int)) && true)))))), true), (((v3.getD v5 R_iiiiiiiA.z).a5 == (1 : Int)), true), (Zs (Zl 5 (List.drop ((0 + (v5 * 8)) + 2) (Zb E_iiiiiiiA v3))) [.i (v3.getD v5 R_iiiiiiiA.z).a2, .i (v3.getD v5 R_iiiiiiiA.z).a3, .i (v3.getD v5 R_iiiiiiiA.z).a4, .i (v3.getD v5 R_iiiiiiiA.z).a5, .i (v3.getD v5 R_iiiiiiiA.z).a6], true), (Nat.blt v5 v3.length, true), ((v5 : Int) == Int.ofNat v5, true), (((v2.getD v5 R_iiiiiiiA.z).a5 == (1 : Int)), true), (Zs (Zl 5 (List.drop ((0 + (v5 * 8)) + 2) (Zb E_iiiiiiiA v2))) [.i (v2.getD v5 R_iiiiiiiA.z).a2, .i (v2.getD v5 R_iiiiiiiA.z).a3, .i (v2.getD v5 R_iiiiiiiA.z).a4, .i (v2.getD v5 R_iiiiiiiA.z).a5, .i (v2.getD v5 R_iiiiiiiA.z).a6], true), (Nat.blt v5 v2.length, true), ((v5 : Int) == Int.ofNat v5, true), ((decide ((v5 : Int) < (v4 : Int))), true)]) (fun gv => by kernel_rfl) (Za (by rw [Bool.not_eq_true']; exact Bool.eq_false_iff.2 (by simp only [ne_eq, Bool.and_true, Bool.and_eq_true, beq_iff_eq]; first | omega | (intro hh; simp_all; done) | (intro hh; grind))) <| oT <| Za (Zh (E := E_iiiiiiiA) (L := v3) (i := v5) (q := 2) (by omega) (show ((0 + (v5 * 8)) + 2) = v5 * 8 + 2 from by omega) (show 2 + 5 ≤ 8 from by decide) rfl rfl) <| oB <| oI <| oT <| Za (Zh (E := E_iiiiiiiA) (L := v2) (i := v5) (q := 2) (by omega) (show ((0 + (v5 * 8)) + 2) = v5 * 8 + 2 from by omega) (show 2 + 5 ≤ 8 from by decide) rfl rfl) <| oB <| oI <| oY Zg) rfl (by decide) (by rfl) rr ⟨(Ze (E := E_iiiiiiiA) (α := R_iiiiiiiA) _ L0 _), ⟨(Ze (E := E_iiiiiiiA) (α := R_iiiiiiiA) _ L2 _), trivial⟩⟩
      ·
       refine Mach.ok_bind (fun z6 c6 => ?_)
       cases z6 with
       | r0 y6_0 =>
        refine Mach.ok_ite (fun g7 => ?_) (fun g7 => ?_)
        ·
         exact Mach.ok_fin (M := Zy L0 L1 L2 L3 N) (cd := 1000000) (cm := 0) (r := (.r0 (false) : Zo)) (fu := 4000) (orc := (Zp [(0, true), (1, true), (2, true), (3, false), (4, true)] [] [(0, v5), (1, v5), (2, v5), (3, v5)] [(0, [.i (v2.getD v5 R_iiiiiiiA.z).a2, .i (v2.getD v5 R_iiiiiiiA.z).a3, .i (v2.getD v5 R_iiiiiiiA.z).a4, .i (v2.getD v5 R_iiiiiiiA.z).a5, .i (v2.getD v5 R_iiiiiiiA.z).a6]), (3, [.i (v3.getD v5 R_iiiiiiiA.z).a2, .i (v3.getD v5 R_iiiiiiiA.z).a3, .i (v3.getD v5 R_iiiiiiiA.z).a4, .i (v3.getD v5 R_iiiiiiiA.z).a5, .i (v3.getD v5 R_iiiiiiiA.z).a6]), (6, [(mc E_ii (v2.getD v5 R_iiiiiiiA.z).a7)]), (7, [(mc E_ii (v3.getD v5 R_iiiiiiiA.z).a7)])] [(6, (ZP ((v2.getD v5 R_iiiiiiiA.z).a7) ((v3.getD v5 R_iiiiiiiA.z).a7)  y6_0  8))])) (live := [0, 1]) (u := vf) (bl := [some (.cells (Zb E_iiiiiiiA L0) 34), some (.cells (Zb E_iiiiiiiA L2) 34)]) (ob := [((!y6_0), true), (dP (ZL #[ms E_ii (v2.getD v5 R_iiiiiiiA.z).a7, ms E_ii (v3.getD v5 R_iiiiiiiA.z).a7] ((v2.getD v5 R_iiiiiiiA.z).a7) ((v3.getD v5 R_iiiiiiiA.z).a7)  y6_0  8), true), (Zs (Zl 1 (List.drop ((0 + (v5 * 8)) + 7) (Zb E_iiiiiiiA v3))) [(mc E_ii (v3.getD v5 R_iiiiiiiA.z).a7)], true), (Nat.blt v5 v3.length, true), ((v5 : Int) == Int.ofNat v5, true), (Zs (Zl 1 (List.drop ((0 + (v5 * 8)) + 7) (Zb E_iiiiiiiA v2))) [(mc E_ii (v2.getD v5 R_iiiiiiiA.z).a7)], true), (Nat.blt v5 v2.length, true), ((v5 : Int) == Int.ofNat v5, true), ((!(((v2.getD v5 R_iiiiiiiA.z).a2 == (v3.getD v5 R_iiiiiiiA.z).a2) && (((v2.getD v5 R_iiiiiiiA.z).a3 == (v3.getD v5 R_iiiiiiiA.z).a3) && (((v2.getD v5 R_iiiiiiiA.z).a4 == (v3.getD v5 R_iiiiiiiA.z).a4) && (((2 : Int) == (2 : Int)) && (((0 : Int) == (0 : Int)) && true)))))), false), (((v3.getD v5 R_iiiiiiiA.z).a5 == (1 : Int)), true), (Zs (Zl 5 (List.drop ((0 + (v5 * 8)) + 2) (Zb E_iiiiiiiA v3))) [.i (v3.getD v5 R_iiiiiiiA.z).a2, .i (v3.getD v5 R_iiiiiiiA.z).a3, .i (v3.getD v5 R_iiiiiiiA.z).a4, .i (v3.getD v5 R_iiiiiiiA.z).a5, .i (v3.getD v5 R_iiiiiiiA.z).a6], true), (Nat.blt v5 v3.length, true), ((v5 : Int) == Int.ofNat v5, true), (((v2.getD v5 R_iiiiiiiA.z).a5 == (1 : Int)), true), (Zs (Zl 5 (List.drop ((0 + (v5 * 8)) + 2) (Zb E_iiiiiiiA v2))) [.i (v2.getD v5 R_iiiiiiiA.z).a2, .i (v2.getD v5 R_iiiiiiiA.z).a3, .i (v2.getD v5 R_iiiiiiiA.z).a4, .i (v2.getD v5 R_iiiiiiiA.z).a5, .i (v2.getD v5 R_iiiiiiiA.z).a6], true), (Nat.blt v5 v2.length, true), ((v5 : Int) == Int.ofNat v5, true), ((decide ((v5 : Int) < (v4 : Int))), true)]) (fun gv => by kernel_rfl) (Za (ZcK (by first | assumption | simp_all)) <| Za (Zd (ZQ #[ms E_ii (v2.getD v5 R_iiiiiiiA.z).a7, ms E_ii (v3.getD v5 R_iiiiiiiA.z).a7] ((v2.getD v5 R_iiiiiiiA.z).a7) ((v3.getD v5 R_iiiiiiiA.z).a7)  y6_0 N c6  8 rfl (by decide) (by decide))) <| Za (Zh (E := E_iiiiiiiA) (L := v3) (i := v5) (q := 7) (by omega) (show ((0 + (v5 * 8)) + 7) = v5 * 8 + 7 from by omega) (show 7 + 1 ≤ 8 from by decide) rfl rfl) <| oB <| oI <| Za (Zh (E := E_iiiiiiiA) (L := v2) (i := v5) (q := 7) (by omega) (show ((0 + (v5 * 8)) + 7) = v5 * 8 + 7 from by omega) (show 7 + 1 ≤ 8 from by decide) rfl rfl) <| oB <| oI <| Za (by rw [Bool.not_eq_false']; first | (simp only [beq_self_eq_true, Bool.and_self]; done) | (simp only [Bool.and_true, Bool.and_eq_true, beq_iff_eq] <;> first | omega | (simp_all; done) | grind)) <| oT <| Za (Zh (E := E_iiiiiiiA) (L := v3) (i := v5) (q := 2) (by omega) (show ((0 + (v5 * 8)) + 2) = v5 * 8 + 2 from by omega) (show 2 + 5 ≤ 8 from by decide) rfl rfl) <| oB <| oI <| oT <| Za (Zh (E := E_iiiiiiiA) (L := v2) (i := v5) (q := 2) (by omega) (show ((0 + (v5 * 8)) + 2) = v5 * 8 + 2 from by omega) (show 2 + 5 ≤ 8 from by decide) rfl rfl) <| oB <| oI <| oY Zg) rfl (by decide) (by rfl) rr ⟨(Ze (E := E_iiiiiiiA) (α := R_iiiiiiiA) _ L0 _), ⟨(Ze (E := E_iiiiiiiA) (α := R_iiiiiiiA) _ L2 _), trivial⟩⟩
        ·
         refine Mach.ok_ite (fun g8 => ?_) (fun g8 => ?_)
         ·
          exact Mach.ok_next (M := Zy L0 L1 L2 L3 N) (cd := 1000000) (cm := 0) (y := (.h1m3 (v2) (v3) (v4) ((v5 + 1)) : graph_Alike_3X)) (fu := 4000) (orc := (Zp [(0, true), (1, true), (2, true), (3, false), (4, false)] [(0, (((v5 + 1) : Nat) : Int))] [(0, v5), (1, v5), (2, v5), (3, v5)] [(0, [.i (v2.getD v5 R_iiiiiiiA.z).a2, .i (v2.getD v5 R_iiiiiiiA.z).a3, .i (v2.getD v5 R_iiiiiiiA.z).a4, .i (v2.getD v5 R_iiiiiiiA.z).a5, .i (v2.getD v5 R_iiiiiiiA.z).a6]), (3, [.i (v3.getD v5 R_iiiiiiiA.z).a2, .i (v3.getD v5 R_iiiiiiiA.z).a3, .i (v3.getD v5 R_iiiiiiiA.z).a4, .i (v3.getD v5 R_iiiiiiiA.z).a5, .i (v3.getD v5 R_iiiiiiiA.z).a6]), (6, [(mc E_ii (v2.getD v5 R_iiiiiiiA.z).a7)]), (7, [(mc E_ii (v3.getD v5 R_iiiiiiiA.z).a7)])] [(6, (ZP ((v2.getD v5 R_iiiiiiiA.z).a7) ((v3.getD v5 R_iiiiiiiA.z).a7)  y6_0  8))])) (live := [0, 1, 2, 3]) (tv := fun _ => [some (vs 2 0 v2.length v2.length), some (vs 3 0 v3.length v3.length), some (vi (v4 : Int)), some (vi (((v5 + 1) : Nat) : Int))]) (bl := [some (.cells (Zb E_iiiiiiiA L0) 34), some (.cells (Zb E_iiiiiiiA L2) 34), some (.cells (Zb E_iiiiiiiA v2) 34), some (.cells (Zb E_iiiiiiiA v3) 34)]) (ob := [((IntKind.i64.wrap ((v5 : Int) + (1 : Int))) == (((v5 + 1) : Nat) : Int), true), ((!y6_0), false), (dP (ZL #[ms E_ii (v2.getD v5 R_iiiiiiiA.z).a7, ms E_ii (v3.getD v5 R_iiiiiiiA.z).a7] ((v2.getD v5 R_iiiiiiiA.z).a7) ((v3.getD v5 R_iiiiiiiA.z).a7)  y6_0  8), true), (Zs (Zl 1 (List.drop ((0 + (v5 * 8)) + 7) (Zb E_iiiiiiiA v3))) [(mc E_ii (v3.getD v5 R_iiiiiiiA.z).a7)], true), (Nat.blt v5 v3.length, true), ((v5 : Int) == Int.ofNat v5, true), (Zs (Zl 1 (List.drop ((0 + (v5 * 8)) + 7) (Zb E_iiiiiiiA v2))) [(mc E_ii (v2.getD v5 R_iiiiiiiA.z).a7)], true), (Nat.blt v5 v2.length, true), ((v5 : Int) == Int.ofNat v5, true), ((!(((v2.getD v5 R_iiiiiiiA.z).a2 == (v3.getD v5 R_iiiiiiiA.z).a2) && (((v2.getD v5 R_iiiiiiiA.z).a3 == (v3.getD v5 R_iiiiiiiA.z).a3) && (((v2.getD v5 R_iiiiiiiA.z).a4 == (v3.getD v5 R_iiiiiiiA.z).a4) && (((2 : Int) == (2 : Int)) && (((0 : Int) == (0 : Int)) && true)))))), false), (((v3.getD v5 R_iiiiiiiA.z).a5 == (1 : Int)), true), (Zs (Zl 5 (List.drop ((0 + (v5 * 8)) + 2) (Zb E_iiiiiiiA v3))) [.i (v3.getD v5 R_iiiiiiiA.z).a2, .i (v3.getD v5 R_iiiiiiiA.z).a3, .i (v3.getD v5 R_iiiiiiiA.z).a4, .i (v3.getD v5 R_iiiiiiiA.z).a5, .i (v3.getD v5 R_iiiiiiiA.z).a6], true), (Nat.blt v5 v3.length, true), ((v5 : Int) == Int.ofNat v5, true), (((v2.getD v5 R_iiiiiiiA.z).a5 == (1 : Int)), true), (Zs (Zl 5 (List.drop ((0 + (v5 * 8)) + 2) (Zb E_iiiiiiiA v2))) [.i (v2.getD v5 R_iiiiiiiA.z).a2, .i (v2.getD v5 R_iiiiiiiA.z).a3, .i (v2.getD v5 R_iiiiiiiA.z).a4, .i (v2.getD v5 R_iiiiiiiA.z).a5, .i (v2.getD v5 R_iiiiiiiA.z).a6], true), (Nat.blt v5 v2.length, true), ((v5 : Int) == Int.ofNat v5, true), ((decide ((v5 : Int) < (v4 : Int))), true)]) rfl (show 1 ∈ Zw (Zfi 1) from by decide +kernel) (fun gv => by kernel_rfl) (Za (beq_iff_eq.2 ((wrap_i64 ltA).trans (by first | rfl | omega))) <| Za (Zcf (by first | assumption | exact Decidable.not_not.1 (by assumption) | simp_all)) <| Za (Zd (ZQ #[ms E_ii (v2.getD v5 R_iiiiiiiA.z).a7, ms E_ii (v3.getD v5 R_iiiiiiiA.z).a7] ((v2.getD v5 R_iiiiiiiA.z).a7) ((v3.getD v5 R_iiiiiiiA.z).a7)  y6_0 N c6  8 rfl (by decide) (by decide))) <| Za (Zh (E := E_iiiiiiiA) (L := v3) (i := v5) (q := 7) (by omega) (show ((0 + (v5 * 8)) + 7) = v5 * 8 + 7 from by omega) (show 7 + 1 ≤ 8 from by decide) rfl rfl) <| oB <| oI <| Za (Zh (E := E_iiiiiiiA) (L := v2) (i := v5) (q := 7) (by omega) (show ((0 + (v5 * 8)) + 7) = v5 * 8 + 7 from by omega) (show 7 + 1 ≤ 8 from by decide) rfl rfl) <| oB <| oI <| Za (by rw [Bool.not_eq_false']; first | (simp only [beq_self_eq_true, Bool.and_self]; done) | (simp only [Bool.and_true, Bool.and_eq_true, beq_iff_eq] <;> first | omega | (simp_all; done) | grind)) <| oT <| Za (Zh (E := E_iiiiiiiA) (L := v3) (i := v5) (q := 2) (by omega) (show ((0 + (v5 * 8)) + 2) = v5 * 8 + 2 from by omega) (show 2 + 5 ≤ 8 from by decide) rfl rfl) <| oB <| oI <| oT <| Za (Zh (E := E_iiiiiiiA) (L := v2) (i := v5) (q := 2) (by omega) (show ((0 + (v5 * 8)) + 2) = v5 * 8 + 2 from by omega) (show 2 + 5 ≤ 8 from by decide) rfl rfl) <| oB <| oI <| oY Zg) rfl (by decide) (by rfl) (fun _ => ⟨rr, ⟨rr, ⟨rr, ⟨rr, trivial⟩⟩⟩⟩) ⟨(Ze (E := E_iiiiiiiA) (α := R_iiiiiiiA) _ L0 _), ⟨(Ze (E := E_iiiiiiiA) (α := R_iiiiiiiA) _ L2 _), ⟨(Ze (E := E_iiiiiiiA) (α := R_iiiiiiiA) _ v2 _), ⟨(Ze (E := E_iiiiiiiA) (α := R_iiiiiiiA) _ v3 _), trivial⟩⟩⟩⟩
         ·
          exact Mach.ok_none
     ·
      refine Mach.ok_ite (fun g5 => ?_) (fun g5 => ?_)
      ·
       exact Mach.ok_fin (M := Zy L0 L1 L2 L3 N) (cd := 1000000) (cm := 0) (r := (.r0 (false) : Zo)) (fu := 4000) (orc := (Zp [(0, true), (1, true), (2, false), (3, true)] [] [(0, v5), (1, v5)] [(0, [.i (v2.getD v5 R_iiiiiiiA.z).a2, .i (v2.getD v5 R_iiiiiiiA.z).a3, .i (v2.getD v5 R_iiiiiiiA.z).a4, .i (v2.getD v5 R_iiiiiiiA.z).a5, .i (v2.getD v5 R_iiiiiiiA.z).a6]), (3, [.i (v3.getD v5 R_iiiiiiiA.z).a2, .i (v3.getD v5 R_iiiiiiiA.z).a3, .i (v3.getD v5 R_iiiiiiiA.z).a4, .i (v3.getD v5 R_iiiiiiiA.z).a5, .i (v3.getD v5 R_iiiiiiiA.z).a6])] [])) (live := [0, 1]) (u := vf) (bl := [some (.cells (Zb E_iiiiiiiA L0) 34), some (.cells (Zb E_iiiiiiiA L2) 34)]) (ob := [((!(((v2.getD v5 R_iiiiiiiA.z).a2 == (v3.getD v5 R_iiiiiiiA.z).a2) && (((v2.getD v5 R_iiiiiiiA.z).a3 == (v3.getD v5 R_iiiiiiiA.z).a3) && (((v2.getD v5 R_iiiiiiiA.z).a4 == (v3.getD v5 R_iiiiiiiA.z).a4) && (((2 : Int) == (v3.getD v5 R_iiiiiiiA.z).a5) && (((0 : Int) == (0 : Int)) && true)))))), true), (((v3.getD v5 R_iiiiiiiA.z).a5 == (1 : Int)), false), (Zs (Zl 5 (List.drop ((0 + (v5 * 8)) + 2) (Zb E_iiiiiiiA v3))) [.i (v3.getD v5 R_iiiiiiiA.z).a2, .i (v3.getD v5 R_iiiiiiiA.z).a3, .i (v3.getD v5 R_iiiiiiiA.z).a4, .i (v3.getD v5 R_iiiiiiiA.z).a5, .i (v3.getD v5 R_iiiiiiiA.z).a6], true), (Nat.blt v5 v3.length, true), ((v5 : Int) == Int.ofNat v5, true), (((v2.getD v5 R_iiiiiiiA.z).a5 == (1 : Int)), true), (Zs (Zl 5 (List.drop ((0 + (v5 * 8)) + 2) (Zb E_iiiiiiiA v2))) [.i (v2.getD v5 R_iiiiiiiA.z).a2, .i (v2.getD v5 R_iiiiiiiA.z).a3, .i (v2.getD v5 R_iiiiiiiA.z).a4, .i (v2.getD v5 R_iiiiiiiA.z).a5, .i (v2.getD v5 R_iiiiiiiA.z).a6], true), (Nat.blt v5 v2.length, true), ((v5 : Int) == Int.ofNat v5, true), ((decide ((v5 : Int) < (v4 : Int))), true)]) (fun gv => by kernel_rfl) (Za (by rw [Bool.not_eq_true']; exact Bool.eq_false_iff.2 (by simp only [ne_eq, Bool.and_true, Bool.and_eq_true, beq_iff_eq]; first | omega | (intro hh; simp_all; done) | (intro hh; grind))) <| oF <| Za (Zh (E := E_iiiiiiiA) (L := v3) (i := v5) (q := 2) (by omega) (show ((0 + (v5 * 8)) + 2) = v5 * 8 + 2 from by omega) (show 2 + 5 ≤ 8 from by decide) rfl rfl) <| oB <| oI <| oT <| Za (Zh (E := E_iiiiiiiA) (L := v2) (i := v5) (q := 2) (by omega) (show ((0 + (v5 * 8)) + 2) = v5 * 8 + 2 from by omega) (show 2 + 5 ≤ 8 from by decide) rfl rfl) <| oB <| oI <| oY Zg) rfl (by decide) (by rfl) rr ⟨(Ze (E := E_iiiiiiiA) (α := R_iiiiiiiA) _ L0 _), ⟨(Ze (E := E_iiiiiiiA) (α := R_iiiiiiiA) _ L2 _), trivial⟩⟩
      ·
       refine Mach.ok_bind (fun z6 c6 => ?_)
       cases z6 with
       | r0 y6_0 =>
        refine Mach.ok_ite (fun g7 => ?_) (fun g7 => ?_)
        ·
         exact Mach.ok_fin (M := Zy L0 L1 L2 L3 N) (cd := 1000000) (cm := 0) (r := (.r0 (false) : Zo)) (fu := 4000) (orc := (Zp [(0, true), (1, true), (2, false), (3, false), (4, true)] [] [(0, v5), (1, v5), (2, v5), (3, v5)] [(0, [.i (v2.getD v5 R_iiiiiiiA.z).a2, .i (v2.getD v5 R_iiiiiiiA.z).a3, .i (v2.getD v5 R_iiiiiiiA.z).a4, .i (v2.getD v5 R_iiiiiiiA.z).a5, .i (v2.getD v5 R_iiiiiiiA.z).a6]), (3, [.i (v3.getD v5 R_iiiiiiiA.z).a2, .i (v3.getD v5 R_iiiiiiiA.z).a3, .i (v3.getD v5 R_iiiiiiiA.z).a4, .i (v3.getD v5 R_iiiiiiiA.z).a5, .i (v3.getD v5 R_iiiiiiiA.z).a6]), (6, [(mc E_ii (v2.getD v5 R_iiiiiiiA.z).a7)]), (7, [(mc E_ii (v3.getD v5 R_iiiiiiiA.z).a7)])] [(5, (ZP ((v2.getD v5 R_iiiiiiiA.z).a7) ((v3.getD v5 R_iiiiiiiA.z).a7)  y6_0  8))])) (live := [0, 1]) (u := vf) (bl := [some (.cells (Zb E_iiiiiiiA L0) 34), some (.cells (Zb E_iiiiiiiA L2) 34)]) (ob := [((!y6_0), true), (dP (ZL #[ms E_ii (v2.getD v5 R_iiiiiiiA.z).a7, ms E_ii (v3.getD v5 R_iiiiiiiA.z).a7] ((v2.getD v5 R_iiiiiiiA.z).a7) ((v3.getD v5 R_iiiiiiiA.z).a7)  y6_0  8), true), (Zs (Zl 1 (List.drop ((0 + (v5 * 8)) + 7) (Zb E_iiiiiiiA v3))) [(mc E_ii (v3.getD v5 R_iiiiiiiA.z).a7)], true), (Nat.blt v5 v3.length, true), ((v5 : Int) == Int.ofNat v5, true), (Zs (Zl 1 (List.drop ((0 + (v5 * 8)) + 7) (Zb E_iiiiiiiA v2))) [(mc E_ii (v2.getD v5 R_iiiiiiiA.z).a7)], true), (Nat.blt v5 v2.length, true), ((v5 : Int) == Int.ofNat v5, true), ((!(((v2.getD v5 R_iiiiiiiA.z).a2 == (v3.getD v5 R_iiiiiiiA.z).a2) && (((v2.getD v5 R_iiiiiiiA.z).a3 == (v3.getD v5 R_iiiiiiiA.z).a3) && (((v2.getD v5 R_iiiiiiiA.z).a4 == (v3.getD v5 R_iiiiiiiA.z).a4) && (((2 : Int) == (v3.getD v5 R_iiiiiiiA.z).a5) && (((0 : Int) == (0 : Int)) && true)))))), false), (((v3.getD v5 R_iiiiiiiA.z).a5 == (1 : Int)), false), (Zs (Zl 5 (List.drop ((0 + (v5 * 8)) + 2) (Zb E_iiiiiiiA v3))) [.i (v3.getD v5 R_iiiiiiiA.z).a2, .i (v3.getD v5 R_iiiiiiiA.z).a3, .i (v3.getD v5 R_iiiiiiiA.z).a4, .i (v3.getD v5 R_iiiiiiiA.z).a5, .i (v3.getD v5 R_iiiiiiiA.z).a6], true), (Nat.blt v5 v3.length, true), ((v5 : Int) == Int.ofNat v5, true), (((v2.getD v5 R_iiiiiiiA.z).a5 == (1 : Int)), true), (Zs (Zl 5 (List.drop ((0 + (v5 * 8)) + 2) (Zb E_iiiiiiiA v2))) [.i (v2.getD v5 R_iiiiiiiA.z).a2, .i (v2.getD v5 R_iiiiiiiA.z).a3, .i (v2.getD v5 R_iiiiiiiA.z).a4, .i (v2.getD v5 R_iiiiiiiA.z).a5, .i (v2.getD v5 R_iiiiiiiA.z).a6], true), (Nat.blt v5 v2.length, true), ((v5 : Int) == Int.ofNat v5, true), ((decide ((v5 : Int) < (v4 : Int))), true)]) (fun gv => by kernel_rfl) (Za (ZcK (by first | assumption | simp_all)) <| Za (Zd (ZQ #[ms E_ii (v2.getD v5 R_iiiiiiiA.z).a7, ms E_ii (v3.getD v5 R_iiiiiiiA.z).a7] ((v2.getD v5 R_iiiiiiiA.z).a7) ((v3.getD v5 R_iiiiiiiA.z).a7)  y6_0 N c6  8 rfl (by decide) (by decide))) <| Za (Zh (E := E_iiiiiiiA) (L := v3) (i := v5) (q := 7) (by omega) (show ((0 + (v5 * 8)) + 7) = v5 * 8 + 7 from by omega) (show 7 + 1 ≤ 8 from by decide) rfl rfl) <| oB <| oI <| Za (Zh (E := E_iiiiiiiA) (L := v2) (i := v5) (q := 7) (by omega) (show ((0 + (v5 * 8)) + 7) = v5 * 8 + 7 from by omega) (show 7 + 1 ≤ 8 from by decide) rfl rfl) <| oB <| oI <| Za (by rw [Bool.not_eq_false']; first | (simp only [beq_self_eq_true, Bool.and_self]; done) | (simp only [Bool.and_true, Bool.and_eq_true, beq_iff_eq] <;> first | omega | (simp_all; done) | grind)) <| oF <| Za (Zh (E := E_iiiiiiiA) (L := v3) (i := v5) (q := 2) (by omega) (show ((0 + (v5 * 8)) + 2) = v5 * 8 + 2 from by omega) (show 2 + 5 ≤ 8 from by decide) rfl rfl) <| oB <| oI <| oT <| Za (Zh (E := E_iiiiiiiA) (L := v2) (i := v5) (q := 2) (by omega) (show ((0 + (v5 * 8)) + 2) = v5 * 8 + 2 from by omega) (show 2 + 5 ≤ 8 from by decide) rfl rfl) <| oB <| oI <| oY Zg) rfl (by decide) (by rfl) rr ⟨(Ze (E := E_iiiiiiiA) (α := R_iiiiiiiA) _ L0 _), ⟨(Ze (E := E_iiiiiiiA) (α := R_iiiiiiiA) _ L2 _), trivial⟩⟩
        ·
         refine Mach.ok_ite (fun g8 => ?_) (fun g8 => ?_)
         ·
          exact Mach.ok_next (M := Zy L0 L1 L2 L3 N) (cd := 1000000) (cm := 0) (y := (.h1m3 (v2) (v3) (v4) ((v5 + 1)) : graph_Alike_3X)) (fu := 4000) (orc := (Zp [(0, true), (1, true), (2, false), (3, false), (4, false)] [(0, (((v5 + 1) : Nat) : Int))] [(0, v5), (1, v5), (2, v5), (3, v5)] [(0, [.i (v2.getD v5 R_iiiiiiiA.z).a2, .i (v2.getD v5 R_iiiiiiiA.z).a3, .i (v2.getD v5 R_iiiiiiiA.z).a4, .i (v2.getD v5 R_iiiiiiiA.z).a5, .i (v2.getD v5 R_iiiiiiiA.z).a6]), (3, [.i (v3.getD v5 R_iiiiiiiA.z).a2, .i (v3.getD v5 R_iiiiiiiA.z).a3, .i (v3.getD v5 R_iiiiiiiA.z).a4, .i (v3.getD v5 R_iiiiiiiA.z).a5, .i (v3.getD v5 R_iiiiiiiA.z).a6]), (6, [(mc E_ii (v2.getD v5 R_iiiiiiiA.z).a7)]), (7, [(mc E_ii (v3.getD v5 R_iiiiiiiA.z).a7)])] [(5, (ZP ((v2.getD v5 R_iiiiiiiA.z).a7) ((v3.getD v5 R_iiiiiiiA.z).a7)  y6_0  8))])) (live := [0, 1, 2, 3]) (tv := fun _ => [some (vs 2 0 v2.length v2.length), some (vs 3 0 v3.length v3.length), some (vi (v4 : Int)), some (vi (((v5 + 1) : Nat) : Int))]) (bl := [some (.cells (Zb E_iiiiiiiA L0) 34), some (.cells (Zb E_iiiiiiiA L2) 34), some (.cells (Zb E_iiiiiiiA v2) 34), some (.cells (Zb E_iiiiiiiA v3) 34)]) (ob := [((IntKind.i64.wrap ((v5 : Int) + (1 : Int))) == (((v5 + 1) : Nat) : Int), true), ((!y6_0), false), (dP (ZL #[ms E_ii (v2.getD v5 R_iiiiiiiA.z).a7, ms E_ii (v3.getD v5 R_iiiiiiiA.z).a7] ((v2.getD v5 R_iiiiiiiA.z).a7) ((v3.getD v5 R_iiiiiiiA.z).a7)  y6_0  8), true), (Zs (Zl 1 (List.drop ((0 + (v5 * 8)) + 7) (Zb E_iiiiiiiA v3))) [(mc E_ii (v3.getD v5 R_iiiiiiiA.z).a7)], true), (Nat.blt v5 v3.length, true), ((v5 : Int) == Int.ofNat v5, true), (Zs (Zl 1 (List.drop ((0 + (v5 * 8)) + 7) (Zb E_iiiiiiiA v2))) [(mc E_ii (v2.getD v5 R_iiiiiiiA.z).a7)], true), (Nat.blt v5 v2.length, true), ((v5 : Int) == Int.ofNat v5, true), ((!(((v2.getD v5 R_iiiiiiiA.z).a2 == (v3.getD v5 R_iiiiiiiA.z).a2) && (((v2.getD v5 R_iiiiiiiA.z).a3 == (v3.getD v5 R_iiiiiiiA.z).a3) && (((v2.getD v5 R_iiiiiiiA.z).a4 == (v3.getD v5 R_iiiiiiiA.z).a4) && (((2 : Int) == (v3.getD v5 R_iiiiiiiA.z).a5) && (((0 : Int) == (0 : Int)) && true)))))), false), (((v3.getD v5 R_iiiiiiiA.z).a5 == (1 : Int)), false), (Zs (Zl 5 (List.drop ((0 + (v5 * 8)) + 2) (Zb E_iiiiiiiA v3))) [.i (v3.getD v5 R_iiiiiiiA.z).a2, .i (v3.getD v5 R_iiiiiiiA.z).a3, .i (v3.getD v5 R_iiiiiiiA.z).a4, .i (v3.getD v5 R_iiiiiiiA.z).a5, .i (v3.getD v5 R_iiiiiiiA.z).a6], true), (Nat.blt v5 v3.length, true), ((v5 : Int) == Int.ofNat v5, true), (((v2.getD v5 R_iiiiiiiA.z).a5 == (1 : Int)), true), (Zs (Zl 5 (List.drop ((0 + (v5 * 8)) + 2) (Zb E_iiiiiiiA v2))) [.i (v2.getD v5 R_iiiiiiiA.z).a2, .i (v2.getD v5 R_iiiiiiiA.z).a3, .i (v2.getD v5 R_iiiiiiiA.z).a4, .i (v2.getD v5 R_iiiiiiiA.z).a5, .i (v2.getD v5 R_iiiiiiiA.z).a6], true), (Nat.blt v5 v2.length, true), ((v5 : Int) == Int.ofNat v5, true), ((decide ((v5 : Int) < (v4 : Int))), true)]) rfl (show 1 ∈ Zw (Zfi 1) from by decide +kernel) (fun gv => by kernel_rfl) (Za (beq_iff_eq.2 ((wrap_i64 ltA).trans (by first | rfl | omega))) <| Za (Zcf (by first | assumption | exact Decidable.not_not.1 (by assumption) | simp_all)) <| Za (Zd (ZQ #[ms E_ii (v2.getD v5 R_iiiiiiiA.z).a7, ms E_ii (v3.getD v5 R_iiiiiiiA.z).a7] ((v2.getD v5 R_iiiiiiiA.z).a7) ((v3.getD v5 R_iiiiiiiA.z).a7)  y6_0 N c6  8 rfl (by decide) (by decide))) <| Za (Zh (E := E_iiiiiiiA) (L := v3) (i := v5) (q := 7) (by omega) (show ((0 + (v5 * 8)) + 7) = v5 * 8 + 7 from by omega) (show 7 + 1 ≤ 8 from by decide) rfl rfl) <| oB <| oI <| Za (Zh (E := E_iiiiiiiA) (L := v2) (i := v5) (q := 7) (by omega) (show ((0 + (v5 * 8)) + 7) = v5 * 8 + 7 from by omega) (show 7 + 1 ≤ 8 from by decide) rfl rfl) <| oB <| oI <| Za (by rw [Bool.not_eq_false']; first | (simp only [beq_self_eq_true, Bool.and_self]; done) | (simp only [Bool.and_true, Bool.and_eq_true, beq_iff_eq] <;> first | omega | (simp_all; done) | grind)) <| oF <| Za (Zh (E := E_iiiiiiiA) (L := v3) (i := v5) (q := 2) (by omega) (show ((0 + (v5 * 8)) + 2) = v5 * 8 + 2 from by omega) (show 2 + 5 ≤ 8 from by decide) rfl rfl) <| oB <| oI <| oT <| Za (Zh (E := E_iiiiiiiA) (L := v2) (i := v5) (q := 2) (by omega) (show ((0 + (v5 * 8)) + 2) = v5 * 8 + 2 from by omega) (show 2 + 5 ≤ 8 from by decide) rfl rfl) <| oB <| oI <| oY Zg) rfl (by decide) (by rfl) (fun _ => ⟨rr, ⟨rr, ⟨rr, ⟨rr, trivial⟩⟩⟩⟩) ⟨(Ze (E := E_iiiiiiiA) (α := R_iiiiiiiA) _ L0 _), ⟨(Ze (E := E_iiiiiiiA) (α := R_iiiiiiiA) _ L2 _), ⟨(Ze (E := E_iiiiiiiA) (α := R_iiiiiiiA) _ v2 _), ⟨(Ze (E := E_iiiiiiiA) (α := R_iiiiiiiA) _ v3 _), trivial⟩⟩⟩⟩
         ·
          exact Mach.ok_none
    ·
     exact Mach.ok_none
   ·
    refine Mach.ok_ite (fun g3 => ?_) (fun g3 => ?_)
    ·
     refine Mach.ok_ite (fun g4 => ?_) (fun g4 => ?_)
     ·
      refine Mach.ok_ite (fun g5 => ?_) (fun g5 => ?_)
      ·
       exact Mach.ok_fin (M := Zy L0 L1 L2 L3 N) (cd := 1000000) (cm := 0) (r := (.r0 (false) : Zo)) (fu := 4000) (orc := (Zp [(0, true), (1, false), (2, true), (3, true)] [] [(0, v5), (1, v5)] [(0, [.i (v2.getD v5 R_iiiiiiiA.z).a2, .i (v2.getD v5 R_iiiiiiiA.z).a3, .i (v2.getD v5 R_iiiiiiiA.z).a4, .i (v2.getD v5 R_iiiiiiiA.z).a5, .i (v2.getD v5 R_iiiiiiiA.z).a6]), (3, [.i (v3.getD v5 R_iiiiiiiA.z).a2, .i (v3.getD v5 R_iiiiiiiA.z).a3, .i (v3.getD v5 R_iiiiiiiA.z).a4, .i (v3.getD v5 R_iiiiiiiA.z).a5, .i (v3.getD v5 R_iiiiiiiA.z).a6])] [])) (live := [0, 1]) (u := vf) (bl := [some (.cells (Zb E_iiiiiiiA L0) 34), some (.cells (Zb E_iiiiiiiA L2) 34)]) (ob := [((!(((v2.getD v5 R_iiiiiiiA.z).a2 == (v3.getD v5 R_iiiiiiiA.z).a2) && (((v2.getD v5 R_iiiiiiiA.z).a3 == (v3.getD v5 R_iiiiiiiA.z).a3) && (((v2.getD v5 R_iiiiiiiA.z).a4 == (v3.getD v5 R_iiiiiiiA.z).a4) && (((v2.getD v5 R_iiiiiiiA.z).a5 == (2 : Int)) && (((0 : Int) == (0 : Int)) && true)))))), true), (((v3.getD v5 R_iiiiiiiA.z).a5 == (1 : Int)), true), (Zs (Zl 5 (List.drop ((0 + (v5 * 8)) + 2) (Zb E_iiiiiiiA v3))) [.i (v3.getD v5 R_iiiiiiiA.z).a2, .i (v3.getD v5 R_iiiiiiiA.z).a3, .i (v3.getD v5 R_iiiiiiiA.z).a4, .i (v3.getD v5 R_iiiiiiiA.z).a5, .i (v3.getD v5 R_iiiiiiiA.z).a6], true), (Nat.blt v5 v3.length, true), ((v5 : Int) == Int.ofNat v5, true), (((v2.getD v5 R_iiiiiiiA.z).a5 == (1 : Int)), false), (Zs (Zl 5 (List.drop ((0 + (v5 * 8)) + 2) (Zb E_iiiiiiiA v2))) [.i (v2.getD v5 R_iiiiiiiA.z).a2, .i (v2.getD v5 R_iiiiiiiA.z).a3, .i (v2.getD v5 R_iiiiiiiA.z).a4, .i (v2.getD v5 R_iiiiiiiA.z).a5, .i (v2.getD v5 R_iiiiiiiA.z).a6], true), (Nat.blt v5 v2.length, true), ((v5 : Int) == Int.ofNat v5, true), ((decide ((v5 : Int) < (v4 : Int))), true)]) (fun gv => by kernel_rfl) (Za (by rw [Bool.not_eq_true']; exact Bool.eq_false_iff.2 (by simp only [ne_eq, Bool.and_true, Bool.and_eq_true, beq_iff_eq]; first | omega | (intro hh; simp_all; done) | (intro hh; grind))) <| oT <| Za (Zh (E := E_iiiiiiiA) (L := v3) (i := v5) (q := 2) (by omega) (show ((0 + (v5 * 8)) + 2) = v5 * 8 + 2 from by omega) (show 2 + 5 ≤ 8 from by decide) rfl rfl) <| oB <| oI <| oF <| Za (Zh (E := E_iiiiiiiA) (L := v2) (i := v5) (q := 2) (by omega) (show ((0 + (v5 * 8)) + 2) = v5 * 8 + 2 from by omega) (show 2 + 5 ≤ 8 from by decide) rfl rfl) <| oB <| oI <| oY Zg) rfl (by decide) (by rfl) rr ⟨(Ze (E := E_iiiiiiiA) (α := R_iiiiiiiA) _ L0 _), ⟨(Ze (E := E_iiiiiiiA) (α := R_iiiiiiiA) _ L2 _), trivial⟩⟩
      ·
       refine Mach.ok_bind (fun z6 c6 => ?_)
       cases z6 with
       | r0 y6_0 =>
        refine Mach.ok_ite (fun g7 => ?_) (fun g7 => ?_)
        ·
         exact Mach.ok_fin (M := Zy L0 L1 L2 L3 N) (cd := 1000000) (cm := 0) (r := (.r0 (false) : Zo)) (fu := 4000) (orc := (Zp [(0, true), (1, false), (2, true), (3, false), (4, true)] [] [(0, v5), (1, v5), (2, v5), (3, v5)] [(0, [.i (v2.getD v5 R_iiiiiiiA.z).a2, .i (v2.getD v5 R_iiiiiiiA.z).a3, .i (v2.getD v5 R_iiiiiiiA.z).a4, .i (v2.getD v5 R_iiiiiiiA.z).a5, .i (v2.getD v5 R_iiiiiiiA.z).a6]), (3, [.i (v3.getD v5 R_iiiiiiiA.z).a2, .i (v3.getD v5 R_iiiiiiiA.z).a3, .i (v3.getD v5 R_iiiiiiiA.z).a4, .i (v3.getD v5 R_iiiiiiiA.z).a5, .i (v3.getD v5 R_iiiiiiiA.z).a6]), (6, [(mc E_ii (v2.getD v5 R_iiiiiiiA.z).a7)]), (7, [(mc E_ii (v3.getD v5 R_iiiiiiiA.z).a7)])] [(5, (ZP ((v2.getD v5 R_iiiiiiiA.z).a7) ((v3.getD v5 R_iiiiiiiA.z).a7)  y6_0  8))])) (live := [0, 1]) (u := vf) (bl := [some (.cells (Zb E_iiiiiiiA L0) 34), some (.cells (Zb E_iiiiiiiA L2) 34)]) (ob := [((!y6_0), true), (dP (ZL #[ms E_ii (v2.getD v5 R_iiiiiiiA.z).a7, ms E_ii (v3.getD v5 R_iiiiiiiA.z).a7] ((v2.getD v5 R_iiiiiiiA.z).a7) ((v3.getD v5 R_iiiiiiiA.z).a7)  y6_0  8), true), (Zs (Zl 1 (List.drop ((0 + (v5 * 8)) + 7) (Zb E_iiiiiiiA v3))) [(mc E_ii (v3.getD v5 R_iiiiiiiA.z).a7)], true), (Nat.blt v5 v3.length, true), ((v5 : Int) == Int.ofNat v5, true), (Zs (Zl 1 (List.drop ((0 + (v5 * 8)) + 7) (Zb E_iiiiiiiA v2))) [(mc E_ii (v2.getD v5 R_iiiiiiiA.z).a7)], true), (Nat.blt v5 v2.length, true), ((v5 : Int) == Int.ofNat v5, true), ((!(((v2.getD v5 R_iiiiiiiA.z).a2 == (v3.getD v5 R_iiiiiiiA.z).a2) && (((v2.getD v5 R_iiiiiiiA.z).a3 == (v3.getD v5 R_iiiiiiiA.z).a3) && (((v2.getD v5 R_iiiiiiiA.z).a4 == (v3.getD v5 R_iiiiiiiA.z).a4) && (((v2.getD v5 R_iiiiiiiA.z).a5 == (2 : Int)) && (((0 : Int) == (0 : Int)) && true)))))), false), (((v3.getD v5 R_iiiiiiiA.z).a5 == (1 : Int)), true), (Zs (Zl 5 (List.drop ((0 + (v5 * 8)) + 2) (Zb E_iiiiiiiA v3))) [.i (v3.getD v5 R_iiiiiiiA.z).a2, .i (v3.getD v5 R_iiiiiiiA.z).a3, .i (v3.getD v5 R_iiiiiiiA.z).a4, .i (v3.getD v5 R_iiiiiiiA.z).a5, .i (v3.getD v5 R_iiiiiiiA.z).a6], true), (Nat.blt v5 v3.length, true), ((v5 : Int) == Int.ofNat v5, true), (((v2.getD v5 R_iiiiiiiA.z).a5 == (1 : Int)), false), (Zs (Zl 5 (List.drop ((0 + (v5 * 8)) + 2) (Zb E_iiiiiiiA v2))) [.i (v2.getD v5 R_iiiiiiiA.z).a2, .i (v2.getD v5 R_iiiiiiiA.z).a3, .i (v2.getD v5 R_iiiiiiiA.z).a4, .i (v2.getD v5 R_iiiiiiiA.z).a5, .i (v2.getD v5 R_iiiiiiiA.z).a6], true), (Nat.blt v5 v2.length, true), ((v5 : Int) == Int.ofNat v5, true), ((decide ((v5 : Int) < (v4 : Int))), true)]) (fun gv => by kernel_rfl) (Za (ZcK (by first | assumption | simp_all)) <| Za (Zd (ZQ #[ms E_ii (v2.getD v5 R_iiiiiiiA.z).a7, ms E_ii (v3.getD v5 R_iiiiiiiA.z).a7] ((v2.getD v5 R_iiiiiiiA.z).a7) ((v3.getD v5 R_iiiiiiiA.z).a7)  y6_0 N c6  8 rfl (by decide) (by decide))) <| Za (Zh (E := E_iiiiiiiA) (L := v3) (i := v5) (q := 7) (by omega) (show ((0 + (v5 * 8)) + 7) = v5 * 8 + 7 from by omega) (show 7 + 1 ≤ 8 from by decide) rfl rfl) <| oB <| oI <| Za (Zh (E := E_iiiiiiiA) (L := v2) (i := v5) (q := 7) (by omega) (show ((0 + (v5 * 8)) + 7) = v5 * 8 + 7 from by omega) (show 7 + 1 ≤ 8 from by decide) rfl rfl) <| oB <| oI <| Za (by rw [Bool.not_eq_false']; first | (simp only [beq_self_eq_true, Bool.and_self]; done) | (simp only [Bool.and_true, Bool.and_eq_true, beq_iff_eq] <;> first | omega | (simp_all; done) | grind)) <| oT <| Za (Zh (E := E_iiiiiiiA) (L := v3) (i := v5) (q := 2) (by omega) (show ((0 + (v5 * 8)) + 2) = v5 * 8 + 2 from by omega) (show 2 + 5 ≤ 8 from by decide) rfl rfl) <| oB <| oI <| oF <| Za (Zh (E := E_iiiiiiiA) (L := v2) (i := v5) (q := 2) (by omega) (show ((0 + (v5 * 8)) + 2) = v5 * 8 + 2 from by omega) (show 2 + 5 ≤ 8 from by decide) rfl rfl) <| oB <| oI <| oY Zg) rfl (by decide) (by rfl) rr ⟨(Ze (E := E_iiiiiiiA) (α := R_iiiiiiiA) _ L0 _), ⟨(Ze (E := E_iiiiiiiA) (α := R_iiiiiiiA) _ L2 _), trivial⟩⟩
        ·
         refine Mach.ok_ite (fun g8 => ?_) (fun g8 => ?_)
         ·
          exact Mach.ok_next (M := Zy L0 L1 L2 L3 N) (cd := 1000000) (cm := 0) (y := (.h1m3 (v2) (v3) (v4) ((v5 + 1)) : graph_Alike_3X)) (fu := 4000) (orc := (Zp [(0, true), (1, false), (2, true), (3, false), (4, false)] [(0, (((v5 + 1) : Nat) : Int))] [(0, v5), (1, v5), (2, v5), (3, v5)] [(0, [.i (v2.getD v5 R_iiiiiiiA.z).a2, .i (v2.getD v5 R_iiiiiiiA.z).a3, .i (v2.getD v5 R_iiiiiiiA.z).a4, .i (v2.getD v5 R_iiiiiiiA.z).a5, .i (v2.getD v5 R_iiiiiiiA.z).a6]), (3, [.i (v3.getD v5 R_iiiiiiiA.z).a2, .i (v3.getD v5 R_iiiiiiiA.z).a3, .i (v3.getD v5 R_iiiiiiiA.z).a4, .i (v3.getD v5 R_iiiiiiiA.z).a5, .i (v3.getD v5 R_iiiiiiiA.z).a6]), (6, [(mc E_ii (v2.getD v5 R_iiiiiiiA.z).a7)]), (7, [(mc E_ii (v3.getD v5 R_iiiiiiiA.z).a7)])] [(5, (ZP ((v2.getD v5 R_iiiiiiiA.z).a7) ((v3.getD v5 R_iiiiiiiA.z).a7)  y6_0  8))])) (live := [0, 1, 2, 3]) (tv := fun _ => [some (vs 2 0 v2.length v2.length), some (vs 3 0 v3.length v3.length), some (vi (v4 : Int)), some (vi (((v5 + 1) : Nat) : Int))]) (bl := [some (.cells (Zb E_iiiiiiiA L0) 34), some (.cells (Zb E_iiiiiiiA L2) 34), some (.cells (Zb E_iiiiiiiA v2) 34), some (.cells (Zb E_iiiiiiiA v3) 34)]) (ob := [((IntKind.i64.wrap ((v5 : Int) + (1 : Int))) == (((v5 + 1) : Nat) : Int), true), ((!y6_0), false), (dP (ZL #[ms E_ii (v2.getD v5 R_iiiiiiiA.z).a7, ms E_ii (v3.getD v5 R_iiiiiiiA.z).a7] ((v2.getD v5 R_iiiiiiiA.z).a7) ((v3.getD v5 R_iiiiiiiA.z).a7)  y6_0  8), true), (Zs (Zl 1 (List.drop ((0 + (v5 * 8)) + 7) (Zb E_iiiiiiiA v3))) [(mc E_ii (v3.getD v5 R_iiiiiiiA.z).a7)], true), (Nat.blt v5 v3.length, true), ((v5 : Int) == Int.ofNat v5, true), (Zs (Zl 1 (List.drop ((0 + (v5 * 8)) + 7) (Zb E_iiiiiiiA v2))) [(mc E_ii (v2.getD v5 R_iiiiiiiA.z).a7)], true), (Nat.blt v5 v2.length, true), ((v5 : Int) == Int.ofNat v5, true), ((!(((v2.getD v5 R_iiiiiiiA.z).a2 == (v3.getD v5 R_iiiiiiiA.z).a2) && (((v2.getD v5 R_iiiiiiiA.z).a3 == (v3.getD v5 R_iiiiiiiA.z).a3) && (((v2.getD v5 R_iiiiiiiA.z).a4 == (v3.getD v5 R_iiiiiiiA.z).a4) && (((v2.getD v5 R_iiiiiiiA.z).a5 == (2 : Int)) && (((0 : Int) == (0 : Int)) && true)))))), false), (((v3.getD v5 R_iiiiiiiA.z).a5 == (1 : Int)), true), (Zs (Zl 5 (List.drop ((0 + (v5 * 8)) + 2) (Zb E_iiiiiiiA v3))) [.i (v3.getD v5 R_iiiiiiiA.z).a2, .i (v3.getD v5 R_iiiiiiiA.z).a3, .i (v3.getD v5 R_iiiiiiiA.z).a4, .i (v3.getD v5 R_iiiiiiiA.z).a5, .i (v3.getD v5 R_iiiiiiiA.z).a6], true), (Nat.blt v5 v3.length, true), ((v5 : Int) == Int.ofNat v5, true), (((v2.getD v5 R_iiiiiiiA.z).a5 == (1 : Int)), false), (Zs (Zl 5 (List.drop ((0 + (v5 * 8)) + 2) (Zb E_iiiiiiiA v2))) [.i (v2.getD v5 R_iiiiiiiA.z).a2, .i (v2.getD v5 R_iiiiiiiA.z).a3, .i (v2.getD v5 R_iiiiiiiA.z).a4, .i (v2.getD v5 R_iiiiiiiA.z).a5, .i (v2.getD v5 R_iiiiiiiA.z).a6], true), (Nat.blt v5 v2.length, true), ((v5 : Int) == Int.ofNat v5, true), ((decide ((v5 : Int) < (v4 : Int))), true)]) rfl (show 1 ∈ Zw (Zfi 1) from by decide +kernel) (fun gv => by kernel_rfl) (Za (beq_iff_eq.2 ((wrap_i64 ltA).trans (by first | rfl | omega))) <| Za (Zcf (by first | assumption | exact Decidable.not_not.1 (by assumption) | simp_all)) <| Za (Zd (ZQ #[ms E_ii (v2.getD v5 R_iiiiiiiA.z).a7, ms E_ii (v3.getD v5 R_iiiiiiiA.z).a7] ((v2.getD v5 R_iiiiiiiA.z).a7) ((v3.getD v5 R_iiiiiiiA.z).a7)  y6_0 N c6  8 rfl (by decide) (by decide))) <| Za (Zh (E := E_iiiiiiiA) (L := v3) (i := v5) (q := 7) (by omega) (show ((0 + (v5 * 8)) + 7) = v5 * 8 + 7 from by omega) (show 7 + 1 ≤ 8 from by decide) rfl rfl) <| oB <| oI <| Za (Zh (E := E_iiiiiiiA) (L := v2) (i := v5) (q := 7) (by omega) (show ((0 + (v5 * 8)) + 7) = v5 * 8 + 7 from by omega) (show 7 + 1 ≤ 8 from by decide) rfl rfl) <| oB <| oI <| Za (by rw [Bool.not_eq_false']; first | (simp only [beq_self_eq_true, Bool.and_self]; done) | (simp only [Bool.and_true, Bool.and_eq_true, beq_iff_eq] <;> first | omega | (simp_all; done) | grind)) <| oT <| Za (Zh (E := E_iiiiiiiA) (L := v3) (i := v5) (q := 2) (by omega) (show ((0 + (v5 * 8)) + 2) = v5 * 8 + 2 from by omega) (show 2 + 5 ≤ 8 from by decide) rfl rfl) <| oB <| oI <| oF <| Za (Zh (E := E_iiiiiiiA) (L := v2) (i := v5) (q := 2) (by omega) (show ((0 + (v5 * 8)) + 2) = v5 * 8 + 2 from by omega) (show 2 + 5 ≤ 8 from by decide) rfl rfl) <| oB <| oI <| oY Zg) rfl (by decide) (by rfl) (fun _ => ⟨rr, ⟨rr, ⟨rr, ⟨rr, trivial⟩⟩⟩⟩) ⟨(Ze (E := E_iiiiiiiA) (α := R_iiiiiiiA) _ L0 _), ⟨(Ze (E := E_iiiiiiiA) (α := R_iiiiiiiA) _ L2 _), ⟨(Ze (E := E_iiiiiiiA) (α := R_iiiiiiiA) _ v2 _), ⟨(Ze (E := E_iiiiiiiA) (α := R_iiiiiiiA) _ v3 _), trivial⟩⟩⟩⟩
         ·
          exact Mach.ok_none
     ·
      refine Mach.ok_ite (fun g5 => ?_) (fun g5 => ?_)
      ·
       exact Mach.ok_fin (M := Zy L0 L1 L2 L3 N) (cd := 1000000) (cm := 0) (r := (.r0 (false) : Zo)) (fu := 4000) (orc := (Zp [(0, true), (1, false), (2, false), (3, true)] [] [(0, v5), (1, v5)] [(0, [.i (v2.getD v5 R_iiiiiiiA.z).a2, .i (v2.getD v5 R_iiiiiiiA.z).a3, .i (v2.getD v5 R_iiiiiiiA.z).a4, .i (v2.getD v5 R_iiiiiiiA.z).a5, .i (v2.getD v5 R_iiiiiiiA.z).a6]), (3, [.i (v3.getD v5 R_iiiiiiiA.z).a2, .i (v3.getD v5 R_iiiiiiiA.z).a3, .i (v3.getD v5 R_iiiiiiiA.z).a4, .i (v3.getD v5 R_iiiiiiiA.z).a5, .i (v3.getD v5 R_iiiiiiiA.z).a6])] [])) (live := [0, 1]) (u := vf) (bl := [some (.cells (Zb E_iiiiiiiA L0) 34), some (.cells (Zb E_iiiiiiiA L2) 34)]) (ob := [((!(((v2.getD v5 R_iiiiiiiA.z).a2 == (v3.getD v5 R_iiiiiiiA.z).a2) && (((v2.getD v5 R_iiiiiiiA.z).a3 == (v3.getD v5 R_iiiiiiiA.z).a3) && (((v2.getD v5 R_iiiiiiiA.z).a4 == (v3.getD v5 R_iiiiiiiA.z).a4) && (((v2.getD v5 R_iiiiiiiA.z).a5 == (v3.getD v5 R_iiiiiiiA.z).a5) && (((0 : Int) == (0 : Int)) && true)))))), true), (((v3.getD v5 R_iiiiiiiA.z).a5 == (1 : Int)), false), (Zs (Zl 5 (List.drop ((0 + (v5 * 8)) + 2) (Zb E_iiiiiiiA v3))) [.i (v3.getD v5 R_iiiiiiiA.z).a2, .i (v3.getD v5 R_iiiiiiiA.z).a3, .i (v3.getD v5 R_iiiiiiiA.z).a4, .i (v3.getD v5 R_iiiiiiiA.z).a5, .i (v3.getD v5 R_iiiiiiiA.z).a6], true), (Nat.blt v5 v3.length, true), ((v5 : Int) == Int.ofNat v5, true), (((v2.getD v5 R_iiiiiiiA.z).a5 == (1 : Int)), false), (Zs (Zl 5 (List.drop ((0 + (v5 * 8)) + 2) (Zb E_iiiiiiiA v2))) [.i (v2.getD v5 R_iiiiiiiA.z).a2, .i (v2.getD v5 R_iiiiiiiA.z).a3, .i (v2.getD v5 R_iiiiiiiA.z).a4, .i (v2.getD v5 R_iiiiiiiA.z).a5, .i (v2.getD v5 R_iiiiiiiA.z).a6], true), (Nat.blt v5 v2.length, true), ((v5 : Int) == Int.ofNat v5, true), ((decide ((v5 : Int) < (v4 : Int))), true)]) (fun gv => by kernel_rfl) (Za (by rw [Bool.not_eq_true']; exact Bool.eq_false_iff.2 (by simp only [ne_eq, Bool.and_true, Bool.and_eq_true, beq_iff_eq]; first | omega | (intro hh; simp_all; done) | (intro hh; grind))) <| oF <| Za (Zh (E := E_iiiiiiiA) (L := v3) (i := v5) (q := 2) (by omega) (show ((0 + (v5 * 8)) + 2) = v5 * 8 + 2 from by omega) (show 2 + 5 ≤ 8 from by decide) rfl rfl) <| oB <| oI <| oF <| Za (Zh (E := E_iiiiiiiA) (L := v2) (i := v5) (q := 2) (by omega) (show ((0 + (v5 * 8)) + 2) = v5 * 8 + 2 from by omega) (show 2 + 5 ≤ 8 from by decide) rfl rfl) <| oB <| oI <| oY Zg) rfl (by decide) (by rfl) rr ⟨(Ze (E := E_iiiiiiiA) (α := R_iiiiiiiA) _ L0 _), ⟨(Ze (E := E_iiiiiiiA) (α := R_iiiiiiiA) _ L2 _), trivial⟩⟩
      ·
       refine Mach.ok_bind (fun z6 c6 => ?_)
       cases z6 with
       | r0 y6_0 =>
        refine Mach.ok_ite (fun g7 => ?_) (fun g7 => ?_)
        ·
         exact Mach.ok_fin (M := Zy L0 L1 L2 L3 N) (cd := 1000000) (cm := 0) (r := (.r0 (false) : Zo)) (fu := 4000) (orc := (Zp [(0, true), (1, false), (2, false), (3, false), (4, true)] [] [(0, v5), (1, v5), (2, v5), (3, v5)] [(0, [.i (v2.getD v5 R_iiiiiiiA.z).a2, .i (v2.getD v5 R_iiiiiiiA.z).a3, .i (v2.getD v5 R_iiiiiiiA.z).a4, .i (v2.getD v5 R_iiiiiiiA.z).a5, .i (v2.getD v5 R_iiiiiiiA.z).a6]), (3, [.i (v3.getD v5 R_iiiiiiiA.z).a2, .i (v3.getD v5 R_iiiiiiiA.z).a3, .i (v3.getD v5 R_iiiiiiiA.z).a4, .i (v3.getD v5 R_iiiiiiiA.z).a5, .i (v3.getD v5 R_iiiiiiiA.z).a6]), (6, [(mc E_ii (v2.getD v5 R_iiiiiiiA.z).a7)]), (7, [(mc E_ii (v3.getD v5 R_iiiiiiiA.z).a7)])] [(4, (ZP ((v2.getD v5 R_iiiiiiiA.z).a7) ((v3.getD v5 R_iiiiiiiA.z).a7)  y6_0  8))])) (live := [0, 1]) (u := vf) (bl := [some (.cells (Zb E_iiiiiiiA L0) 34), some (.cells (Zb E_iiiiiiiA L2) 34)]) (ob := [((!y6_0), true), (dP (ZL #[ms E_ii (v2.getD v5 R_iiiiiiiA.z).a7, ms E_ii (v3.getD v5 R_iiiiiiiA.z).a7] ((v2.getD v5 R_iiiiiiiA.z).a7) ((v3.getD v5 R_iiiiiiiA.z).a7)  y6_0  8), true), (Zs (Zl 1 (List.drop ((0 + (v5 * 8)) + 7) (Zb E_iiiiiiiA v3))) [(mc E_ii (v3.getD v5 R_iiiiiiiA.z).a7)], true), (Nat.blt v5 v3.length, true), ((v5 : Int) == Int.ofNat v5, true), (Zs (Zl 1 (List.drop ((0 + (v5 * 8)) + 7) (Zb E_iiiiiiiA v2))) [(mc E_ii (v2.getD v5 R_iiiiiiiA.z).a7)], true), (Nat.blt v5 v2.length, true), ((v5 : Int) == Int.ofNat v5, true), ((!(((v2.getD v5 R_iiiiiiiA.z).a2 == (v3.getD v5 R_iiiiiiiA.z).a2) && (((v2.getD v5 R_iiiiiiiA.z).a3 == (v3.getD v5 R_iiiiiiiA.z).a3) && (((v2.getD v5 R_iiiiiiiA.z).a4 == (v3.getD v5 R_iiiiiiiA.z).a4) && (((v2.getD v5 R_iiiiiiiA.z).a5 == (v3.getD v5 R_iiiiiiiA.z).a5) && (((0 : Int) == (0 : Int)) && true)))))), false), (((v3.getD v5 R_iiiiiiiA.z).a5 == (1 : Int)), false), (Zs (Zl 5 (List.drop ((0 + (v5 * 8)) + 2) (Zb E_iiiiiiiA v3))) [.i (v3.getD v5 R_iiiiiiiA.z).a2, .i (v3.getD v5 R_iiiiiiiA.z).a3, .i (v3.getD v5 R_iiiiiiiA.z).a4, .i (v3.getD v5 R_iiiiiiiA.z).a5, .i (v3.getD v5 R_iiiiiiiA.z).a6], true), (Nat.blt v5 v3.length, true), ((v5 : Int) == Int.ofNat v5, true), (((v2.getD v5 R_iiiiiiiA.z).a5 == (1 : Int)), false), (Zs (Zl 5 (List.drop ((0 + (v5 * 8)) + 2) (Zb E_iiiiiiiA v2))) [.i (v2.getD v5 R_iiiiiiiA.z).a2, .i (v2.getD v5 R_iiiiiiiA.z).a3, .i (v2.getD v5 R_iiiiiiiA.z).a4, .i (v2.getD v5 R_iiiiiiiA.z).a5, .i (v2.getD v5 R_iiiiiiiA.z).a6], true), (Nat.blt v5 v2.length, true), ((v5 : Int) == Int.ofNat v5, true), ((decide ((v5 : Int) < (v4 : Int))), true)]) (fun gv => by kernel_rfl) (Za (ZcK (by first | assumption | simp_all)) <| Za (Zd (ZQ #[ms E_ii (v2.getD v5 R_iiiiiiiA.z).a7, ms E_ii (v3.getD v5 R_iiiiiiiA.z).a7] ((v2.getD v5 R_iiiiiiiA.z).a7) ((v3.getD v5 R_iiiiiiiA.z).a7)  y6_0 N c6  8 rfl (by decide) (by decide))) <| Za (Zh (E := E_iiiiiiiA) (L := v3) (i := v5) (q := 7) (by omega) (show ((0 + (v5 * 8)) + 7) = v5 * 8 + 7 from by omega) (show 7 + 1 ≤ 8 from by decide) rfl rfl) <| oB <| oI <| Za (Zh (E := E_iiiiiiiA) (L := v2) (i := v5) (q := 7) (by omega) (show ((0 + (v5 * 8)) + 7) = v5 * 8 + 7 from by omega) (show 7 + 1 ≤ 8 from by decide) rfl rfl) <| oB <| oI <| Za (by rw [Bool.not_eq_false']; first | (simp only [beq_self_eq_true, Bool.and_self]; done) | (simp only [Bool.and_true, Bool.and_eq_true, beq_iff_eq] <;> first | omega | (simp_all; done) | grind)) <| oF <| Za (Zh (E := E_iiiiiiiA) (L := v3) (i := v5) (q := 2) (by omega) (show ((0 + (v5 * 8)) + 2) = v5 * 8 + 2 from by omega) (show 2 + 5 ≤ 8 from by decide) rfl rfl) <| oB <| oI <| oF <| Za (Zh (E := E_iiiiiiiA) (L := v2) (i := v5) (q := 2) (by omega) (show ((0 + (v5 * 8)) + 2) = v5 * 8 + 2 from by omega) (show 2 + 5 ≤ 8 from by decide) rfl rfl) <| oB <| oI <| oY Zg) rfl (by decide) (by rfl) rr ⟨(Ze (E := E_iiiiiiiA) (α := R_iiiiiiiA) _ L0 _), ⟨(Ze (E := E_iiiiiiiA) (α := R_iiiiiiiA) _ L2 _), trivial⟩⟩
        ·
         refine Mach.ok_ite (fun g8 => ?_) (fun g8 => ?_)
         ·
          exact Mach.ok_next (M := Zy L0 L1 L2 L3 N) (cd := 1000000) (cm := 0) (y := (.h1m3 (v2) (v3) (v4) ((v5 + 1)) : graph_Alike_3X)) (fu := 4000) (orc := (Zp [(0, true), (1, false), (2, false), (3, false), (4, false)] [(0, (((v5 + 1) : Nat) : Int))] [(0, v5), (1, v5), (2, v5), (3, v5)] [(0, [.i (v2.getD v5 R_iiiiiiiA.z).a2, .i (v2.getD v5 R_iiiiiiiA.z).a3, .i (v2.getD v5 R_iiiiiiiA.z).a4, .i (v2.getD v5 R_iiiiiiiA.z).a5, .i (v2.getD v5 R_iiiiiiiA.z).a6]), (3, [.i (v3.getD v5 R_iiiiiiiA.z).a2, .i (v3.getD v5 R_iiiiiiiA.z).a3, .i (v3.getD v5 R_iiiiiiiA.z).a4, .i (v3.getD v5 R_iiiiiiiA.z).a5, .i (v3.getD v5 R_iiiiiiiA.z).a6]), (6, [(mc E_ii (v2.getD v5 R_iiiiiiiA.z).a7)]), (7, [(mc E_ii (v3.getD v5 R_iiiiiiiA.z).a7)])] [(4, (ZP ((v2.getD v5 R_iiiiiiiA.z).a7) ((v3.getD v5 R_iiiiiiiA.z).a7)  y6_0  8))])) (live := [0, 1, 2, 3]) (tv := fun _ => [some (vs 2 0 v2.length v2.length), some (vs 3 0 v3.length v3.length), some (vi (v4 : Int)), some (vi (((v5 + 1) : Nat) : Int))]) (bl := [some (.cells (Zb E_iiiiiiiA L0) 34), some (.cells (Zb E_iiiiiiiA L2) 34), some (.cells (Zb E_iiiiiiiA v2) 34), some (.cells (Zb E_iiiiiiiA v3) 34)]) (ob := [((IntKind.i64.wrap ((v5 : Int) + (1 : Int))) == (((v5 + 1) : Nat) : Int), true), ((!y6_0), false), (dP (ZL #[ms E_ii (v2.getD v5 R_iiiiiiiA.z).a7, ms E_ii (v3.getD v5 R_iiiiiiiA.z).a7] ((v2.getD v5 R_iiiiiiiA.z).a7) ((v3.getD v5 R_iiiiiiiA.z).a7)  y6_0  8), true), (Zs (Zl 1 (List.drop ((0 + (v5 * 8)) + 7) (Zb E_iiiiiiiA v3))) [(mc E_ii (v3.getD v5 R_iiiiiiiA.z).a7)], true), (Nat.blt v5 v3.length, true), ((v5 : Int) == Int.ofNat v5, true), (Zs (Zl 1 (List.drop ((0 + (v5 * 8)) + 7) (Zb E_iiiiiiiA v2))) [(mc E_ii (v2.getD v5 R_iiiiiiiA.z).a7)], true), (Nat.blt v5 v2.length, true), ((v5 : Int) == Int.ofNat v5, true), ((!(((v2.getD v5 R_iiiiiiiA.z).a2 == (v3.getD v5 R_iiiiiiiA.z).a2) && (((v2.getD v5 R_iiiiiiiA.z).a3 == (v3.getD v5 R_iiiiiiiA.z).a3) && (((v2.getD v5 R_iiiiiiiA.z).a4 == (v3.getD v5 R_iiiiiiiA.z).a4) && (((v2.getD v5 R_iiiiiiiA.z).a5 == (v3.getD v5 R_iiiiiiiA.z).a5) && (((0 : Int) == (0 : Int)) && true)))))), false), (((v3.getD v5 R_iiiiiiiA.z).a5 == (1 : Int)), false), (Zs (Zl 5 (List.drop ((0 + (v5 * 8)) + 2) (Zb E_iiiiiiiA v3))) [.i (v3.getD v5 R_iiiiiiiA.z).a2, .i (v3.getD v5 R_iiiiiiiA.z).a3, .i (v3.getD v5 R_iiiiiiiA.z).a4, .i (v3.getD v5 R_iiiiiiiA.z).a5, .i (v3.getD v5 R_iiiiiiiA.z).a6], true), (Nat.blt v5 v3.length, true), ((v5 : Int) == Int.ofNat v5, true), (((v2.getD v5 R_iiiiiiiA.z).a5 == (1 : Int)), false), (Zs (Zl 5 (List.drop ((0 + (v5 * 8)) + 2) (Zb E_iiiiiiiA v2))) [.i (v2.getD v5 R_iiiiiiiA.z).a2, .i (v2.getD v5 R_iiiiiiiA.z).a3, .i (v2.getD v5 R_iiiiiiiA.z).a4, .i (v2.getD v5 R_iiiiiiiA.z).a5, .i (v2.getD v5 R_iiiiiiiA.z).a6], true), (Nat.blt v5 v2.length, true), ((v5 : Int) == Int.ofNat v5, true), ((decide ((v5 : Int) < (v4 : Int))), true)]) rfl (show 1 ∈ Zw (Zfi 1) from by decide +kernel) (fun gv => by kernel_rfl) (Za (beq_iff_eq.2 ((wrap_i64 ltA).trans (by first | rfl | omega))) <| Za (Zcf (by first | assumption | exact Decidable.not_not.1 (by assumption) | simp_all)) <| Za (Zd (ZQ #[ms E_ii (v2.getD v5 R_iiiiiiiA.z).a7, ms E_ii (v3.getD v5 R_iiiiiiiA.z).a7] ((v2.getD v5 R_iiiiiiiA.z).a7) ((v3.getD v5 R_iiiiiiiA.z).a7)  y6_0 N c6  8 rfl (by decide) (by decide))) <| Za (Zh (E := E_iiiiiiiA) (L := v3) (i := v5) (q := 7) (by omega) (show ((0 + (v5 * 8)) + 7) = v5 * 8 + 7 from by omega) (show 7 + 1 ≤ 8 from by decide) rfl rfl) <| oB <| oI <| Za (Zh (E := E_iiiiiiiA) (L := v2) (i := v5) (q := 7) (by omega) (show ((0 + (v5 * 8)) + 7) = v5 * 8 + 7 from by omega) (show 7 + 1 ≤ 8 from by decide) rfl rfl) <| oB <| oI <| Za (by rw [Bool.not_eq_false']; first | (simp only [beq_self_eq_true, Bool.and_self]; done) | (simp only [Bool.and_true, Bool.and_eq_true, beq_iff_eq] <;> first | omega | (simp_all; done) | grind)) <| oF <| Za (Zh (E := E_iiiiiiiA) (L := v3) (i := v5) (q := 2) (by omega) (show ((0 + (v5 * 8)) + 2) = v5 * 8 + 2 from by omega) (show 2 + 5 ≤ 8 from by decide) rfl rfl) <| oB <| oI <| oF <| Za (Zh (E := E_iiiiiiiA) (L := v2) (i := v5) (q := 2) (by omega) (show ((0 + (v5 * 8)) + 2) = v5 * 8 + 2 from by omega) (show 2 + 5 ≤ 8 from by decide) rfl rfl) <| oB <| oI <| oY Zg) rfl (by decide) (by rfl) (fun _ => ⟨rr, ⟨rr, ⟨rr, ⟨rr, trivial⟩⟩⟩⟩) ⟨(Ze (E := E_iiiiiiiA) (α := R_iiiiiiiA) _ L0 _), ⟨(Ze (E := E_iiiiiiiA) (α := R_iiiiiiiA) _ L2 _), ⟨(Ze (E := E_iiiiiiiA) (α := R_iiiiiiiA) _ v2 _), ⟨(Ze (E := E_iiiiiiiA) (α := R_iiiiiiiA) _ v3 _), trivial⟩⟩⟩⟩
         ·
          exact Mach.ok_none
    ·
     exact Mach.ok_none
  ·
   exact Mach.ok_none
 ·
  exact Mach.ok_fin (M := Zy L0 L1 L2 L3 N) (cd := 1000000) (cm := 0) (r := (.r0 (true) : Zo)) (fu := 4000) (orc := (Zp [(0, false)] [] [] [] [])) (live := [0, 1]) (u := vT) (bl := [some (.cells (Zb E_iiiiiiiA L0) 34), some (.cells (Zb E_iiiiiiiA L2) 34)]) (ob := [((decide ((v5 : Int) < (v4 : Int))), false)]) (fun gv => by kernel_rfl) (oN Zg) rfl (by decide) (by rfl) rr ⟨(Ze (E := E_iiiiiiiA) (α := R_iiiiiiiA) _ L0 _), ⟨(Ze (E := E_iiiiiiiA) (α := R_iiiiiiiA) _ L2 _), trivial⟩⟩

theorem Zmu (L0 : List R_iiiiiiiA) (L1 : List R_ii) (L2 : List R_iiiiiiiA) (L3 : List R_ii) (N : Nat) : (Zy L0 L1 L2 L3 N).Enter Try.prog Zq #[vs 0 0 L0.length L0.length, ms E_ii L1, vs 1 0 L2.length L2.length, ms E_ii L3] (Zex L0 L1 L2 L3 N) := by
 unfold Zex
 refine Mach.en_bind (fun z0 c0 => ?_)
 cases z0 with
 | r0 y0_0 =>
  refine Mach.en_bind (fun z1 c1 => ?_)
  cases z1 with
  | r0 y1_0 =>
   refine Mach.en_bind (fun z2 c2 => ?_)
   cases z2 with
   | r0 y2_0 =>
    refine Mach.en_ite (fun g3 => ?_) (fun g3 => ?_)
    ·
     exact Mach.en_fin (M := Zy L0 L1 L2 L3 N) (cd := 1000000) (cm := 0) (r := (.r0 (false) : Zo)) (fu := 4000) (orc := (Zp [(1, true)] [] [] [] [(0, (ZF (L0) (L1)  y0_0 0 2)), (1, (ZF (L2) (L3)  y1_0 1 2)), (2, (ZP (y0_0) (y1_0)  y2_0  2))])) (live := [0, 1]) (u := vf) (bl := [some (.cells (Zb E_iiiiiiiA L0) 34), some (.cells (Zb E_iiiiiiiA L2) 34)]) (ob := [((!y2_0), true), (dP (ZL #[ms E_ii y0_0, ms E_ii y1_0] (y0_0) (y1_0)  y2_0  2), true), (dP (ZE #[vs 1 0 L2.length L2.length, ms E_ii L3] (L2) (L3)  y1_0 1 2), true), (dS (Zb E_iiiiiiiA L2), true), (dP (ZE #[vs 0 0 L0.length L0.length, ms E_ii L1] (L0) (L1)  y0_0 0 2), true), (dS (Zb E_iiiiiiiA L0), true)]) (by kernel_rfl) (Za (ZcK (by first | assumption | simp_all)) <| Za (Zd (ZQ #[ms E_ii y0_0, ms E_ii y1_0] (y0_0) (y1_0)  y2_0 N c2  2 rfl (by decide) (by decide))) <| Za (Zd (ZG #[vs 1 0 L2.length L2.length, ms E_ii L3] (L2) (L3)  y1_0 N c1 1 2 rfl (by decide) (by decide))) <| oR <| Za (Zd (ZG #[vs 0 0 L0.length L0.length, ms E_ii L1] (L0) (L1)  y0_0 N c0 0 2 rfl (by decide) (by decide))) <| oR Zg) rfl (by decide) (by rfl) rr ⟨(Ze (E := E_iiiiiiiA) (α := R_iiiiiiiA) _ L0 _), ⟨(Ze (E := E_iiiiiiiA) (α := R_iiiiiiiA) _ L2 _), trivial⟩⟩
    ·
     exact Mach.en_head (bK := Za6 1) (M := Zy L0 L1 L2 L3 N) (cd := 1000000) (cm := 0) (y := (.h1m0 : graph_Alike_3X)) (fu := 4000) (orc := (Zp [(1, false)] [] [] [] [(0, (ZF (L0) (L1)  y0_0 0 2)), (1, (ZF (L2) (L3)  y1_0 1 2)), (2, (ZP (y0_0) (y1_0)  y2_0  2))])) (live := [0, 1]) (tv := [some (vn), some (vn), some (vq), some (vq)]) (bl := [some (.cells (Zb E_iiiiiiiA L0) 34), some (.cells (Zb E_iiiiiiiA L2) 34)]) (ob := [((!y2_0), false), (dP (ZL #[ms E_ii y0_0, ms E_ii y1_0] (y0_0) (y1_0)  y2_0  2), true), (dP (ZE #[vs 1 0 L2.length L2.length, ms E_ii L3] (L2) (L3)  y1_0 1 2), true), (dS (Zb E_iiiiiiiA L2), true), (dP (ZE #[vs 0 0 L0.length L0.length, ms E_ii L1] (L0) (L1)  y0_0 0 2), true), (dS (Zb E_iiiiiiiA L0), true)]) rfl rfl (show Zw (Za6 1).2 = [] from rfl) (by kernel_rfl) (Za (Zcf (by first | assumption | exact Decidable.not_not.1 (by assumption) | simp_all)) <| Za (Zd (ZQ #[ms E_ii y0_0, ms E_ii y1_0] (y0_0) (y1_0)  y2_0 N c2  2 rfl (by decide) (by decide))) <| Za (Zd (ZG #[vs 1 0 L2.length L2.length, ms E_ii L3] (L2) (L3)  y1_0 N c1 1 2 rfl (by decide) (by decide))) <| oR <| Za (Zd (ZG #[vs 0 0 L0.length L0.length, ms E_ii L1] (L0) (L1)  y0_0 N c0 0 2 rfl (by decide) (by decide))) <| oR Zg) rfl (by decide) (by rfl) ⟨rr, ⟨rr, ⟨rr, ⟨rr, trivial⟩⟩⟩⟩ ⟨(Ze (E := E_iiiiiiiA) (α := R_iiiiiiiA) _ L0 _), ⟨(Ze (E := E_iiiiiiiA) (α := R_iiiiiiiA) _ L2 _), trivial⟩⟩
  | r1 y1_0 y1_1 =>
   refine Mach.en_ite (fun g2 => ?_) (fun g2 => ?_)
   ·
    exact Mach.en_fin (M := Zy L0 L1 L2 L3 N) (cd := 1000000) (cm := 0) (r := (.r0 (false) : Zo)) (fu := 4000) (orc := (Zp [(0, true)] [] [] [] [(0, (ZF (L0) (L1)  y0_0 0 2)), (1, (Z5 (L2) (L3)  y1_0 y1_1 1 2))])) (live := [0, 1]) (u := vf) (bl := [some (.cells (Zb E_iiiiiiiA L0) 34), some (.cells (Zb E_iiiiiiiA L2) 34)]) (ob := [(((0 : Int) != (y1_0.length : Int)), true), (dP (Z3 #[vs 1 0 L2.length L2.length, ms E_ii L3] (L2) (L3)  y1_0 y1_1 1 2), true), (dS (Zb E_iiiiiiiA L2), true), (dP (ZE #[vs 0 0 L0.length L0.length, ms E_ii L1] (L0) (L1)  y0_0 0 2), true), (dS (Zb E_iiiiiiiA L0), true)]) (by kernel_rfl) (oD <| Za (Zd (Z6 #[vs 1 0 L2.length L2.length, ms E_ii L3] (L2) (L3)  y1_0 y1_1 N c1 1 2 rfl (by decide) (by decide))) <| oR <| Za (Zd (ZG #[vs 0 0 L0.length L0.length, ms E_ii L1] (L0) (L1)  y0_0 N c0 0 2 rfl (by decide) (by decide))) <| oR Zg) rfl (by decide) (by rfl) rr ⟨(Ze (E := E_iiiiiiiA) (α := R_iiiiiiiA) _ L0 _), ⟨(Ze (E := E_iiiiiiiA) (α := R_iiiiiiiA) _ L2 _), trivial⟩⟩
   ·
    refine Mach.en_bind (fun z3 c3 => ?_)
    cases z3 with
    | r0 y3_0 =>
     refine Mach.en_ite (fun g4 => ?_) (fun g4 => ?_)
     ·
      exact Mach.en_fin (M := Zy L0 L1 L2 L3 N) (cd := 1000000) (cm := 0) (r := (.r0 (false) : Zo)) (fu := 4000) (orc := (Zp [(0, false), (1, true)] [] [] [] [(0, (ZF (L0) (L1)  y0_0 0 2)), (1, (Z5 (L2) (L3)  y1_0 y1_1 1 2)), (2, (ZP (y0_0) (y1_1)  y3_0  3))])) (live := [0, 1]) (u := vf) (bl := [some (.cells (Zb E_iiiiiiiA L0) 34), some (.cells (Zb E_iiiiiiiA L2) 34)]) (ob := [((!y3_0), true), (dP (ZL #[ms E_ii y0_0, ms E_ii y1_1] (y0_0) (y1_1)  y3_0  3), true), (((0 : Int) != (y1_0.length : Int)), false), (dP (Z3 #[vs 1 0 L2.length L2.length, ms E_ii L3] (L2) (L3)  y1_0 y1_1 1 2), true), (dS (Zb E_iiiiiiiA L2), true), (dP (ZE #[vs 0 0 L0.length L0.length, ms E_ii L1] (L0) (L1)  y0_0 0 2), true), (dS (Zb E_iiiiiiiA L0), true)]) (by kernel_rfl) (Za (ZcK (by first | assumption | simp_all)) <| Za (Zd (ZQ #[ms E_ii y0_0, ms E_ii y1_1] (y0_0) (y1_1)  y3_0 N c3  3 rfl (by decide) (by decide))) <| oE <| Za (Zd (Z6 #[vs 1 0 L2.length L2.length, ms E_ii L3] (L2) (L3)  y1_0 y1_1 N c1 1 2 rfl (by decide) (by decide))) <| oR <| Za (Zd (ZG #[vs 0 0 L0.length L0.length, ms E_ii L1] (L0) (L1)  y0_0 N c0 0 2 rfl (by decide) (by decide))) <| oR Zg) rfl (by decide) (by rfl) rr ⟨(Ze (E := E_iiiiiiiA) (α := R_iiiiiiiA) _ L0 _), ⟨(Ze (E := E_iiiiiiiA) (α := R_iiiiiiiA) _ L2 _), trivial⟩⟩
     ·
      exact Mach.en_head (bK := Za6 1) (M := Zy L0 L1 L2 L3 N) (cd := 1000000) (cm := 0) (y := (.h1m1 (y1_0) : graph_Alike_3X)) (fu := 4000) (orc := (Zp [(0, false), (1, false)] [] [] [] [(0, (ZF (L0) (L1)  y0_0 0 2)), (1, (Z5 (L2) (L3)  y1_0 y1_1 1 2)), (2, (ZP (y0_0) (y1_1)  y3_0  3))])) (live := [0, 1, 2]) (tv := [some (vn), some (vs 2 0 y1_0.length y1_0.length), some (vq), some (vq)]) (bl := [some (.cells (Zb E_iiiiiiiA L0) 34), some (.cells (Zb E_iiiiiiiA L2) 34), some (.cells (Zb E_iiiiiiiA y1_0) 34)]) (ob := [((!y3_0), false), (dP (ZL #[ms E_ii y0_0, ms E_ii y1_1] (y0_0) (y1_1)  y3_0  3), true), (((0 : Int) != (y1_0.length : Int)), false), (dP (Z3 #[vs 1 0 L2.length L2.length, ms E_ii L3] (L2) (L3)  y1_0 y1_1 1 2), true), (dS (Zb E_iiiiiiiA L2), true), (dP (ZE #[vs 0 0 L0.length L0.length, ms E_ii L1] (L0) (L1)  y0_0 0 2), true), (dS (Zb E_iiiiiiiA L0), true)]) rfl rfl (show Zw (Za6 1).2 = [] from rfl) (by kernel_rfl) (Za (Zcf (by first | assumption | exact Decidable.not_not.1 (by assumption) | simp_all)) <| Za (Zd (ZQ #[ms E_ii y0_0, ms E_ii y1_1] (y0_0) (y1_1)  y3_0 N c3  3 rfl (by decide) (by decide))) <| oE <| Za (Zd (Z6 #[vs 1 0 L2.length L2.length, ms E_ii L3] (L2) (L3)  y1_0 y1_1 N c1 1 2 rfl (by decide) (by decide))) <| oR <| Za (Zd (ZG #[vs 0 0 L0.length L0.length, ms E_ii L1] (L0) (L1)  y0_0 N c0 0 2 rfl (by decide) (by decide))) <| oR Zg) rfl (by decide) (by rfl) ⟨rr, ⟨rr, ⟨rr, ⟨rr, trivial⟩⟩⟩⟩ ⟨(Ze (E := E_iiiiiiiA) (α := R_iiiiiiiA) _ L0 _), ⟨(Ze (E := E_iiiiiiiA) (α := R_iiiiiiiA) _ L2 _), ⟨(Ze (E := E_iiiiiiiA) (α := R_iiiiiiiA) _ y1_0 _), trivial⟩⟩⟩
 | r1 y0_0 y0_1 =>
  refine Mach.en_bind (fun z1 c1 => ?_)
  cases z1 with
  | r0 y1_0 =>
   refine Mach.en_ite (fun g2 => ?_) (fun g2 => ?_)
   ·
    exact Mach.en_fin (M := Zy L0 L1 L2 L3 N) (cd := 1000000) (cm := 0) (r := (.r0 (false) : Zo)) (fu := 4000) (orc := (Zp [(0, true)] [] [] [] [(0, (Z5 (L0) (L1)  y0_0 y0_1 0 2)), (1, (ZF (L2) (L3)  y1_0 1 3))])) (live := [0, 1]) (u := vf) (bl := [some (.cells (Zb E_iiiiiiiA L0) 34), some (.cells (Zb E_iiiiiiiA L2) 34)]) (ob := [(((y0_0.length : Int) != (0 : Int)), true), (dP (ZE #[vs 1 0 L2.length L2.length, ms E_ii L3] (L2) (L3)  y1_0 1 3), true), (dS (Zb E_iiiiiiiA L2), true), (dP (Z3 #[vs 0 0 L0.length L0.length, ms E_ii L1] (L0) (L1)  y0_0 y0_1 0 2), true), (dS (Zb E_iiiiiiiA L0), true)]) (by kernel_rfl) (oD <| Za (Zd (ZG #[vs 1 0 L2.length L2.length, ms E_ii L3] (L2) (L3)  y1_0 N c1 1 3 rfl (by decide) (by decide))) <| oR <| Za (Zd (Z6 #[vs 0 0 L0.length L0.length, ms E_ii L1] (L0) (L1)  y0_0 y0_1 N c0 0 2 rfl (by decide) (by decide))) <| oR Zg) rfl (by decide) (by rfl) rr ⟨(Ze (E := E_iiiiiiiA) (α := R_iiiiiiiA) _ L0 _), ⟨(Ze (E := E_iiiiiiiA) (α := R_iiiiiiiA) _ L2 _), trivial⟩⟩
   ·
    refine Mach.en_bind (fun z3 c3 => ?_)
    cases z3 with
    | r0 y3_0 =>
     refine Mach.en_ite (fun g4 => ?_) (fun g4 => ?_)
     ·
      exact Mach.en_fin (M := Zy L0 L1 L2 L3 N) (cd := 1000000) (cm := 0) (r := (.r0 (false) : Zo)) (fu := 4000) (orc := (Zp [(0, false), (1, true)] [] [] [] [(0, (Z5 (L0) (L1)  y0_0 y0_1 0 2)), (1, (ZF (L2) (L3)  y1_0 1 3)), (2, (ZP (y0_1) (y1_0)  y3_0  3))])) (live := [0, 1]) (u := vf) (bl := [some (.cells (Zb E_iiiiiiiA L0) 34), some (.cells (Zb E_iiiiiiiA L2) 34)]) (ob := [((!y3_0), true), (dP (ZL #[ms E_ii y0_1, ms E_ii y1_0] (y0_1) (y1_0)  y3_0  3), true), (((y0_0.length : Int) != (0 : Int)), false), (dP (ZE #[vs 1 0 L2.length L2.length, ms E_ii L3] (L2) (L3)  y1_0 1 3), true), (dS (Zb E_iiiiiiiA L2), true), (dP (Z3 #[vs 0 0 L0.length L0.length, ms E_ii L1] (L0) (L1)  y0_0 y0_1 0 2), true), (dS (Zb E_iiiiiiiA L0), true)]) (by kernel_rfl) (Za (ZcK (by first | assumption | simp_all)) <| Za (Zd (ZQ #[ms E_ii y0_1, ms E_ii y1_0] (y0_1) (y1_0)  y3_0 N c3  3 rfl (by decide) (by decide))) <| oE <| Za (Zd (ZG #[vs 1 0 L2.length L2.length, ms E_ii L3] (L2) (L3)  y1_0 N c1 1 3 rfl (by decide) (by decide))) <| oR <| Za (Zd (Z6 #[vs 0 0 L0.length L0.length, ms E_ii L1] (L0) (L1)  y0_0 y0_1 N c0 0 2 rfl (by decide) (by decide))) <| oR Zg) rfl (by decide) (by rfl) rr ⟨(Ze (E := E_iiiiiiiA) (α := R_iiiiiiiA) _ L0 _), ⟨(Ze (E := E_iiiiiiiA) (α := R_iiiiiiiA) _ L2 _), trivial⟩⟩
     ·
      exact Mach.en_head (bK := Za6 1) (M := Zy L0 L1 L2 L3 N) (cd := 1000000) (cm := 0) (y := (.h1m2 (y0_0) (y0_0.length) : graph_Alike_3X)) (fu := 4000) (orc := (Zp [(0, false), (1, false)] [] [] [] [(0, (Z5 (L0) (L1)  y0_0 y0_1 0 2)), (1, (ZF (L2) (L3)  y1_0 1 3)), (2, (ZP (y0_1) (y1_0)  y3_0  3))])) (live := [0, 1, 2]) (tv := [some (vs 2 0 y0_0.length y0_0.length), some (vn), some (vi (y0_0.length : Int)), some (vq)]) (bl := [some (.cells (Zb E_iiiiiiiA L0) 34), some (.cells (Zb E_iiiiiiiA L2) 34), some (.cells (Zb E_iiiiiiiA y0_0) 34)]) (ob := [((!y3_0), false), (dP (ZL #[ms E_ii y0_1, ms E_ii y1_0] (y0_1) (y1_0)  y3_0  3), true), (((y0_0.length : Int) != (0 : Int)), false), (dP (ZE #[vs 1 0 L2.length L2.length, ms E_ii L3] (L2) (L3)  y1_0 1 3), true), (dS (Zb E_iiiiiiiA L2), true), (dP (Z3 #[vs 0 0 L0.length L0.length, ms E_ii L1] (L0) (L1)  y0_0 y0_1 0 2), true), (dS (Zb E_iiiiiiiA L0), true)]) rfl rfl (show Zw (Za6 1).2 = [] from rfl) (by kernel_rfl) (Za (Zcf (by first | assumption | exact Decidable.not_not.1 (by assumption) | simp_all)) <| Za (Zd (ZQ #[ms E_ii y0_1, ms E_ii y1_0] (y0_1) (y1_0)  y3_0 N c3  3 rfl (by decide) (by decide))) <| oE <| Za (Zd (ZG #[vs 1 0 L2.length L2.length, ms E_ii L3] (L2) (L3)  y1_0 N c1 1 3 rfl (by decide) (by decide))) <| oR <| Za (Zd (Z6 #[vs 0 0 L0.length L0.length, ms E_ii L1] (L0) (L1)  y0_0 y0_1 N c0 0 2 rfl (by decide) (by decide))) <| oR Zg) rfl (by decide) (by rfl) ⟨rr, ⟨rr, ⟨rr, ⟨rr, trivial⟩⟩⟩⟩ ⟨(Ze (E := E_iiiiiiiA) (α := R_iiiiiiiA) _ L0 _), ⟨(Ze (E := E_iiiiiiiA) (α := R_iiiiiiiA) _ L2 _), ⟨(Ze (E := E_iiiiiiiA) (α := R_iiiiiiiA) _ y0_0 _), trivial⟩⟩⟩
  | r1 y1_0 y1_1 =>
   refine Mach.en_ite (fun g2 => ?_) (fun g2 => ?_)
   ·
    exact Mach.en_fin (M := Zy L0 L1 L2 L3 N) (cd := 1000000) (cm := 0) (r := (.r0 (false) : Zo)) (fu := 4000) (orc := (Zp [(0, true)] [] [] [] [(0, (Z5 (L0) (L1)  y0_0 y0_1 0 2)), (1, (Z5 (L2) (L3)  y1_0 y1_1 1 3))])) (live := [0, 1]) (u := vf) (bl := [some (.cells (Zb E_iiiiiiiA L0) 34), some (.cells (Zb E_iiiiiiiA L2) 34)]) (ob := [(((y0_0.length : Int) != (y1_0.length : Int)), true), (dP (Z3 #[vs 1 0 L2.length L2.length, ms E_ii L3] (L2) (L3)  y1_0 y1_1 1 3), true), (dS (Zb E_iiiiiiiA L2), true), (dP (Z3 #[vs 0 0 L0.length L0.length, ms E_ii L1] (L0) (L1)  y0_0 y0_1 0 2), true), (dS (Zb E_iiiiiiiA L0), true)]) (by kernel_rfl) (oD <| Za (Zd (Z6 #[vs 1 0 L2.length L2.length, ms E_ii L3] (L2) (L3)  y1_0 y1_1 N c1 1 3 rfl (by decide) (by decide))) <| oR <| Za (Zd (Z6 #[vs 0 0 L0.length L0.length, ms E_ii L1] (L0) (L1)  y0_0 y0_1 N c0 0 2 rfl (by decide) (by decide))) <| oR Zg) rfl (by decide) (by rfl) rr ⟨(Ze (E := E_iiiiiiiA) (α := R_iiiiiiiA) _ L0 _), ⟨(Ze (E := E_iiiiiiiA) (α := R_iiiiiiiA) _ L2 _), trivial⟩⟩
   ·
    refine Mach.en_bind (fun z3 c3 => ?_)
    cases z3 with
    | r0 y3_0 =>
     refine Mach.en_ite (fun g4 => ?_) (fun g4 => ?_)
     ·
      exact Mach.en_fin (M := Zy L0 L1 L2 L3 N) (cd := 1000000) (cm := 0) (r := (.r0 (false) : Zo)) (fu := 4000) (orc := (Zp [(0, false), (1, true)] [] [] [] [(0, (Z5 (L0) (L1)  y0_0 y0_1 0 2)), (1, (Z5 (L2) (L3)  y1_0 y1_1 1 3)), (2, (ZP (y0_1) (y1_1)  y3_0  4))])) (live := [0, 1]) (u := vf) (bl := [some (.cells (Zb E_iiiiiiiA L0) 34), some (.cells (Zb E_iiiiiiiA L2) 34)]) (ob := [((!y3_0), true), (dP (ZL #[ms E_ii y0_1, ms E_ii y1_1] (y0_1) (y1_1)  y3_0  4), true), (((y0_0.length : Int) != (y1_0.length : Int)), false), (dP (Z3 #[vs 1 0 L2.length L2.length, ms E_ii L3] (L2) (L3)  y1_0 y1_1 1 3), true), (dS (Zb E_iiiiiiiA L2), true), (dP (Z3 #[vs 0 0 L0.length L0.length, ms E_ii L1] (L0) (L1)  y0_0 y0_1 0 2), true), (dS (Zb E_iiiiiiiA L0), true)]) (by kernel_rfl) (Za (ZcK (by first | assumption | simp_all)) <| Za (Zd (ZQ #[ms E_ii y0_1, ms E_ii y1_1] (y0_1) (y1_1)  y3_0 N c3  4 rfl (by decide) (by decide))) <| oE <| Za (Zd (Z6 #[vs 1 0 L2.length L2.length, ms E_ii L3] (L2) (L3)  y1_0 y1_1 N c1 1 3 rfl (by decide) (by decide))) <| oR <| Za (Zd (Z6 #[vs 0 0 L0.length L0.length, ms E_ii L1] (L0) (L1)  y0_0 y0_1 N c0 0 2 rfl (by decide) (by decide))) <| oR Zg) rfl (by decide) (by rfl) rr ⟨(Ze (E := E_iiiiiiiA) (α := R_iiiiiiiA) _ L0 _), ⟨(Ze (E := E_iiiiiiiA) (α := R_iiiiiiiA) _ L2 _), trivial⟩⟩
     ·
      exact Mach.en_head (bK := Za6 1) (M := Zy L0 L1 L2 L3 N) (cd := 1000000) (cm := 0) (y := (.h1m3 (y0_0) (y1_0) (y0_0.length) (0) : graph_Alike_3X)) (fu := 4000) (orc := (Zp [(0, false), (1, false)] [] [] [] [(0, (Z5 (L0) (L1)  y0_0 y0_1 0 2)), (1, (Z5 (L2) (L3)  y1_0 y1_1 1 3)), (2, (ZP (y0_1) (y1_1)  y3_0  4))])) (live := [0, 1, 2, 3]) (tv := [some (vs 2 0 y0_0.length y0_0.length), some (vs 3 0 y1_0.length y1_0.length), some (vi (y0_0.length : Int)), some (vq)]) (bl := [some (.cells (Zb E_iiiiiiiA L0) 34), some (.cells (Zb E_iiiiiiiA L2) 34), some (.cells (Zb E_iiiiiiiA y0_0) 34), some (.cells (Zb E_iiiiiiiA y1_0) 34)]) (ob := [((!y3_0), false), (dP (ZL #[ms E_ii y0_1, ms E_ii y1_1] (y0_1) (y1_1)  y3_0  4), true), (((y0_0.length : Int) != (y1_0.length : Int)), false), (dP (Z3 #[vs 1 0 L2.length L2.length, ms E_ii L3] (L2) (L3)  y1_0 y1_1 1 3), true), (dS (Zb E_iiiiiiiA L2), true), (dP (Z3 #[vs 0 0 L0.length L0.length, ms E_ii L1] (L0) (L1)  y0_0 y0_1 0 2), true), (dS (Zb E_iiiiiiiA L0), true)]) rfl rfl (show Zw (Za6 1).2 = [] from rfl) (by kernel_rfl) (Za (Zcf (by first | assumption | exact Decidable.not_not.1 (by assumption) | simp_all)) <| Za (Zd (ZQ #[ms E_ii y0_1, ms E_ii y1_1] (y0_1) (y1_1)  y3_0 N c3  4 rfl (by decide) (by decide))) <| oE <| Za (Zd (Z6 #[vs 1 0 L2.length L2.length, ms E_ii L3] (L2) (L3)  y1_0 y1_1 N c1 1 3 rfl (by decide) (by decide))) <| oR <| Za (Zd (Z6 #[vs 0 0 L0.length L0.length, ms E_ii L1] (L0) (L1)  y0_0 y0_1 N c0 0 2 rfl (by decide) (by decide))) <| oR Zg) rfl (by decide) (by rfl) ⟨rr, ⟨rr, ⟨rr, ⟨⟨Eq.trans (show (vi ((0 : Nat) : Int) : Value) = vq from (congrArg (Value.int .i64) (by first | rfl | omega))) (by rfl), by rfl⟩, trivial⟩⟩⟩⟩ ⟨(Ze (E := E_iiiiiiiA) (α := R_iiiiiiiA) _ L0 _), ⟨(Ze (E := E_iiiiiiiA) (α := R_iiiiiiiA) _ L2 _), ⟨(Ze (E := E_iiiiiiiA) (α := R_iiiiiiiA) _ y0_0 _), ⟨(Ze (E := E_iiiiiiiA) (α := R_iiiiiiiA) _ y1_0 _), trivial⟩⟩⟩⟩

theorem Zlo (L0 : List R_iiiiiiiA) (L1 : List R_ii) (L2 : List R_iiiiiiiA) (L3 : List R_ii) (N : Nat) (r : Zo) (h : Zf6 L0 L1 L2 L3 N = some r) : LSpec Try.prog 13 #[vs 0 0 L0.length L0.length, ms E_ii L1, vs 1 0 L2.length L2.length, ms E_ii L3] [.cells (Zb E_iiiiiiiA L0) 34, .cells (Zb E_iiiiiiiA L2) 34] (Zjx L0 L1 L2 L3 r) (Zi7 L0 L1 L2 L3 r) :=
 Mach.spec Zb0 (Zy L0 L1 L2 L3 N) Try.func13 (by kernel_rfl) (by kernel_rfl) (fun x => by cases x <;> exact Zae _ rfl) (fun r => by cases r <;> exact Zae _ rfl) (fun x => by
  cases x with
  | h1m0 => exact fun _ => (show ¬ (1 ∈ Zw (Za6 1).2) from by decide +kernel)
  | h1m1 _ => exact fun _ => (show ¬ (1 ∈ Zw (Za6 1).2) from by decide +kernel)
  | h1m2 _ _ => exact fun _ => (show ¬ (1 ∈ Zw (Za6 1).2) from by decide +kernel)
  | h1m3 _ _ _ _ => exact fun _ => (show ¬ (1 ∈ Zw (Za6 1).2) from by decide +kernel)
  ) (fun x => (show (Zy L0 L1 L2 L3 N).Ok Try.prog Zq x (Zb6 L0 L1 L2 L3 N x) from by
  cases x with
  | h1m0 => exact Zku L0 L1 L2 L3 N
  | h1m1 v2 => exact Zkv L0 L1 L2 L3 v2 N
  | h1m2 v2 v3 => exact Zkw L0 L1 L2 L3 v2 v3 N
  | h1m3 v2 v3 v4 v5 => exact Zkx L0 L1 L2 L3 v2 v3 v4 v5 N
  )) (Zmu L0 L1 L2 L3 N) (n := N) h

noncomputable def Ze1 (L0 : List R_iiiiiiiA) (L1 : List R_ii) (L2 : List R_iiiiiiiA) (L3 : List R_ii) (w2 : Bool) (k0 k1 n : Nat) : Zbp := .call [(k0, .cells (Zb E_iiiiiiiA L0) 34), (k1, .cells (Zb E_iiiiiiiA L2) 34)] (Value.bool w2) [] 0
def Zd2 (A : Array Value) (L0 : List R_iiiiiiiA) (L1 : List R_ii) (L2 : List R_iiiiiiiA) (L3 : List R_ii) (w2 : Bool) (k0 k1 n : Nat) : Prop := ZC Try.prog 13 A [(k0, .cells (Zb E_iiiiiiiA L0) 34), (k1, .cells (Zb E_iiiiiiiA L2) 34)] (Value.bool w2) [] n 0

theorem Ze2 (A : Array Value) (L0 : List R_iiiiiiiA) (L1 : List R_ii) (L2 : List R_iiiiiiiA) (L3 : List R_ii) (w2 : Bool) (N : Nat) (h : Zf6 L0 L1 L2 L3 N = some (.r0 w2)) (k0 k1 n : Nat) (hA : A = #[vs k0 0 L0.length L0.length, ms E_ii L1, vs k1 0 L2.length L2.length, ms E_ii L3]) (hnd : ([k0, k1] : List Nat).Nodup) (hlt : ∀ k ∈ ([k0, k1] : List Nat), k < n) : Zd2 A L0 L1 L2 L3 w2 k0 k1 n :=
 Zan hA (LSpec.callL (show LSpec Try.prog 13 #[vs 0 0 L0.length L0.length, ms E_ii L1, vs 1 0 L2.length L2.length, ms E_ii L3] [.cells (Zb E_iiiiiiiA L0) 34, .cells (Zb E_iiiiiiiA L2) 34] (Value.bool w2) [some (.cells (Zb E_iiiiiiiA L0) 34), some (.cells (Zb E_iiiiiiiA L2) 34)] from Zlo L0 L1 L2 L3 N _ h) [k0, k1] n [] rfl hnd hlt (show 2 ≤ 2 from by decide) (show ∀ j ∈ ([] : List Nat), j < 2 from by decide) (by rfl) ⟨(Zt _ _ _), ⟨(Zt _ _ _), trivial⟩⟩ (by rfl) ⟨(Zt _ _ _), ⟨(Zt _ _ _), trivial⟩⟩ ⟨.inr rfl, ⟨.inr rfl, trivial⟩⟩ rfl rfl rfl (Zf (Zk rfl (ZD _ _ _)) (Zf (Zk rfl (ZD _ _ _)) rfl)) rfl)

noncomputable def Zhn (a0 a1 a2 a3 a4 a5 a6 : Int) (L7 : List R_ii) (a8 a9 a10 a11 a12 a13 a14 : Int) (L15 : List R_ii) : ZaT → Value
 | .r0 w0 => Value.bool w0
noncomputable def ZgS (a0 a1 a2 a3 a4 a5 a6 : Int) (L7 : List R_ii) (a8 a9 a10 a11 a12 a13 a14 : Int) (L15 : List R_ii) : ZaT → List (Option AObj)
 | .r0 w0 => []

theorem Zky (a0 a1 a2 a3 a4 a5 a6 : Int) (L7 : List R_ii) (a8 a9 a10 a11 a12 a13 a14 : Int) (L15 : List R_ii) (N : Nat) : Fx Try.prog Zq Try.f26 [] #[Value.agg #[vi a0, vi a1, vi a2, vi a3, vi a4, vi a5, vi a6, ms E_ii L7], Value.agg #[vi a8, vi a9, vi a10, vi a11, vi a12, vi a13, vi a14, ms E_ii L15]] (Zhn a0 a1 a2 a3 a4 a5 a6 L7 a8 a9 a10 a11 a12 a13 a14 L15) (ZgS a0 a1 a2 a3 a4 a5 a6 L7 a8 a9 a10 a11 a12 a13 a14 L15) (Zcd a0 a1 a2 a3 a4 a5 a6 L7 a8 a9 a10 a11 a12 a13 a14 L15 N) := by
 unfold Zcd
 refine Zam (fun g0 => ?_) (fun g0 => ?_)
 ·
  refine Zam (fun g1 => ?_) (fun g1 => ?_)
  ·
   refine ZaV (fun z2 c2 => ?_)
   cases z2 with
   | r0 y2_0 =>
    exact Zau (r := (.r0 (y2_0) : ZaT)) (fu := 4000) (orc := (Zp [(0, true), (1, true)] [] [] [] [(0, (Zbl (L7) (L15)  y2_0  2))])) (live := []) (u := Value.bool y2_0) (bl := []) (ob := [(dP (Zbb #[ms E_ii L7, ms E_ii L15] (L7) (L15)  y2_0  2), true), (((a2 == a10) && ((a3 == a11) && ((a4 == a12) && ((a5 == a13) && ((a6 == a14) && true))))), true), (((a0 == a8) && ((a1 == a9) && true)), true)]) (by kernel_rfl) (Za (Zd (Zbm #[ms E_ii L7, ms E_ii L15] (L7) (L15)  y2_0 N c2  2 rfl (by decide) (by decide))) <| Za (by first | (simp only [beq_self_eq_true, Bool.and_self]; done) | (simp only [Bool.and_true, Bool.and_eq_true, beq_iff_eq] <;> first | omega | (simp_all; done) | grind)) <| Za (by first | (simp only [beq_self_eq_true, Bool.and_self]; done) | (simp only [Bool.and_true, Bool.and_eq_true, beq_iff_eq] <;> first | omega | (simp_all; done) | grind)) Zg) rfl (by decide) (by rfl) rr trivial
  ·
   exact Zau (r := (.r0 (false) : ZaT)) (fu := 4000) (orc := (Zp [(0, true), (1, false)] [] [] [] [])) (live := []) (u := vf) (bl := []) (ob := [(((a2 == a10) && ((a3 == a11) && ((a4 == a12) && ((a5 == a13) && ((a6 == a14) && true))))), false), (((a0 == a8) && ((a1 == a9) && true)), true)]) (by kernel_rfl) (Za (Bool.eq_false_iff.2 (by simp only [ne_eq, Bool.and_true, Bool.and_eq_true, beq_iff_eq]; first | omega | (intro hh; simp_all; done) | (intro hh; grind))) <| Za (by first | (simp only [beq_self_eq_true, Bool.and_self]; done) | (simp only [Bool.and_true, Bool.and_eq_true, beq_iff_eq] <;> first | omega | (simp_all; done) | grind)) Zg) rfl (by decide) (by rfl) rr trivial
 ·
  exact Zau (r := (.r0 (false) : ZaT)) (fu := 4000) (orc := (Zp [(0, false)] [] [] [] [])) (live := []) (u := vf) (bl := []) (ob := [(((a0 == a8) && ((a1 == a9) && true)), false)]) (by kernel_rfl) (Za (Bool.eq_false_iff.2 (by simp only [ne_eq, Bool.and_true, Bool.and_eq_true, beq_iff_eq]; first | omega | (intro hh; simp_all; done) | (intro hh; grind))) Zg) rfl (by decide) (by rfl) rr trivial

theorem Zjy (a0 a1 a2 a3 a4 a5 a6 : Int) (L7 : List R_ii) (a8 a9 a10 a11 a12 a13 a14 : Int) (L15 : List R_ii) (N : Nat) (r : ZaT) (h : Zcd a0 a1 a2 a3 a4 a5 a6 L7 a8 a9 a10 a11 a12 a13 a14 L15 N = some r) : LSpec Try.prog 26 #[Value.agg #[vi a0, vi a1, vi a2, vi a3, vi a4, vi a5, vi a6, ms E_ii L7], Value.agg #[vi a8, vi a9, vi a10, vi a11, vi a12, vi a13, vi a14, ms E_ii L15]] [] (Zhn a0 a1 a2 a3 a4 a5 a6 L7 a8 a9 a10 a11 a12 a13 a14 L15 r) (ZgS a0 a1 a2 a3 a4 a5 a6 L7 a8 a9 a10 a11 a12 a13 a14 L15 r) :=
 Zfe Zb0 Try.func26 (by kernel_rfl) (by kernel_rfl) (fun r => by cases r <;> exact Zae _ rfl) (Zky a0 a1 a2 a3 a4 a5 a6 L7 a8 a9 a10 a11 a12 a13 a14 L15 N) h

noncomputable def ZgT (a0 a1 a2 a3 a4 a5 a6 : Int) (L7 : List R_ii) (a8 a9 a10 a11 a12 a13 a14 : Int) (L15 : List R_ii) (w0 : Bool) (n : Nat) : Zbp := .call [] (Value.bool w0) [] 0
def ZeY (A : Array Value) (a0 a1 a2 a3 a4 a5 a6 : Int) (L7 : List R_ii) (a8 a9 a10 a11 a12 a13 a14 : Int) (L15 : List R_ii) (w0 : Bool) (n : Nat) : Prop := ZC Try.prog 26 A [] (Value.bool w0) [] n 0

theorem ZgU (A : Array Value) (a0 a1 a2 a3 a4 a5 a6 : Int) (L7 : List R_ii) (a8 a9 a10 a11 a12 a13 a14 : Int) (L15 : List R_ii) (w0 : Bool) (N : Nat) (h : Zcd a0 a1 a2 a3 a4 a5 a6 L7 a8 a9 a10 a11 a12 a13 a14 L15 N = some (.r0 w0)) (n : Nat) (hA : A = #[Value.agg #[vi a0, vi a1, vi a2, vi a3, vi a4, vi a5, vi a6, ms E_ii L7], Value.agg #[vi a8, vi a9, vi a10, vi a11, vi a12, vi a13, vi a14, ms E_ii L15]]) (hnd : ([] : List Nat).Nodup) (hlt : ∀ k ∈ ([] : List Nat), k < n) : ZeY A a0 a1 a2 a3 a4 a5 a6 L7 a8 a9 a10 a11 a12 a13 a14 L15 w0  n :=
 Zan hA (LSpec.callL (show LSpec Try.prog 26 #[Value.agg #[vi a0, vi a1, vi a2, vi a3, vi a4, vi a5, vi a6, ms E_ii L7], Value.agg #[vi a8, vi a9, vi a10, vi a11, vi a12, vi a13, vi a14, ms E_ii L15]] [] (Value.bool w0) [] from Zjy a0 a1 a2 a3 a4 a5 a6 L7 a8 a9 a10 a11 a12 a13 a14 L15 N _ h) [] n [] rfl hnd hlt (show 0 ≤ 0 from by decide) (show ∀ j ∈ ([] : List Nat), j < 0 from by decide) (by rfl) trivial (by rfl) trivial trivial rfl rfl rfl rfl rfl)

noncomputable def Zif (L0 L1 : List R_iiiiiiiA) : Zav → Value
 | .r0 w2 => Value.bool w2
noncomputable def Zho (L0 L1 : List R_iiiiiiiA) : Zav → List (Option AObj)
 | .r0 w2 => [some (.cells (Zb E_iiiiiiiA L0) 34), some (.cells (Zb E_iiiiiiiA L1) 34)]

def Zl9 : Zaa → Nat
 | .h1m0 v2 => 1
noncomputable def Zmv (L0 L1 : List R_iiiiiiiA) : Zaa → List (Nat × Value)
 | .h1m0 v2 => [(0, vs 0 0 L0.length L0.length), (1, vs 1 0 L1.length L1.length), (5, vi (v2 : Int))]
noncomputable def Zmw (L0 L1 : List R_iiiiiiiA) : Zaa → List (Option AObj)
 | .h1m0 v2 => [some (.cells (Zb E_iiiiiiiA L0) 34), some (.cells (Zb E_iiiiiiiA L1) 34)]

noncomputable def Zc6 : Nat → Code × List ZaF
 | 1 => Zbj [1, 1, 0, 1, 3] (Zcb Try.f11) []
 | _ => (.skip, [])
def Zhp : Nat → Bool
 | 1 => true
 | _ => true
noncomputable def Zmx (i : Nat) : List ZaF := match Zhp i with | true => .rnd i :: (Zc6 i).2 | false => (Zc6 i).2

noncomputable def Zbf (L0 L1 : List R_iiiiiiiA) (N : Nat) : Mach := ⟨Try.f11, [.cells (Zb E_iiiiiiiA L0) 34, .cells (Zb E_iiiiiiiA L1) 34], Zaa, Zav, Zc1 L0 L1 N, Zl9, Zc6, Zhp, Zmv L0 L1, Zmw L0 L1, Zif L0 L1, Zho L0 L1⟩

theorem Zjz (L0 L1 : List R_iiiiiiiA) (v2 N : Nat) : (Zbf L0 L1 N).Ok Try.prog Zq (.h1m0 v2 : Zaa) (Zc1 L0 L1 N (.h1m0 v2 : Zaa)) := by
 show (Zbf L0 L1 N).Ok Try.prog Zq (.h1m0 v2 : Zaa) (Zbu L0 L1 N v2)
 unfold Zbu
 refine Mach.ok_ite (fun g0 => ?_) (fun g0 => ?_)
 ·
  refine Mach.ok_ite (fun g1 => ?_) (fun g1 => ?_)
  ·
   refine Mach.ok_bind (fun z2 c2 => ?_)
   cases z2 with
   | r0 y2_0 =>
    refine Mach.ok_ite (fun g3 => ?_) (fun g3 => ?_)
    ·
     exact Mach.ok_fin (M := Zbf L0 L1 N) (cd := 1000000) (cm := 0) (r := (.r0 (false) : Zav)) (fu := 4000) (orc := (Zp [(0, true), (1, true)] [] [(0, v2), (1, v2)] [(0, [.i (L0.getD v2 R_iiiiiiiA.z).a0, .i (L0.getD v2 R_iiiiiiiA.z).a1, .i (L0.getD v2 R_iiiiiiiA.z).a2, .i (L0.getD v2 R_iiiiiiiA.z).a3, .i (L0.getD v2 R_iiiiiiiA.z).a4, .i (L0.getD v2 R_iiiiiiiA.z).a5, .i (L0.getD v2 R_iiiiiiiA.z).a6, (mc E_ii (L0.getD v2 R_iiiiiiiA.z).a7)]), (1, [.i (L1.getD v2 R_iiiiiiiA.z).a0, .i (L1.getD v2 R_iiiiiiiA.z).a1, .i (L1.getD v2 R_iiiiiiiA.z).a2, .i (L1.getD v2 R_iiiiiiiA.z).a3, .i (L1.getD v2 R_iiiiiiiA.z).a4, .i (L1.getD v2 R_iiiiiiiA.z).a5, .i (L1.getD v2 R_iiiiiiiA.z).a6, (mc E_ii (L1.getD v2 R_iiiiiiiA.z).a7)])] [(0, (ZgT ((L0.getD v2 R_iiiiiiiA.z).a0) ((L0.getD v2 R_iiiiiiiA.z).a1) ((L0.getD v2 R_iiiiiiiA.z).a2) ((L0.getD v2 R_iiiiiiiA.z).a3) ((L0.getD v2 R_iiiiiiiA.z).a4) ((L0.getD v2 R_iiiiiiiA.z).a5) ((L0.getD v2 R_iiiiiiiA.z).a6) ((L0.getD v2 R_iiiiiiiA.z).a7) ((L1.getD v2 R_iiiiiiiA.z).a0) ((L1.getD v2 R_iiiiiiiA.z).a1) ((L1.getD v2 R_iiiiiiiA.z).a2) ((L1.getD v2 R_iiiiiiiA.z).a3) ((L1.getD v2 R_iiiiiiiA.z).a4) ((L1.getD v2 R_iiiiiiiA.z).a5) ((L1.getD v2 R_iiiiiiiA.z).a6) ((L1.getD v2 R_iiiiiiiA.z).a7)  y2_0  2))])) (live := [0, 1]) (u := vf) (bl := [some (.cells (Zb E_iiiiiiiA L0) 34), some (.cells (Zb E_iiiiiiiA L1) 34)]) (ob := [((!y2_0), true), (dP (ZeY #[Value.agg #[vi (L0.getD v2 R_iiiiiiiA.z).a0, vi (L0.getD v2 R_iiiiiiiA.z).a1, vi (L0.getD v2 R_iiiiiiiA.z).a2, vi (L0.getD v2 R_iiiiiiiA.z).a3, vi (L0.getD v2 R_iiiiiiiA.z).a4, vi (L0.getD v2 R_iiiiiiiA.z).a5, vi (L0.getD v2 R_iiiiiiiA.z).a6, ms E_ii (L0.getD v2 R_iiiiiiiA.z).a7], Value.agg #[vi (L1.getD v2 R_iiiiiiiA.z).a0, vi (L1.getD v2 R_iiiiiiiA.z).a1, vi (L1.getD v2 R_iiiiiiiA.z).a2, vi (L1.getD v2 R_iiiiiiiA.z).a3, vi (L1.getD v2 R_iiiiiiiA.z).a4, vi (L1.getD v2 R_iiiiiiiA.z).a5, vi (L1.getD v2 R_iiiiiiiA.z).a6, ms E_ii (L1.getD v2 R_iiiiiiiA.z).a7]] ((L0.getD v2 R_iiiiiiiA.z).a0) ((L0.getD v2 R_iiiiiiiA.z).a1) ((L0.getD v2 R_iiiiiiiA.z).a2) ((L0.getD v2 R_iiiiiiiA.z).a3) ((L0.getD v2 R_iiiiiiiA.z).a4) ((L0.getD v2 R_iiiiiiiA.z).a5) ((L0.getD v2 R_iiiiiiiA.z).a6) ((L0.getD v2 R_iiiiiiiA.z).a7) ((L1.getD v2 R_iiiiiiiA.z).a0) ((L1.getD v2 R_iiiiiiiA.z).a1) ((L1.getD v2 R_iiiiiiiA.z).a2) ((L1.getD v2 R_iiiiiiiA.z).a3) ((L1.getD v2 R_iiiiiiiA.z).a4) ((L1.getD v2 R_iiiiiiiA.z).a5) ((L1.getD v2 R_iiiiiiiA.z).a6) ((L1.getD v2 R_iiiiiiiA.z).a7)  y2_0  2), true), (Zs (Zl 8 (List.drop (0 + (v2 * 8)) (Zb E_iiiiiiiA L1))) [.i (L1.getD v2 R_iiiiiiiA.z).a0, .i (L1.getD v2 R_iiiiiiiA.z).a1, .i (L1.getD v2 R_iiiiiiiA.z).a2, .i (L1.getD v2 R_iiiiiiiA.z).a3, .i (L1.getD v2 R_iiiiiiiA.z).a4, .i (L1.getD v2 R_iiiiiiiA.z).a5, .i (L1.getD v2 R_iiiiiiiA.z).a6, (mc E_ii (L1.getD v2 R_iiiiiiiA.z).a7)], true), (Nat.blt v2 L1.length, true), ((v2 : Int) == Int.ofNat v2, true), (Zs (Zl 8 (List.drop (0 + (v2 * 8)) (Zb E_iiiiiiiA L0))) [.i (L0.getD v2 R_iiiiiiiA.z).a0, .i (L0.getD v2 R_iiiiiiiA.z).a1, .i (L0.getD v2 R_iiiiiiiA.z).a2, .i (L0.getD v2 R_iiiiiiiA.z).a3, .i (L0.getD v2 R_iiiiiiiA.z).a4, .i (L0.getD v2 R_iiiiiiiA.z).a5, .i (L0.getD v2 R_iiiiiiiA.z).a6, (mc E_ii (L0.getD v2 R_iiiiiiiA.z).a7)], true), (Nat.blt v2 L0.length, true), ((v2 : Int) == Int.ofNat v2, true), ((decide ((v2 : Int) < (L0.length : Int))), true)]) (fun gv => by kernel_rfl) (Za (ZcK (by first | assumption | simp_all)) <| Za (Zd (ZgU #[Value.agg #[vi (L0.getD v2 R_iiiiiiiA.z).a0, vi (L0.getD v2 R_iiiiiiiA.z).a1, vi (L0.getD v2 R_iiiiiiiA.z).a2, vi (L0.getD v2 R_iiiiiiiA.z).a3, vi (L0.getD v2 R_iiiiiiiA.z).a4, vi (L0.getD v2 R_iiiiiiiA.z).a5, vi (L0.getD v2 R_iiiiiiiA.z).a6, ms E_ii (L0.getD v2 R_iiiiiiiA.z).a7], Value.agg #[vi (L1.getD v2 R_iiiiiiiA.z).a0, vi (L1.getD v2 R_iiiiiiiA.z).a1, vi (L1.getD v2 R_iiiiiiiA.z).a2, vi (L1.getD v2 R_iiiiiiiA.z).a3, vi (L1.getD v2 R_iiiiiiiA.z).a4, vi (L1.getD v2 R_iiiiiiiA.z).a5, vi (L1.getD v2 R_iiiiiiiA.z).a6, ms E_ii (L1.getD v2 R_iiiiiiiA.z).a7]] ((L0.getD v2 R_iiiiiiiA.z).a0) ((L0.getD v2 R_iiiiiiiA.z).a1) ((L0.getD v2 R_iiiiiiiA.z).a2) ((L0.getD v2 R_iiiiiiiA.z).a3) ((L0.getD v2 R_iiiiiiiA.z).a4) ((L0.getD v2 R_iiiiiiiA.z).a5) ((L0.getD v2 R_iiiiiiiA.z).a6) ((L0.getD v2 R_iiiiiiiA.z).a7) ((L1.getD v2 R_iiiiiiiA.z).a0) ((L1.getD v2 R_iiiiiiiA.z).a1) ((L1.getD v2 R_iiiiiiiA.z).a2) ((L1.getD v2 R_iiiiiiiA.z).a3) ((L1.getD v2 R_iiiiiiiA.z).a4) ((L1.getD v2 R_iiiiiiiA.z).a5) ((L1.getD v2 R_iiiiiiiA.z).a6) ((L1.getD v2 R_iiiiiiiA.z).a7)  y2_0 N c2  2 rfl (by decide) (by decide))) <| Za (Zh (E := E_iiiiiiiA) (L := L1) (i := v2) (q := 0) (by omega) (show (0 + (v2 * 8)) = v2 * 8 + 0 from by omega) (show 0 + 8 ≤ 8 from by decide) rfl rfl) <| oB <| oI <| Za (Zh (E := E_iiiiiiiA) (L := L0) (i := v2) (q := 0) (by omega) (show (0 + (v2 * 8)) = v2 * 8 + 0 from by omega) (show 0 + 8 ≤ 8 from by decide) rfl rfl) <| oB <| oI <| oY Zg) rfl (by decide) (by rfl) rr ⟨(Ze (E := E_iiiiiiiA) (α := R_iiiiiiiA) _ L0 _), ⟨(Ze (E := E_iiiiiiiA) (α := R_iiiiiiiA) _ L1 _), trivial⟩⟩
    ·
     refine Mach.ok_ite (fun g4 => ?_) (fun g4 => ?_)
     ·
      exact Mach.ok_next (M := Zbf L0 L1 N) (cd := 1000000) (cm := 0) (y := (.h1m0 ((v2 + 1)) : Zaa)) (fu := 4000) (orc := (Zp [(0, true), (1, false)] [(0, (((v2 + 1) : Nat) : Int))] [(0, v2), (1, v2)] [(0, [.i (L0.getD v2 R_iiiiiiiA.z).a0, .i (L0.getD v2 R_iiiiiiiA.z).a1, .i (L0.getD v2 R_iiiiiiiA.z).a2, .i (L0.getD v2 R_iiiiiiiA.z).a3, .i (L0.getD v2 R_iiiiiiiA.z).a4, .i (L0.getD v2 R_iiiiiiiA.z).a5, .i (L0.getD v2 R_iiiiiiiA.z).a6, (mc E_ii (L0.getD v2 R_iiiiiiiA.z).a7)]), (1, [.i (L1.getD v2 R_iiiiiiiA.z).a0, .i (L1.getD v2 R_iiiiiiiA.z).a1, .i (L1.getD v2 R_iiiiiiiA.z).a2, .i (L1.getD v2 R_iiiiiiiA.z).a3, .i (L1.getD v2 R_iiiiiiiA.z).a4, .i (L1.getD v2 R_iiiiiiiA.z).a5, .i (L1.getD v2 R_iiiiiiiA.z).a6, (mc E_ii (L1.getD v2 R_iiiiiiiA.z).a7)])] [(0, (ZgT ((L0.getD v2 R_iiiiiiiA.z).a0) ((L0.getD v2 R_iiiiiiiA.z).a1) ((L0.getD v2 R_iiiiiiiA.z).a2) ((L0.getD v2 R_iiiiiiiA.z).a3) ((L0.getD v2 R_iiiiiiiA.z).a4) ((L0.getD v2 R_iiiiiiiA.z).a5) ((L0.getD v2 R_iiiiiiiA.z).a6) ((L0.getD v2 R_iiiiiiiA.z).a7) ((L1.getD v2 R_iiiiiiiA.z).a0) ((L1.getD v2 R_iiiiiiiA.z).a1) ((L1.getD v2 R_iiiiiiiA.z).a2) ((L1.getD v2 R_iiiiiiiA.z).a3) ((L1.getD v2 R_iiiiiiiA.z).a4) ((L1.getD v2 R_iiiiiiiA.z).a5) ((L1.getD v2 R_iiiiiiiA.z).a6) ((L1.getD v2 R_iiiiiiiA.z).a7)  y2_0  2))])) (live := [0, 1]) (tv := fun _ => [some (vs 0 0 L0.length L0.length), some (vs 1 0 L1.length L1.length), some (vi (((v2 + 1) : Nat) : Int))]) (bl := [some (.cells (Zb E_iiiiiiiA L0) 34), some (.cells (Zb E_iiiiiiiA L1) 34)]) (ob := [((IntKind.i64.wrap ((v2 : Int) + (1 : Int))) == (((v2 + 1) : Nat) : Int), true), ((!y2_0), false), (dP (ZeY #[Value.agg #[vi (L0.getD v2 R_iiiiiiiA.z).a0, vi (L0.getD v2 R_iiiiiiiA.z).a1, vi (L0.getD v2 R_iiiiiiiA.z).a2, vi (L0.getD v2 R_iiiiiiiA.z).a3, vi (L0.getD v2 R_iiiiiiiA.z).a4, vi (L0.getD v2 R_iiiiiiiA.z).a5, vi (L0.getD v2 R_iiiiiiiA.z).a6, ms E_ii (L0.getD v2 R_iiiiiiiA.z).a7], Value.agg #[vi (L1.getD v2 R_iiiiiiiA.z).a0, vi (L1.getD v2 R_iiiiiiiA.z).a1, vi (L1.getD v2 R_iiiiiiiA.z).a2, vi (L1.getD v2 R_iiiiiiiA.z).a3, vi (L1.getD v2 R_iiiiiiiA.z).a4, vi (L1.getD v2 R_iiiiiiiA.z).a5, vi (L1.getD v2 R_iiiiiiiA.z).a6, ms E_ii (L1.getD v2 R_iiiiiiiA.z).a7]] ((L0.getD v2 R_iiiiiiiA.z).a0) ((L0.getD v2 R_iiiiiiiA.z).a1) ((L0.getD v2 R_iiiiiiiA.z).a2) ((L0.getD v2 R_iiiiiiiA.z).a3) ((L0.getD v2 R_iiiiiiiA.z).a4) ((L0.getD v2 R_iiiiiiiA.z).a5) ((L0.getD v2 R_iiiiiiiA.z).a6) ((L0.getD v2 R_iiiiiiiA.z).a7) ((L1.getD v2 R_iiiiiiiA.z).a0) ((L1.getD v2 R_iiiiiiiA.z).a1) ((L1.getD v2 R_iiiiiiiA.z).a2) ((L1.getD v2 R_iiiiiiiA.z).a3) ((L1.getD v2 R_iiiiiiiA.z).a4) ((L1.getD v2 R_iiiiiiiA.z).a5) ((L1.getD v2 R_iiiiiiiA.z).a6) ((L1.getD v2 R_iiiiiiiA.z).a7)  y2_0  2), true), (Zs (Zl 8 (List.drop (0 + (v2 * 8)) (Zb E_iiiiiiiA L1))) [.i (L1.getD v2 R_iiiiiiiA.z).a0, .i (L1.getD v2 R_iiiiiiiA.z).a1, .i (L1.getD v2 R_iiiiiiiA.z).a2, .i (L1.getD v2 R_iiiiiiiA.z).a3, .i (L1.getD v2 R_iiiiiiiA.z).a4, .i (L1.getD v2 R_iiiiiiiA.z).a5, .i (L1.getD v2 R_iiiiiiiA.z).a6, (mc E_ii (L1.getD v2 R_iiiiiiiA.z).a7)], true), (Nat.blt v2 L1.length, true), ((v2 : Int) == Int.ofNat v2, true), (Zs (Zl 8 (List.drop (0 + (v2 * 8)) (Zb E_iiiiiiiA L0))) [.i (L0.getD v2 R_iiiiiiiA.z).a0, .i (L0.getD v2 R_iiiiiiiA.z).a1, .i (L0.getD v2 R_iiiiiiiA.z).a2, .i (L0.getD v2 R_iiiiiiiA.z).a3, .i (L0.getD v2 R_iiiiiiiA.z).a4, .i (L0.getD v2 R_iiiiiiiA.z).a5, .i (L0.getD v2 R_iiiiiiiA.z).a6, (mc E_ii (L0.getD v2 R_iiiiiiiA.z).a7)], true), (Nat.blt v2 L0.length, true), ((v2 : Int) == Int.ofNat v2, true), ((decide ((v2 : Int) < (L0.length : Int))), true)]) rfl (show 1 ∈ Zw (Zmx 1) from by decide +kernel) (fun gv => by kernel_rfl) (Za (beq_iff_eq.2 ((wrap_i64 ltA).trans (by first | rfl | omega))) <| Za (Zcf (by first | assumption | exact Decidable.not_not.1 (by assumption) | simp_all)) <| Za (Zd (ZgU #[Value.agg #[vi (L0.getD v2 R_iiiiiiiA.z).a0, vi (L0.getD v2 R_iiiiiiiA.z).a1, vi (L0.getD v2 R_iiiiiiiA.z).a2, vi (L0.getD v2 R_iiiiiiiA.z).a3, vi (L0.getD v2 R_iiiiiiiA.z).a4, vi (L0.getD v2 R_iiiiiiiA.z).a5, vi (L0.getD v2 R_iiiiiiiA.z).a6, ms E_ii (L0.getD v2 R_iiiiiiiA.z).a7], Value.agg #[vi (L1.getD v2 R_iiiiiiiA.z).a0, vi (L1.getD v2 R_iiiiiiiA.z).a1, vi (L1.getD v2 R_iiiiiiiA.z).a2, vi (L1.getD v2 R_iiiiiiiA.z).a3, vi (L1.getD v2 R_iiiiiiiA.z).a4, vi (L1.getD v2 R_iiiiiiiA.z).a5, vi (L1.getD v2 R_iiiiiiiA.z).a6, ms E_ii (L1.getD v2 R_iiiiiiiA.z).a7]] ((L0.getD v2 R_iiiiiiiA.z).a0) ((L0.getD v2 R_iiiiiiiA.z).a1) ((L0.getD v2 R_iiiiiiiA.z).a2) ((L0.getD v2 R_iiiiiiiA.z).a3) ((L0.getD v2 R_iiiiiiiA.z).a4) ((L0.getD v2 R_iiiiiiiA.z).a5) ((L0.getD v2 R_iiiiiiiA.z).a6) ((L0.getD v2 R_iiiiiiiA.z).a7) ((L1.getD v2 R_iiiiiiiA.z).a0) ((L1.getD v2 R_iiiiiiiA.z).a1) ((L1.getD v2 R_iiiiiiiA.z).a2) ((L1.getD v2 R_iiiiiiiA.z).a3) ((L1.getD v2 R_iiiiiiiA.z).a4) ((L1.getD v2 R_iiiiiiiA.z).a5) ((L1.getD v2 R_iiiiiiiA.z).a6) ((L1.getD v2 R_iiiiiiiA.z).a7)  y2_0 N c2  2 rfl (by decide) (by decide))) <| Za (Zh (E := E_iiiiiiiA) (L := L1) (i := v2) (q := 0) (by omega) (show (0 + (v2 * 8)) = v2 * 8 + 0 from by omega) (show 0 + 8 ≤ 8 from by decide) rfl rfl) <| oB <| oI <| Za (Zh (E := E_iiiiiiiA) (L := L0) (i := v2) (q := 0) (by omega) (show (0 + (v2 * 8)) = v2 * 8 + 0 from by omega) (show 0 + 8 ≤ 8 from by decide) rfl rfl) <| oB <| oI <| oY Zg) rfl (by decide) (by rfl) (fun _ => ⟨rr, ⟨rr, ⟨rr, trivial⟩⟩⟩) ⟨(Ze (E := E_iiiiiiiA) (α := R_iiiiiiiA) _ L0 _), ⟨(Ze (E := E_iiiiiiiA) (α := R_iiiiiiiA) _ L1 _), trivial⟩⟩
     ·
      exact Mach.ok_none
  ·
   exact Mach.ok_none
 ·
  exact Mach.ok_fin (M := Zbf L0 L1 N) (cd := 1000000) (cm := 0) (r := (.r0 (true) : Zav)) (fu := 4000) (orc := (Zp [(0, false)] [] [] [] [])) (live := [0, 1]) (u := vT) (bl := [some (.cells (Zb E_iiiiiiiA L0) 34), some (.cells (Zb E_iiiiiiiA L1) 34)]) (ob := [((decide ((v2 : Int) < (L0.length : Int))), false)]) (fun gv => by kernel_rfl) (oN Zg) rfl (by decide) (by rfl) rr ⟨(Ze (E := E_iiiiiiiA) (α := R_iiiiiiiA) _ L0 _), ⟨(Ze (E := E_iiiiiiiA) (α := R_iiiiiiiA) _ L1 _), trivial⟩⟩

theorem Zlp (L0 L1 : List R_iiiiiiiA) (N : Nat) : (Zbf L0 L1 N).Enter Try.prog Zq #[vs 0 0 L0.length L0.length, vs 1 0 L1.length L1.length] (ZdB L0 L1 N) := by
 unfold ZdB
 refine Mach.en_ite (fun g0 => ?_) (fun g0 => ?_)
 ·
  exact Mach.en_fin (M := Zbf L0 L1 N) (cd := 1000000) (cm := 0) (r := (.r0 (false) : Zav)) (fu := 4000) (orc := (Zp [(0, true)] [] [] [] [])) (live := [0, 1]) (u := vf) (bl := [some (.cells (Zb E_iiiiiiiA L0) 34), some (.cells (Zb E_iiiiiiiA L1) 34)]) (ob := [(((L0.length : Int) != (L1.length : Int)), true)]) (by kernel_rfl) (oD Zg) rfl (by decide) (by rfl) rr ⟨(Ze (E := E_iiiiiiiA) (α := R_iiiiiiiA) _ L0 _), ⟨(Ze (E := E_iiiiiiiA) (α := R_iiiiiiiA) _ L1 _), trivial⟩⟩
 ·
  exact Mach.en_head (bK := Zc6 1) (M := Zbf L0 L1 N) (cd := 1000000) (cm := 0) (y := (.h1m0 (0) : Zaa)) (fu := 4000) (orc := (Zp [(0, false)] [] [] [] [])) (live := [0, 1]) (tv := [some (vs 0 0 L0.length L0.length), some (vs 1 0 L1.length L1.length), some (vq)]) (bl := [some (.cells (Zb E_iiiiiiiA L0) 34), some (.cells (Zb E_iiiiiiiA L1) 34)]) (ob := [(((L0.length : Int) != (L1.length : Int)), false)]) rfl rfl (show Zw (Zc6 1).2 = [] from rfl) (by kernel_rfl) (oE Zg) rfl (by decide) (by rfl) ⟨rr, ⟨rr, ⟨⟨Eq.trans (show (vi ((0 : Nat) : Int) : Value) = vq from (congrArg (Value.int .i64) (by first | rfl | omega))) (by rfl), by rfl⟩, trivial⟩⟩⟩ ⟨(Ze (E := E_iiiiiiiA) (α := R_iiiiiiiA) _ L0 _), ⟨(Ze (E := E_iiiiiiiA) (α := R_iiiiiiiA) _ L1 _), trivial⟩⟩

theorem Zka (L0 L1 : List R_iiiiiiiA) (N : Nat) (r : Zav) (h : Zey L0 L1 N = some r) : LSpec Try.prog 11 #[vs 0 0 L0.length L0.length, vs 1 0 L1.length L1.length] [.cells (Zb E_iiiiiiiA L0) 34, .cells (Zb E_iiiiiiiA L1) 34] (Zif L0 L1 r) (Zho L0 L1 r) :=
 Mach.spec Zb0 (Zbf L0 L1 N) Try.func11 (by kernel_rfl) (by kernel_rfl) (fun x => by cases x <;> exact Zae _ rfl) (fun r => by cases r <;> exact Zae _ rfl) (fun x => by
  cases x with
  | h1m0 _ => exact fun _ => (show ¬ (1 ∈ Zw (Zc6 1).2) from by decide +kernel)
  ) (fun x => (show (Zbf L0 L1 N).Ok Try.prog Zq x (Zc1 L0 L1 N x) from by
  cases x with
  | h1m0 v2 => exact Zjz L0 L1 v2 N
  )) (Zlp L0 L1 N) (n := N) h

noncomputable def ZdE (L0 L1 : List R_iiiiiiiA) (w2 : Bool) (k0 k1 n : Nat) : Zbp := .call [(k0, .cells (Zb E_iiiiiiiA L0) 34), (k1, .cells (Zb E_iiiiiiiA L1) 34)] (Value.bool w2) [] 0
def ZcP (A : Array Value) (L0 L1 : List R_iiiiiiiA) (w2 : Bool) (k0 k1 n : Nat) : Prop := ZC Try.prog 11 A [(k0, .cells (Zb E_iiiiiiiA L0) 34), (k1, .cells (Zb E_iiiiiiiA L1) 34)] (Value.bool w2) [] n 0

theorem ZdF (A : Array Value) (L0 L1 : List R_iiiiiiiA) (w2 : Bool) (N : Nat) (h : Zey L0 L1 N = some (.r0 w2)) (k0 k1 n : Nat) (hA : A = #[vs k0 0 L0.length L0.length, vs k1 0 L1.length L1.length]) (hnd : ([k0, k1] : List Nat).Nodup) (hlt : ∀ k ∈ ([k0, k1] : List Nat), k < n) : ZcP A L0 L1 w2 k0 k1 n :=
 Zan hA (LSpec.callL (show LSpec Try.prog 11 #[vs 0 0 L0.length L0.length, vs 1 0 L1.length L1.length] [.cells (Zb E_iiiiiiiA L0) 34, .cells (Zb E_iiiiiiiA L1) 34] (Value.bool w2) [some (.cells (Zb E_iiiiiiiA L0) 34), some (.cells (Zb E_iiiiiiiA L1) 34)] from Zka L0 L1 N _ h) [k0, k1] n [] rfl hnd hlt (show 2 ≤ 2 from by decide) (show ∀ j ∈ ([] : List Nat), j < 2 from by decide) (by rfl) ⟨(Zt _ _ _), ⟨(Zt _ _ _), trivial⟩⟩ (by rfl) ⟨(Zt _ _ _), ⟨(Zt _ _ _), trivial⟩⟩ ⟨.inr rfl, ⟨.inr rfl, trivial⟩⟩ rfl rfl rfl (Zf (Zk rfl (ZD _ _ _)) (Zf (Zk rfl (ZD _ _ _)) rfl)) rfl)

noncomputable def Zhq (L0 : List R_iiiiiiiA) (L1 : List R_ii) : Zv → Value
 | .r0 w0 => Value.bool w0
noncomputable def ZgV (L0 : List R_iiiiiiiA) (L1 : List R_ii) : Zv → List (Option AObj)
 | .r0 w0 => []

theorem Zkz (L0 : List R_iiiiiiiA) (L1 : List R_ii) (N : Nat) : Fx Try.prog Zq Try.f4 [] #[ms E_iiiiiiiA L0, ms E_ii L1] (Zhq L0 L1) (ZgV L0 L1) (Zdg L0 L1 N) := by
 unfold Zdg
 refine ZaV (fun z0 c0 => ?_)
 cases z0 with
 | r0 =>
  refine ZaV (fun z1 c1 => ?_)
  cases z1 with
  | r0 y1_0 =>
   refine ZaV (fun z2 c2 => ?_)
   cases z2 with
   | r0 y2_0 =>
    refine ZaV (fun z3 c3 => ?_)
    cases z3 with
    | r0 y3_0 =>
     refine ZaV (fun z4 c4 => ?_)
     cases z4 with
     | r0 =>
      refine ZaV (fun z5 c5 => ?_)
      cases z5 with
      | r0 y5_0 =>
       refine Zam (fun g6 => ?_) (fun g6 => ?_)
       ·
        subst g6
        refine ZaV (fun z7 c7 => ?_)
        cases z7 with
        | r0 y7_0 =>
         refine Zam (fun g8 => ?_) (fun g8 => ?_)
         ·
          subst g8
          exact Zau (r := (.r0 (true) : Zv)) (fu := 4000) (orc := (Zp [] [] [] [] [(0, (ZiI (L0)    0)), (1, (ZaZ (L1)  y1_0  0)), (2, (ZT (y1_0)  y2_0  0)), (3, (ZT (y2_0)  y3_0  0)), (4, (ZcF     0)), (5, (Zbl (y2_0) (y3_0)  true  0)), (6, (Zkm (y1_0) (y2_0)  true  0))])) (live := []) (u := vT) (bl := []) (ob := [(dP (Zhd #[vn, ms E_ii y1_0, vn, ms E_ii y2_0] (y1_0) (y2_0)  true  0), true), (dP (Zbb #[ms E_ii y2_0, ms E_ii y3_0] (y2_0) (y3_0)  true  0), true), (dP (Zcq #[vn, vn]     0), true), (dP (ZO #[vn, ms E_ii y2_0] (y2_0)  y3_0  0), true), (dP (ZO #[vn, ms E_ii y1_0] (y1_0)  y2_0  0), true), (dP (ZaM #[ms E_ii L1] (L1)  y1_0  0), true), (dP (Zg9 #[ms E_iiiiiiiA L0] (L0)    0), true)]) (by kernel_rfl) (Za (Zd (Zkn #[vn, ms E_ii y1_0, vn, ms E_ii y2_0] (y1_0) (y2_0)  true N c7  0 rfl (by decide) (by decide))) <| Za (Zd (Zbm #[ms E_ii y2_0, ms E_ii y3_0] (y2_0) (y3_0)  true N c5  0 rfl (by decide) (by decide))) <| Za (Zd (ZcG #[vn, vn]    N c4  0 rfl (by decide) (by decide))) <| Za (Zd (ZU #[vn, ms E_ii y2_0] (y2_0)  y3_0 N c3  0 rfl (by decide) (by decide))) <| Za (Zd (ZU #[vn, ms E_ii y1_0] (y1_0)  y2_0 N c2  0 rfl (by decide) (by decide))) <| Za (Zd (Zba #[ms E_ii L1] (L1)  y1_0 N c1  0 rfl (by decide) (by decide))) <| Za (Zd (ZiJ #[ms E_iiiiiiiA L0] (L0)   N c0  0 rfl (by decide) (by decide))) Zg) rfl (by decide) (by rfl) rr trivial
         ·
          obtain rfl : y7_0 = false := by simpa using g8
          exact Zau (r := (.r0 (false) : Zv)) (fu := 4000) (orc := (Zp [] [] [] [] [(0, (ZiI (L0)    0)), (1, (ZaZ (L1)  y1_0  0)), (2, (ZT (y1_0)  y2_0  0)), (3, (ZT (y2_0)  y3_0  0)), (4, (ZcF     0)), (5, (Zbl (y2_0) (y3_0)  true  0)), (6, (Zkm (y1_0) (y2_0)  false  0))])) (live := []) (u := vf) (bl := []) (ob := [(dP (Zhd #[vn, ms E_ii y1_0, vn, ms E_ii y2_0] (y1_0) (y2_0)  false  0), true), (dP (Zbb #[ms E_ii y2_0, ms E_ii y3_0] (y2_0) (y3_0)  true  0), true), (dP (Zcq #[vn, vn]     0), true), (dP (ZO #[vn, ms E_ii y2_0] (y2_0)  y3_0  0), true), (dP (ZO #[vn, ms E_ii y1_0] (y1_0)  y2_0  0), true), (dP (ZaM #[ms E_ii L1] (L1)  y1_0  0), true), (dP (Zg9 #[ms E_iiiiiiiA L0] (L0)    0), true)]) (by kernel_rfl) (Za (Zd (Zkn #[vn, ms E_ii y1_0, vn, ms E_ii y2_0] (y1_0) (y2_0)  false N c7  0 rfl (by decide) (by decide))) <| Za (Zd (Zbm #[ms E_ii y2_0, ms E_ii y3_0] (y2_0) (y3_0)  true N c5  0 rfl (by decide) (by decide))) <| Za (Zd (ZcG #[vn, vn]    N c4  0 rfl (by decide) (by decide))) <| Za (Zd (ZU #[vn, ms E_ii y2_0] (y2_0)  y3_0 N c3  0 rfl (by decide) (by decide))) <| Za (Zd (ZU #[vn, ms E_ii y1_0] (y1_0)  y2_0 N c2  0 rfl (by decide) (by decide))) <| Za (Zd (Zba #[ms E_ii L1] (L1)  y1_0 N c1  0 rfl (by decide) (by decide))) <| Za (Zd (ZiJ #[ms E_iiiiiiiA L0] (L0)   N c0  0 rfl (by decide) (by decide))) Zg) rfl (by decide) (by rfl) rr trivial
       ·
        obtain rfl : y5_0 = false := by simpa using g6
        exact Zau (r := (.r0 (false) : Zv)) (fu := 4000) (orc := (Zp [] [] [] [] [(0, (ZiI (L0)    0)), (1, (ZaZ (L1)  y1_0  0)), (2, (ZT (y1_0)  y2_0  0)), (3, (ZT (y2_0)  y3_0  0)), (4, (ZcF     0)), (5, (Zbl (y2_0) (y3_0)  false  0))])) (live := []) (u := vf) (bl := []) (ob := [(dP (Zbb #[ms E_ii y2_0, ms E_ii y3_0] (y2_0) (y3_0)  false  0), true), (dP (Zcq #[vn, vn]     0), true), (dP (ZO #[vn, ms E_ii y2_0] (y2_0)  y3_0  0), true), (dP (ZO #[vn, ms E_ii y1_0] (y1_0)  y2_0  0), true), (dP (ZaM #[ms E_ii L1] (L1)  y1_0  0), true), (dP (Zg9 #[ms E_iiiiiiiA L0] (L0)    0), true)]) (by kernel_rfl) (Za (Zd (Zbm #[ms E_ii y2_0, ms E_ii y3_0] (y2_0) (y3_0)  false N c5  0 rfl (by decide) (by decide))) <| Za (Zd (ZcG #[vn, vn]    N c4  0 rfl (by decide) (by decide))) <| Za (Zd (ZU #[vn, ms E_ii y2_0] (y2_0)  y3_0 N c3  0 rfl (by decide) (by decide))) <| Za (Zd (ZU #[vn, ms E_ii y1_0] (y1_0)  y2_0 N c2  0 rfl (by decide) (by decide))) <| Za (Zd (Zba #[ms E_ii L1] (L1)  y1_0 N c1  0 rfl (by decide) (by decide))) <| Za (Zd (ZiJ #[ms E_iiiiiiiA L0] (L0)   N c0  0 rfl (by decide) (by decide))) Zg) rfl (by decide) (by rfl) rr trivial
 | r1 y0_0 =>
  refine ZaV (fun z1 c1 => ?_)
  cases z1 with
  | r0 y1_0 =>
   refine ZaV (fun z2 c2 => ?_)
   cases z2 with
   | r0 y2_0 =>
    refine ZaV (fun z3 c3 => ?_)
    cases z3 with
    | r0 y3_0 =>
     refine ZaV (fun z4 c4 => ?_)
     cases z4 with
     | r0 =>
      refine ZaV (fun z5 c5 => ?_)
      cases z5 with
      | r0 y5_0 =>
       refine Zam (fun g6 => ?_) (fun g6 => ?_)
       ·
        subst g6
        refine ZaV (fun z7 c7 => ?_)
        cases z7 with
        | r0 y7_0 =>
         refine Zam (fun g8 => ?_) (fun g8 => ?_)
         ·
          subst g8
          exact Zau (r := (.r0 (true) : Zv)) (fu := 4000) (orc := (Zp [] [] [] [] [(0, (ZbZ (L0)  y0_0  0)), (1, (ZaZ (L1)  y1_0  1)), (2, (ZF (y0_0) (y1_0)  y2_0 0 1)), (3, (ZT (y2_0)  y3_0  1)), (4, (ZcF     1)), (5, (Zbl (y2_0) (y3_0)  true  1)), (6, (Zi5 (y0_0) (y1_0) (y2_0)  true 0 1))])) (live := []) (u := vT) (bl := []) (ob := [(dP (Zgq #[vs 0 0 y0_0.length y0_0.length, ms E_ii y1_0, vn, ms E_ii y2_0] (y0_0) (y1_0) (y2_0)  true 0 1), true), (dS (Zb E_iiiiiiiA y0_0), true), (dP (Zbb #[ms E_ii y2_0, ms E_ii y3_0] (y2_0) (y3_0)  true  1), true), (dP (Zcq #[vn, vn]     1), true), (dP (ZO #[vn, ms E_ii y2_0] (y2_0)  y3_0  1), true), (dP (ZE #[vs 0 0 y0_0.length y0_0.length, ms E_ii y1_0] (y0_0) (y1_0)  y2_0 0 1), true), (dS (Zb E_iiiiiiiA y0_0), true), (dP (ZaM #[ms E_ii L1] (L1)  y1_0  1), true), (dP (ZbR #[ms E_iiiiiiiA L0] (L0)  y0_0  0), true)]) (by kernel_rfl) (Za (Zd (Zi6 #[vs 0 0 y0_0.length y0_0.length, ms E_ii y1_0, vn, ms E_ii y2_0] (y0_0) (y1_0) (y2_0)  true N c7 0 1 rfl (by decide) (by decide))) <| oR <| Za (Zd (Zbm #[ms E_ii y2_0, ms E_ii y3_0] (y2_0) (y3_0)  true N c5  1 rfl (by decide) (by decide))) <| Za (Zd (ZcG #[vn, vn]    N c4  1 rfl (by decide) (by decide))) <| Za (Zd (ZU #[vn, ms E_ii y2_0] (y2_0)  y3_0 N c3  1 rfl (by decide) (by decide))) <| Za (Zd (ZG #[vs 0 0 y0_0.length y0_0.length, ms E_ii y1_0] (y0_0) (y1_0)  y2_0 N c2 0 1 rfl (by decide) (by decide))) <| oR <| Za (Zd (Zba #[ms E_ii L1] (L1)  y1_0 N c1  1 rfl (by decide) (by decide))) <| Za (Zd (Zca #[ms E_iiiiiiiA L0] (L0)  y0_0 N c0  0 rfl (by decide) (by decide))) Zg) rfl (by decide) (by rfl) rr trivial
         ·
          obtain rfl : y7_0 = false := by simpa using g8
          exact Zau (r := (.r0 (false) : Zv)) (fu := 4000) (orc := (Zp [] [] [] [] [(0, (ZbZ (L0)  y0_0  0)), (1, (ZaZ (L1)  y1_0  1)), (2, (ZF (y0_0) (y1_0)  y2_0 0 1)), (3, (ZT (y2_0)  y3_0  1)), (4, (ZcF     1)), (5, (Zbl (y2_0) (y3_0)  true  1)), (6, (Zi5 (y0_0) (y1_0) (y2_0)  false 0 1))])) (live := []) (u := vf) (bl := []) (ob := [(dP (Zgq #[vs 0 0 y0_0.length y0_0.length, ms E_ii y1_0, vn, ms E_ii y2_0] (y0_0) (y1_0) (y2_0)  false 0 1), true), (dS (Zb E_iiiiiiiA y0_0), true), (dP (Zbb #[ms E_ii y2_0, ms E_ii y3_0] (y2_0) (y3_0)  true  1), true), (dP (Zcq #[vn, vn]     1), true), (dP (ZO #[vn, ms E_ii y2_0] (y2_0)  y3_0  1), true), (dP (ZE #[vs 0 0 y0_0.length y0_0.length, ms E_ii y1_0] (y0_0) (y1_0)  y2_0 0 1), true), (dS (Zb E_iiiiiiiA y0_0), true), (dP (ZaM #[ms E_ii L1] (L1)  y1_0  1), true), (dP (ZbR #[ms E_iiiiiiiA L0] (L0)  y0_0  0), true)]) (by kernel_rfl) (Za (Zd (Zi6 #[vs 0 0 y0_0.length y0_0.length, ms E_ii y1_0, vn, ms E_ii y2_0] (y0_0) (y1_0) (y2_0)  false N c7 0 1 rfl (by decide) (by decide))) <| oR <| Za (Zd (Zbm #[ms E_ii y2_0, ms E_ii y3_0] (y2_0) (y3_0)  true N c5  1 rfl (by decide) (by decide))) <| Za (Zd (ZcG #[vn, vn]    N c4  1 rfl (by decide) (by decide))) <| Za (Zd (ZU #[vn, ms E_ii y2_0] (y2_0)  y3_0 N c3  1 rfl (by decide) (by decide))) <| Za (Zd (ZG #[vs 0 0 y0_0.length y0_0.length, ms E_ii y1_0] (y0_0) (y1_0)  y2_0 N c2 0 1 rfl (by decide) (by decide))) <| oR <| Za (Zd (Zba #[ms E_ii L1] (L1)  y1_0 N c1  1 rfl (by decide) (by decide))) <| Za (Zd (Zca #[ms E_iiiiiiiA L0] (L0)  y0_0 N c0  0 rfl (by decide) (by decide))) Zg) rfl (by decide) (by rfl) rr trivial
       ·
        obtain rfl : y5_0 = false := by simpa using g6
        exact Zau (r := (.r0 (false) : Zv)) (fu := 4000) (orc := (Zp [] [] [] [] [(0, (ZbZ (L0)  y0_0  0)), (1, (ZaZ (L1)  y1_0  1)), (2, (ZF (y0_0) (y1_0)  y2_0 0 1)), (3, (ZT (y2_0)  y3_0  1)), (4, (ZcF     1)), (5, (Zbl (y2_0) (y3_0)  false  1))])) (live := []) (u := vf) (bl := []) (ob := [(dP (Zbb #[ms E_ii y2_0, ms E_ii y3_0] (y2_0) (y3_0)  false  1), true), (dP (Zcq #[vn, vn]     1), true), (dP (ZO #[vn, ms E_ii y2_0] (y2_0)  y3_0  1), true), (dP (ZE #[vs 0 0 y0_0.length y0_0.length, ms E_ii y1_0] (y0_0) (y1_0)  y2_0 0 1), true), (dS (Zb E_iiiiiiiA y0_0), true), (dP (ZaM #[ms E_ii L1] (L1)  y1_0  1), true), (dP (ZbR #[ms E_iiiiiiiA L0] (L0)  y0_0  0), true)]) (by kernel_rfl) (Za (Zd (Zbm #[ms E_ii y2_0, ms E_ii y3_0] (y2_0) (y3_0)  false N c5  1 rfl (by decide) (by decide))) <| Za (Zd (ZcG #[vn, vn]    N c4  1 rfl (by decide) (by decide))) <| Za (Zd (ZU #[vn, ms E_ii y2_0] (y2_0)  y3_0 N c3  1 rfl (by decide) (by decide))) <| Za (Zd (ZG #[vs 0 0 y0_0.length y0_0.length, ms E_ii y1_0] (y0_0) (y1_0)  y2_0 N c2 0 1 rfl (by decide) (by decide))) <| oR <| Za (Zd (Zba #[ms E_ii L1] (L1)  y1_0 N c1  1 rfl (by decide) (by decide))) <| Za (Zd (Zca #[ms E_iiiiiiiA L0] (L0)  y0_0 N c0  0 rfl (by decide) (by decide))) Zg) rfl (by decide) (by rfl) rr trivial
   | r1 y2_0 y2_1 =>
    refine ZaV (fun z3 c3 => ?_)
    cases z3 with
    | r0 y3_0 =>
     refine ZaV (fun z4 c4 => ?_)
     cases z4 with
     | r0 y4_0 =>
      refine Zam (fun g5 => ?_) (fun g5 => ?_)
      ·
       subst g5
       refine ZaV (fun z6 c6 => ?_)
       cases z6 with
       | r0 y6_0 =>
        refine Zam (fun g7 => ?_) (fun g7 => ?_)
        ·
         subst g7
         refine ZaV (fun z8 c8 => ?_)
         cases z8 with
         | r0 y8_0 =>
          refine Zam (fun g9 => ?_) (fun g9 => ?_)
          ·
           subst g9
           exact Zau (r := (.r0 (true) : Zv)) (fu := 4000) (orc := (Zp [] [] [] [] [(0, (ZbZ (L0)  y0_0  0)), (1, (ZaZ (L1)  y1_0  1)), (2, (Z5 (y0_0) (y1_0)  y2_0 y2_1 0 1)), (3, (ZF (y2_0) (y2_1)  y3_0 1 2)), (4, (ZdC (y2_0)  true 1 2)), (5, (Zbl (y2_1) (y3_0)  true  2)), (6, (Ze1 (y0_0) (y1_0) (y2_0) (y2_1)  true 0 1 2))])) (live := []) (u := vT) (bl := []) (ob := [(dP (Zd2 #[vs 0 0 y0_0.length y0_0.length, ms E_ii y1_0, vs 1 0 y2_0.length y2_0.length, ms E_ii y2_1] (y0_0) (y1_0) (y2_0) (y2_1)  true 0 1 2), true), (dS (Zb E_iiiiiiiA y0_0), true), (dS (Zb E_iiiiiiiA y2_0), true), (dP (Zbb #[ms E_ii y2_1, ms E_ii y3_0] (y2_1) (y3_0)  true  2), true), (dP (ZcO #[vs 1 0 y2_0.length y2_0.length, vn] (y2_0)  true 1 2), true), (dS (Zb E_iiiiiiiA y2_0), true), (dP (ZE #[vs 1 0 y2_0.length y2_0.length, ms E_ii y2_1] (y2_0) (y2_1)  y3_0 1 2), true), (dS (Zb E_iiiiiiiA y2_0), true), (dP (Z3 #[vs 0 0 y0_0.length y0_0.length, ms E_ii y1_0] (y0_0) (y1_0)  y2_0 y2_1 0 1), true), (dS (Zb E_iiiiiiiA y0_0), true), (dP (ZaM #[ms E_ii L1] (L1)  y1_0  1), true), (dP (ZbR #[ms E_iiiiiiiA L0] (L0)  y0_0  0), true)]) (by kernel_rfl) (Za (Zd (Ze2 #[vs 0 0 y0_0.length y0_0.length, ms E_ii y1_0, vs 1 0 y2_0.length y2_0.length, ms E_ii y2_1] (y0_0) (y1_0) (y2_0) (y2_1)  true N c8 0 1 2 rfl (by decide) (by decide))) <| oR <| oR <| Za (Zd (Zbm #[ms E_ii y2_1, ms E_ii y3_0] (y2_1) (y3_0)  true N c6  2 rfl (by decide) (by decide))) <| Za (Zd (ZdD #[vs 1 0 y2_0.length y2_0.length, vn] (y2_0)  true N c4 1 2 rfl (by decide) (by decide))) <| oR <| Za (Zd (ZG #[vs 1 0 y2_0.length y2_0.length, ms E_ii y2_1] (y2_0) (y2_1)  y3_0 N c3 1 2 rfl (by decide) (by decide))) <| oR <| Za (Zd (Z6 #[vs 0 0 y0_0.length y0_0.length, ms E_ii y1_0] (y0_0) (y1_0)  y2_0 y2_1 N c2 0 1 rfl (by decide) (by decide))) <| oR <| Za (Zd (Zba #[ms E_ii L1] (L1)  y1_0 N c1  1 rfl (by decide) (by decide))) <| Za (Zd (Zca #[ms E_iiiiiiiA L0] (L0)  y0_0 N c0  0 rfl (by decide) (by decide))) Zg) rfl (by decide) (by rfl) rr trivial
          ·
           obtain rfl : y8_0 = false := by simpa using g9
           exact Zau (r := (.r0 (false) : Zv)) (fu := 4000) (orc := (Zp [] [] [] [] [(0, (ZbZ (L0)  y0_0  0)), (1, (ZaZ (L1)  y1_0  1)), (2, (Z5 (y0_0) (y1_0)  y2_0 y2_1 0 1)), (3, (ZF (y2_0) (y2_1)  y3_0 1 2)), (4, (ZdC (y2_0)  true 1 2)), (5, (Zbl (y2_1) (y3_0)  true  2)), (6, (Ze1 (y0_0) (y1_0) (y2_0) (y2_1)  false 0 1 2))])) (live := []) (u := vf) (bl := []) (ob := [(dP (Zd2 #[vs 0 0 y0_0.length y0_0.length, ms E_ii y1_0, vs 1 0 y2_0.length y2_0.length, ms E_ii y2_1] (y0_0) (y1_0) (y2_0) (y2_1)  false 0 1 2), true), (dS (Zb E_iiiiiiiA y0_0), true), (dS (Zb E_iiiiiiiA y2_0), true), (dP (Zbb #[ms E_ii y2_1, ms E_ii y3_0] (y2_1) (y3_0)  true  2), true), (dP (ZcO #[vs 1 0 y2_0.length y2_0.length, vn] (y2_0)  true 1 2), true), (dS (Zb E_iiiiiiiA y2_0), true), (dP (ZE #[vs 1 0 y2_0.length y2_0.length, ms E_ii y2_1] (y2_0) (y2_1)  y3_0 1 2), true), (dS (Zb E_iiiiiiiA y2_0), true), (dP (Z3 #[vs 0 0 y0_0.length y0_0.length, ms E_ii y1_0] (y0_0) (y1_0)  y2_0 y2_1 0 1), true), (dS (Zb E_iiiiiiiA y0_0), true), (dP (ZaM #[ms E_ii L1] (L1)  y1_0  1), true), (dP (ZbR #[ms E_iiiiiiiA L0] (L0)  y0_0  0), true)]) (by kernel_rfl) (Za (Zd (Ze2 #[vs 0 0 y0_0.length y0_0.length, ms E_ii y1_0, vs 1 0 y2_0.length y2_0.length, ms E_ii y2_1] (y0_0) (y1_0) (y2_0) (y2_1)  false N c8 0 1 2 rfl (by decide) (by decide))) <| oR <| oR <| Za (Zd (Zbm #[ms E_ii y2_1, ms E_ii y3_0] (y2_1) (y3_0)  true N c6  2 rfl (by decide) (by decide))) <| Za (Zd (ZdD #[vs 1 0 y2_0.length y2_0.length, vn] (y2_0)  true N c4 1 2 rfl (by decide) (by decide))) <| oR <| Za (Zd (ZG #[vs 1 0 y2_0.length y2_0.length, ms E_ii y2_1] (y2_0) (y2_1)  y3_0 N c3 1 2 rfl (by decide) (by decide))) <| oR <| Za (Zd (Z6 #[vs 0 0 y0_0.length y0_0.length, ms E_ii y1_0] (y0_0) (y1_0)  y2_0 y2_1 N c2 0 1 rfl (by decide) (by decide))) <| oR <| Za (Zd (Zba #[ms E_ii L1] (L1)  y1_0 N c1  1 rfl (by decide) (by decide))) <| Za (Zd (Zca #[ms E_iiiiiiiA L0] (L0)  y0_0 N c0  0 rfl (by decide) (by decide))) Zg) rfl (by decide) (by rfl) rr trivial
        ·
         obtain rfl : y6_0 = false := by simpa using g7
         exact Zau (r := (.r0 (false) : Zv)) (fu := 4000) (orc := (Zp [] [] [] [] [(0, (ZbZ (L0)  y0_0  0)), (1, (ZaZ (L1)  y1_0  1)), (2, (Z5 (y0_0) (y1_0)  y2_0 y2_1 0 1)), (3, (ZF (y2_0) (y2_1)  y3_0 1 2)), (4, (ZdC (y2_0)  true 1 2)), (5, (Zbl (y2_1) (y3_0)  false  2))])) (live := []) (u := vf) (bl := []) (ob := [(dP (Zbb #[ms E_ii y2_1, ms E_ii y3_0] (y2_1) (y3_0)  false  2), true), (dP (ZcO #[vs 1 0 y2_0.length y2_0.length, vn] (y2_0)  true 1 2), true), (dS (Zb E_iiiiiiiA y2_0), true), (dP (ZE #[vs 1 0 y2_0.length y2_0.length, ms E_ii y2_1] (y2_0) (y2_1)  y3_0 1 2), true), (dS (Zb E_iiiiiiiA y2_0), true), (dP (Z3 #[vs 0 0 y0_0.length y0_0.length, ms E_ii y1_0] (y0_0) (y1_0)  y2_0 y2_1 0 1), true), (dS (Zb E_iiiiiiiA y0_0), true), (dP (ZaM #[ms E_ii L1] (L1)  y1_0  1), true), (dP (ZbR #[ms E_iiiiiiiA L0] (L0)  y0_0  0), true)]) (by kernel_rfl) (Za (Zd (Zbm #[ms E_ii y2_1, ms E_ii y3_0] (y2_1) (y3_0)  false N c6  2 rfl (by decide) (by decide))) <| Za (Zd (ZdD #[vs 1 0 y2_0.length y2_0.length, vn] (y2_0)  true N c4 1 2 rfl (by decide) (by decide))) <| oR <| Za (Zd (ZG #[vs 1 0 y2_0.length y2_0.length, ms E_ii y2_1] (y2_0) (y2_1)  y3_0 N c3 1 2 rfl (by decide) (by decide))) <| oR <| Za (Zd (Z6 #[vs 0 0 y0_0.length y0_0.length, ms E_ii y1_0] (y0_0) (y1_0)  y2_0 y2_1 N c2 0 1 rfl (by decide) (by decide))) <| oR <| Za (Zd (Zba #[ms E_ii L1] (L1)  y1_0 N c1  1 rfl (by decide) (by decide))) <| Za (Zd (Zca #[ms E_iiiiiiiA L0] (L0)  y0_0 N c0  0 rfl (by decide) (by decide))) Zg) rfl (by decide) (by rfl) rr trivial
      ·
       obtain rfl : y4_0 = false := by simpa using g5
       exact Zau (r := (.r0 (false) : Zv)) (fu := 4000) (orc := (Zp [] [] [] [] [(0, (ZbZ (L0)  y0_0  0)), (1, (ZaZ (L1)  y1_0  1)), (2, (Z5 (y0_0) (y1_0)  y2_0 y2_1 0 1)), (3, (ZF (y2_0) (y2_1)  y3_0 1 2)), (4, (ZdC (y2_0)  false 1 2))])) (live := []) (u := vf) (bl := []) (ob := [(dP (ZcO #[vs 1 0 y2_0.length y2_0.length, vn] (y2_0)  false 1 2), true), (dS (Zb E_iiiiiiiA y2_0), true), (dP (ZE #[vs 1 0 y2_0.length y2_0.length, ms E_ii y2_1] (y2_0) (y2_1)  y3_0 1 2), true), (dS (Zb E_iiiiiiiA y2_0), true), (dP (Z3 #[vs 0 0 y0_0.length y0_0.length, ms E_ii y1_0] (y0_0) (y1_0)  y2_0 y2_1 0 1), true), (dS (Zb E_iiiiiiiA y0_0), true), (dP (ZaM #[ms E_ii L1] (L1)  y1_0  1), true), (dP (ZbR #[ms E_iiiiiiiA L0] (L0)  y0_0  0), true)]) (by kernel_rfl) (Za (Zd (ZdD #[vs 1 0 y2_0.length y2_0.length, vn] (y2_0)  false N c4 1 2 rfl (by decide) (by decide))) <| oR <| Za (Zd (ZG #[vs 1 0 y2_0.length y2_0.length, ms E_ii y2_1] (y2_0) (y2_1)  y3_0 N c3 1 2 rfl (by decide) (by decide))) <| oR <| Za (Zd (Z6 #[vs 0 0 y0_0.length y0_0.length, ms E_ii y1_0] (y0_0) (y1_0)  y2_0 y2_1 N c2 0 1 rfl (by decide) (by decide))) <| oR <| Za (Zd (Zba #[ms E_ii L1] (L1)  y1_0 N c1  1 rfl (by decide) (by decide))) <| Za (Zd (Zca #[ms E_iiiiiiiA L0] (L0)  y0_0 N c0  0 rfl (by decide) (by decide))) Zg) rfl (by decide) (by rfl) rr trivial
    | r1 y3_0 y3_1 =>
     refine ZaV (fun z4 c4 => ?_)
     cases z4 with
     | r0 y4_0 =>
      refine Zam (fun g5 => ?_) (fun g5 => ?_)
      ·
       subst g5
       refine ZaV (fun z6 c6 => ?_)
       cases z6 with
       | r0 y6_0 =>
        refine Zam (fun g7 => ?_) (fun g7 => ?_)
        ·
         subst g7
         refine ZaV (fun z8 c8 => ?_)
         cases z8 with
         | r0 y8_0 =>
          refine Zam (fun g9 => ?_) (fun g9 => ?_)
          ·
           subst g9
           exact Zau (r := (.r0 (true) : Zv)) (fu := 4000) (orc := (Zp [] [] [] [] [(0, (ZbZ (L0)  y0_0  0)), (1, (ZaZ (L1)  y1_0  1)), (2, (Z5 (y0_0) (y1_0)  y2_0 y2_1 0 1)), (3, (Z5 (y2_0) (y2_1)  y3_0 y3_1 1 2)), (4, (ZdE (y2_0) (y3_0)  true 1 2 3)), (5, (Zbl (y2_1) (y3_1)  true  3)), (6, (Ze1 (y0_0) (y1_0) (y2_0) (y2_1)  true 0 1 3))])) (live := []) (u := vT) (bl := []) (ob := [(dP (Zd2 #[vs 0 0 y0_0.length y0_0.length, ms E_ii y1_0, vs 1 0 y2_0.length y2_0.length, ms E_ii y2_1] (y0_0) (y1_0) (y2_0) (y2_1)  true 0 1 3), true), (dS (Zb E_iiiiiiiA y0_0), true), (dS (Zb E_iiiiiiiA y2_0), true), (dP (Zbb #[ms E_ii y2_1, ms E_ii y3_1] (y2_1) (y3_1)  true  3), true), (dP (ZcP #[vs 1 0 y2_0.length y2_0.length, vs 2 0 y3_0.length y3_0.length] (y2_0) (y3_0)  true 1 2 3), true), (dS (Zb E_iiiiiiiA y2_0), true), (dS (Zb E_iiiiiiiA y3_0), true), (dP (Z3 #[vs 1 0 y2_0.length y2_0.length, ms E_ii y2_1] (y2_0) (y2_1)  y3_0 y3_1 1 2), true), (dS (Zb E_iiiiiiiA y2_0), true), (dP (Z3 #[vs 0 0 y0_0.length y0_0.length, ms E_ii y1_0] (y0_0) (y1_0)  y2_0 y2_1 0 1), true), (dS (Zb E_iiiiiiiA y0_0), true), (dP (ZaM #[ms E_ii L1] (L1)  y1_0  1), true), (dP (ZbR #[ms E_iiiiiiiA L0] (L0)  y0_0  0), true)]) (by kernel_rfl) (Za (Zd (Ze2 #[vs 0 0 y0_0.length y0_0.length, ms E_ii y1_0, vs 1 0 y2_0.length y2_0.length, ms E_ii y2_1] (y0_0) (y1_0) (y2_0) (y2_1)  true N c8 0 1 3 rfl (by decide) (by decide))) <| oR <| oR <| Za (Zd (Zbm #[ms E_ii y2_1, ms E_ii y3_1] (y2_1) (y3_1)  true N c6  3 rfl (by decide) (by decide))) <| Za (Zd (ZdF #[vs 1 0 y2_0.length y2_0.length, vs 2 0 y3_0.length y3_0.length] (y2_0) (y3_0)  true N c4 1 2 3 rfl (by decide) (by decide))) <| oR <| oR <| Za (Zd (Z6 #[vs 1 0 y2_0.length y2_0.length, ms E_ii y2_1] (y2_0) (y2_1)  y3_0 y3_1 N c3 1 2 rfl (by decide) (by decide))) <| oR <| Za (Zd (Z6 #[vs 0 0 y0_0.length y0_0.length, ms E_ii y1_0] (y0_0) (y1_0)  y2_0 y2_1 N c2 0 1 rfl (by decide) (by decide))) <| oR <| Za (Zd (Zba #[ms E_ii L1] (L1)  y1_0 N c1  1 rfl (by decide) (by decide))) <| Za (Zd (Zca #[ms E_iiiiiiiA L0] (L0)  y0_0 N c0  0 rfl (by decide) (by decide))) Zg) rfl (by decide) (by rfl) rr trivial
          ·
           obtain rfl : y8_0 = false := by simpa using g9
           exact Zau (r := (.r0 (false) : Zv)) (fu := 4000) (orc := (Zp [] [] [] [] [(0, (ZbZ (L0)  y0_0  0)), (1, (ZaZ (L1)  y1_0  1)), (2, (Z5 (y0_0) (y1_0)  y2_0 y2_1 0 1)), (3, (Z5 (y2_0) (y2_1)  y3_0 y3_1 1 2)), (4, (ZdE (y2_0) (y3_0)  true 1 2 3)), (5, (Zbl (y2_1) (y3_1)  true  3)), (6, (Ze1 (y0_0) (y1_0) (y2_0) (y2_1)  false 0 1 3))])) (live := []) (u := vf) (bl := []) (ob := [(dP (Zd2 #[vs 0 0 y0_0.length y0_0.length, ms E_ii y1_0, vs 1 0 y2_0.length y2_0.length, ms E_ii y2_1] (y0_0) (y1_0) (y2_0) (y2_1)  false 0 1 3), true), (dS (Zb E_iiiiiiiA y0_0), true), (dS (Zb E_iiiiiiiA y2_0), true), (dP (Zbb #[ms E_ii y2_1, ms E_ii y3_1] (y2_1) (y3_1)  true  3), true), (dP (ZcP #[vs 1 0 y2_0.length y2_0.length, vs 2 0 y3_0.length y3_0.length] (y2_0) (y3_0)  true 1 2 3), true), (dS (Zb E_iiiiiiiA y2_0), true), (dS (Zb E_iiiiiiiA y3_0), true), (dP (Z3 #[vs 1 0 y2_0.length y2_0.length, ms E_ii y2_1] (y2_0) (y2_1)  y3_0 y3_1 1 2), true), (dS (Zb E_iiiiiiiA y2_0), true), (dP (Z3 #[vs 0 0 y0_0.length y0_0.length, ms E_ii y1_0] (y0_0) (y1_0)  y2_0 y2_1 0 1), true), (dS (Zb E_iiiiiiiA y0_0), true), (dP (ZaM #[ms E_ii L1] (L1)  y1_0  1), true), (dP (ZbR #[ms E_iiiiiiiA L0] (L0)  y0_0  0), true)]) (by kernel_rfl) (Za (Zd (Ze2 #[vs 0 0 y0_0.length y0_0.length, ms E_ii y1_0, vs 1 0 y2_0.length y2_0.length, ms E_ii y2_1] (y0_0) (y1_0) (y2_0) (y2_1)  false N c8 0 1 3 rfl (by decide) (by decide))) <| oR <| oR <| Za (Zd (Zbm #[ms E_ii y2_1, ms E_ii y3_1] (y2_1) (y3_1)  true N c6  3 rfl (by decide) (by decide))) <| Za (Zd (ZdF #[vs 1 0 y2_0.length y2_0.length, vs 2 0 y3_0.length y3_0.length] (y2_0) (y3_0)  true N c4 1 2 3 rfl (by decide) (by decide))) <| oR <| oR <| Za (Zd (Z6 #[vs 1 0 y2_0.length y2_0.length, ms E_ii y2_1] (y2_0) (y2_1)  y3_0 y3_1 N c3 1 2 rfl (by decide) (by decide))) <| oR <| Za (Zd (Z6 #[vs 0 0 y0_0.length y0_0.length, ms E_ii y1_0] (y0_0) (y1_0)  y2_0 y2_1 N c2 0 1 rfl (by decide) (by decide))) <| oR <| Za (Zd (Zba #[ms E_ii L1] (L1)  y1_0 N c1  1 rfl (by decide) (by decide))) <| Za (Zd (Zca #[ms E_iiiiiiiA L0] (L0)  y0_0 N c0  0 rfl (by decide) (by decide))) Zg) rfl (by decide) (by rfl) rr trivial
        ·
         obtain rfl : y6_0 = false := by simpa using g7
         exact Zau (r := (.r0 (false) : Zv)) (fu := 4000) (orc := (Zp [] [] [] [] [(0, (ZbZ (L0)  y0_0  0)), (1, (ZaZ (L1)  y1_0  1)), (2, (Z5 (y0_0) (y1_0)  y2_0 y2_1 0 1)), (3, (Z5 (y2_0) (y2_1)  y3_0 y3_1 1 2)), (4, (ZdE (y2_0) (y3_0)  true 1 2 3)), (5, (Zbl (y2_1) (y3_1)  false  3))])) (live := []) (u := vf) (bl := []) (ob := [(dP (Zbb #[ms E_ii y2_1, ms E_ii y3_1] (y2_1) (y3_1)  false  3), true), (dP (ZcP #[vs 1 0 y2_0.length y2_0.length, vs 2 0 y3_0.length y3_0.length] (y2_0) (y3_0)  true 1 2 3), true), (dS (Zb E_iiiiiiiA y2_0), true), (dS (Zb E_iiiiiiiA y3_0), true), (dP (Z3 #[vs 1 0 y2_0.length y2_0.length, ms E_ii y2_1] (y2_0) (y2_1)  y3_0 y3_1 1 2), true), (dS (Zb E_iiiiiiiA y2_0), true), (dP (Z3 #[vs 0 0 y0_0.length y0_0.length, ms E_ii y1_0] (y0_0) (y1_0)  y2_0 y2_1 0 1), true), (dS (Zb E_iiiiiiiA y0_0), true), (dP (ZaM #[ms E_ii L1] (L1)  y1_0  1), true), (dP (ZbR #[ms E_iiiiiiiA L0] (L0)  y0_0  0), true)]) (by kernel_rfl) (Za (Zd (Zbm #[ms E_ii y2_1, ms E_ii y3_1] (y2_1) (y3_1)  false N c6  3 rfl (by decide) (by decide))) <| Za (Zd (ZdF #[vs 1 0 y2_0.length y2_0.length, vs 2 0 y3_0.length y3_0.length] (y2_0) (y3_0)  true N c4 1 2 3 rfl (by decide) (by decide))) <| oR <| oR <| Za (Zd (Z6 #[vs 1 0 y2_0.length y2_0.length, ms E_ii y2_1] (y2_0) (y2_1)  y3_0 y3_1 N c3 1 2 rfl (by decide) (by decide))) <| oR <| Za (Zd (Z6 #[vs 0 0 y0_0.length y0_0.length, ms E_ii y1_0] (y0_0) (y1_0)  y2_0 y2_1 N c2 0 1 rfl (by decide) (by decide))) <| oR <| Za (Zd (Zba #[ms E_ii L1] (L1)  y1_0 N c1  1 rfl (by decide) (by decide))) <| Za (Zd (Zca #[ms E_iiiiiiiA L0] (L0)  y0_0 N c0  0 rfl (by decide) (by decide))) Zg) rfl (by decide) (by rfl) rr trivial
      ·
       obtain rfl : y4_0 = false := by simpa using g5
       exact Zau (r := (.r0 (false) : Zv)) (fu := 4000) (orc := (Zp [] [] [] [] [(0, (ZbZ (L0)  y0_0  0)), (1, (ZaZ (L1)  y1_0  1)), (2, (Z5 (y0_0) (y1_0)  y2_0 y2_1 0 1)), (3, (Z5 (y2_0) (y2_1)  y3_0 y3_1 1 2)), (4, (ZdE (y2_0) (y3_0)  false 1 2 3))])) (live := []) (u := vf) (bl := []) (ob := [(dP (ZcP #[vs 1 0 y2_0.length y2_0.length, vs 2 0 y3_0.length y3_0.length] (y2_0) (y3_0)  false 1 2 3), true), (dS (Zb E_iiiiiiiA y2_0), true), (dS (Zb E_iiiiiiiA y3_0), true), (dP (Z3 #[vs 1 0 y2_0.length y2_0.length, ms E_ii y2_1] (y2_0) (y2_1)  y3_0 y3_1 1 2), true), (dS (Zb E_iiiiiiiA y2_0), true), (dP (Z3 #[vs 0 0 y0_0.length y0_0.length, ms E_ii y1_0] (y0_0) (y1_0)  y2_0 y2_1 0 1), true), (dS (Zb E_iiiiiiiA y0_0), true), (dP (ZaM #[ms E_ii L1] (L1)  y1_0  1), true), (dP (ZbR #[ms E_iiiiiiiA L0] (L0)  y0_0  0), true)]) (by kernel_rfl) (Za (Zd (ZdF #[vs 1 0 y2_0.length y2_0.length, vs 2 0 y3_0.length y3_0.length] (y2_0) (y3_0)  false N c4 1 2 3 rfl (by decide) (by decide))) <| oR <| oR <| Za (Zd (Z6 #[vs 1 0 y2_0.length y2_0.length, ms E_ii y2_1] (y2_0) (y2_1)  y3_0 y3_1 N c3 1 2 rfl (by decide) (by decide))) <| oR <| Za (Zd (Z6 #[vs 0 0 y0_0.length y0_0.length, ms E_ii y1_0] (y0_0) (y1_0)  y2_0 y2_1 N c2 0 1 rfl (by decide) (by decide))) <| oR <| Za (Zd (Zba #[ms E_ii L1] (L1)  y1_0 N c1  1 rfl (by decide) (by decide))) <| Za (Zd (Zca #[ms E_iiiiiiiA L0] (L0)  y0_0 N c0  0 rfl (by decide) (by decide))) Zg) rfl (by decide) (by rfl) rr trivial

theorem Zj0 (L0 : List R_iiiiiiiA) (L1 : List R_ii) (N : Nat) (r : Zv) (h : Zdg L0 L1 N = some r) : LSpec Try.prog 4 #[ms E_iiiiiiiA L0, ms E_ii L1] [] (Zhq L0 L1 r) (ZgV L0 L1 r) :=
 Zfe Zb0 Try.func4 (by kernel_rfl) (by kernel_rfl) (fun r => by cases r <;> exact Zae _ rfl) (Zkz L0 L1 N) h

end Ev
end Go.Proofs.Ytmcgcapkldpjlaa
/- Plain lemmas: machines step by step, lists by their places. -/
namespace Go.Proofs.Ytmcgcapkldpjlaa
open Go.RowKit
namespace Ev
section
variable {X R : Type} {step : X → Option (X ⊕ R)} {n : Nat} {x y : X} {r : R}
theorem ZaG (h : step x = some (.inl y)) : ZbV step (n + 1) x = ZbV step n y := by simp [ZbV, h]
theorem ZaS (h : step x = some (.inr r)) : ZbV step (n + 1) x = some r := by simp [ZbV, h]
theorem ZcC {o : Option (X ⊕ R)} (h : o = some (.inl x)) : goM step n o = ZbV step n x := by subst h; rfl
end
section
variable {α : Type}
theorem ZnX {L : List α} {i : Nat} (h : i < L.length) (d : α) : L.take i ++ [L.getD i d] = L.take (i + 1) := by
 rw [List.take_succ_eq_append_getElem h, List.getD_eq_getElem?_getD, List.getElem?_eq_getElem h, Option.getD_some]
theorem Zos {L M : List α} {i : Nat} {d : α} (h : i < L.length) : (L ++ M).getD i d = L.getD i d := by simp [List.getElem?_append_left h]
theorem Zse {L : List α} {v d : α} : (L ++ [v]).getD L.length d = v := by simp
theorem ZgA {L : List α} {i : Nat} {d : α} (h : L.length ≤ i) : L.getD i d = d := by simp [List.getElem?_eq_none h]
end
theorem Zud {α : Type} {c : Prop} [Decidable c] {a b r : α} (h1 : c → a = r) (h2 : ¬ c → b = r) : (if c then a else b) = r := by
 by_cases h : c
 ·rw [if_pos h]; exact h1 h
 ·rw [if_neg h]; exact h2 h
theorem Zi {α : Type} {c : Prop} [Decidable c] {a b r : α} (h : c) (e : a = r) : (if c then a else b) = r := by rw [if_pos h]; exact e
theorem ZB {α : Type} {c : Prop} [Decidable c] {a b r : α} (h : ¬ c) (e : b = r) : (if c then a else b) = r := by rw [if_neg h]; exact e
theorem Zz {α β : Type} {o : Option α} {a : α} {k : α → Option β} {r : Option β} (h : o = some a) (e : k a = r) : o.bind k = r := by rw [h]; exact e
theorem w64 {x : Int} (h1 : -9223372036854775808 ≤ x) (h2 : x ≤ 9223372036854775807) : IntKind.i64.wrap x = x := wrap_i64 ⟨h1, h2⟩
end Ev
end Go.Proofs.Ytmcgcapkldpjlaa
/- Look-ups, by a map: plain. -/
namespace Go.Proofs.Ytmcgcapkldpjlaa
open Go.RowKit
namespace Ev
namespace Pg
set_option linter.unusedVariables false
set_option linter.unusedSimpArgs false
abbrev Ob := R_iiiiiiiA
def ZcQ (L : List Ob) (k l : Int) (j : Nat) : Prop := (L.getD j R_iiiiiiiA.z).a0 = k ∧ (L.getD j R_iiiiiiiA.z).a1 = l
instance (L : List Ob) (k l : Int) (j : Nat) : Decidable (ZcQ L k l j) := by unfold ZcQ; infer_instance
theorem Zn8 (a b v k l : Int) : ∀ M : List RA, Zbh (ZR M a b v) k l = ((k == a && l == b) || Zbh M k l)
 | [] => by simp [ZR, Zbh]
 | x :: M => by
  unfold ZR
  by_cases h : (a == x.a0 && b == x.a1) = true
  ·rw [if_pos h]
   simp only [Bool.and_eq_true, beq_iff_eq] at h
   simp [Zbh, h.1, h.2]
  ·rw [if_neg h]
   have ih := Zn8 a b v k l M
   unfold Zbh at ih ⊢
   rw [List.any_cons, List.any_cons, ih]
   cases (k == x.a0 && l == x.a1) <;> cases (k == a && l == b) <;> rfl
theorem Zq7 (a b v k l : Int) : ∀ M : List RA, ZaX (ZR M a b v) k l = if k = a ∧ l = b then v else ZaX M k l
 | [] => by
  by_cases h : k = a ∧ l = b
  ·rw [if_pos h]; simp [ZR, ZaX, h.1, h.2]
  ·rw [if_neg h]
   have h' : (k == a && l == b) = false := by cases e : (k == a && l == b) with
    | false => rfl
    | true => simp only [Bool.and_eq_true, beq_iff_eq] at e; exact absurd e h
   simp [ZR, ZaX, h']
 | x :: M => by
  unfold ZR
  by_cases h : (a == x.a0 && b == x.a1) = true
  ·rw [if_pos h]
   simp only [Bool.and_eq_true, beq_iff_eq] at h
   by_cases hk : k = a ∧ l = b
   ·rw [if_pos hk]; simp [ZaX, hk.1, hk.2]
   ·rw [if_neg hk]
    have h' : (k == a && l == b) = false := by cases e : (k == a && l == b) with
     | false => rfl
     | true => simp only [Bool.and_eq_true, beq_iff_eq] at e; exact absurd e hk
    have h'' : (k == x.a0 && l == x.a1) = false := by rw [← h.1, ← h.2]; exact h'
    simp only [ZaX, List.find?_cons, h', h'']
  ·rw [if_neg h]
   have ih := Zq7 a b v k l M
   cases e : (k == x.a0 && l == x.a1) with
   | true =>
    have hk : ¬ (k = a ∧ l = b) := fun q => by rw [q.1, q.2] at e; exact h e
    rw [if_neg hk]
    simp only [ZaX, List.find?_cons, e]
   | false =>
    simp only [ZaX, List.find?_cons, e] at ih ⊢
    exact ih
def MI (L : List Ob) (i : Nat) (M : List RA) : Prop := ∀ k l, (∃ j, i ≤ j ∧ j < L.length ∧ ZcQ L k l j ∧ (∀ q, i ≤ q → q < j → ¬ ZcQ L k l q) ∧ Zbh M k l = true ∧ ZaX M k l = (j : Int)) ∨ ((∀ q, i ≤ q → q < L.length → ¬ ZcQ L k l q) ∧ Zbh M k l = false)
theorem Zue (L : List Ob) : MI L L.length [] := fun k l => .inr ⟨fun q h1 h2 => by omega, rfl⟩
theorem Zuf {L : List Ob} {i : Nat} {M : List RA} (hi : i < L.length) (h : MI L (i + 1) M) : MI L i (ZR M (L.getD i R_iiiiiiiA.z).a0 (L.getD i R_iiiiiiiA.z).a1 (i : Int)) := by
 intro k l
 rw [Zn8, Zq7]
 by_cases hk : ZcQ L k l i
 ·refine .inl ⟨i, Nat.le_refl _, hi, hk, fun q h1 h2 => by omega, ?_, if_pos ⟨hk.1.symm, hk.2.symm⟩⟩
  rw [hk.1, hk.2]; simp
 ·have hn : ¬ (k = (L.getD i R_iiiiiiiA.z).a0 ∧ l = (L.getD i R_iiiiiiiA.z).a1) := fun q => hk ⟨q.1.symm, q.2.symm⟩
  have hb : (k == (L.getD i R_iiiiiiiA.z).a0 && l == (L.getD i R_iiiiiiiA.z).a1) = false := by
   cases e : (k == (L.getD i R_iiiiiiiA.z).a0 && l == (L.getD i R_iiiiiiiA.z).a1) with
   | false => rfl
   | true => simp only [Bool.and_eq_true, beq_iff_eq] at e; exact absurd e hn
  rw [if_neg hn, hb, Bool.false_or]
  rcases h k l with ⟨j, h1, h2, h3, h4, h5, h6⟩ | ⟨h1, h2⟩
  ·refine .inl ⟨j, by omega, h2, h3, fun q q1 q2 => ?_, h5, h6⟩
   by_cases e : q = i
   ·subst e; exact hk
   ·exact h4 q (by omega) q2
  ·refine .inr ⟨fun q q1 q2 => ?_, h2⟩
   by_cases e : q = i
   ·subst e; exact hk
   ·exact h1 q (by omega) q2
theorem built {L : List Ob} {N : Nat} (hL : L.length ≤ 1000) : ∀ i f M, i ≤ L.length → MI L i M → ∃ M', MI L 0 M' ∧ ZbV (Zct L N) (f + i) (.h1m0 ((i : Int) - 1) M) = ZbV (Zct L N) f (.h1m0 (-1) M')
 | 0, f, M, _, h => ⟨M, h, rfl⟩
 | i + 1, f, M, hi, h => by
  obtain ⟨M', h1, h2⟩ := built (N := N) hL i f _ (by omega) (Zuf (by omega) h)
  refine ⟨M', h1, (ZaG (n := f + i) ?_).trans h2⟩
  show ZbK L N _ _ = _
  unfold ZbK
  have e : (((i + 1 : Nat) : Int) - 1) = (i : Int) := by omega
  rw [e]
  have ew : IntKind.i64.wrap ((i : Int) - 1) = (i : Int) - 1 := w64 (by omega) (by omega)
  refine Zi (by omega) (Zi (by show i < L.length; omega) ?_)
  rw [ew]; rfl
theorem ZsQ {L : List Ob} {N : Nat} (hL : L.length ≤ 1000) (hN : 2000 ≤ N) : ∃ M, MI L 0 M ∧ Zf5 L N = some (.r0 M) := by
 obtain ⟨n, rfl⟩ : ∃ n, N = (n + 1) + L.length := ⟨N - L.length - 1, by omega⟩
 obtain ⟨M, hM, hb⟩ := built (N := (n + 1) + L.length) hL L.length (n + 1) [] (Nat.le_refl _) (Zue L)
 refine ⟨M, hM, (ZcC (x := .h1m0 ((L.length : Int) - 1) []) (by unfold Zev; exact Zi (by omega) rfl)).trans (hb.trans (ZaS ?_))⟩
 show ZbK L ((n + 1) + L.length) (-1) M = _
 unfold ZbK
 exact ZB (by omega) rfl
def ZbC (L : List Ob) (k l : Int) (j : Nat) : Prop := (k = 2 ∧ ¬ l = 0) ∧ j < L.length ∧ ZcQ L k l j ∧ ∀ q, q < j → ¬ ZcQ L k l q
theorem Zj1 {L : List Ob} {k l : Int} {i j : Nat} (h : ZbC L k l i) (h' : ZbC L k l j) : i = j := by
 rcases Nat.lt_trichotomy i j with e | e | e
 ·exact absurd h.2.2.1 (h'.2.2.2 i e)
 ·exact e
 ·exact absurd h'.2.2.1 (h.2.2.2 j e)
theorem Zn9 {L : List Ob} {Mx : List RA} (h : MI L 0 Mx) (k l : Int) (N : Nat) : (∃ j, ZbC L k l j ∧ Za7 L Mx k l N = some (.r0 (j : Int) true)) ∨ ((∀ j, ¬ ZbC L k l j) ∧ ∃ y, Za7 L Mx k l N = some (.r0 y false)) := by
 unfold Za7
 by_cases hk : k = 2
 ·rw [if_neg (fun q => q hk)]
  by_cases hl : l = 0
  ·rw [if_pos ⟨hk, hl⟩]
   exact .inr ⟨fun j q => q.1.2 hl, _, rfl⟩
  ·rw [if_neg (fun q => hl q.2)]
   rcases h k l with ⟨j, h1, h2, h3, h4, h5, h6⟩ | ⟨h1, h2⟩
   ·rw [if_pos h5, h6]
    exact .inl ⟨j, ⟨⟨hk, hl⟩, h2, h3, fun q hq => h4 q (by omega) hq⟩, rfl⟩
   ·rw [if_neg (by rw [h2]; simp)]
    exact .inr ⟨fun j q => h1 j (by omega) q.2.1 q.2.2.1, _, rfl⟩
 ·rw [if_pos hk]
  exact .inr ⟨fun j q => hk q.1.1, _, rfl⟩
end Pg
end Ev
end Go.Proofs.Ytmcgcapkldpjlaa
/- What a walk Zea, whatever may be entered: plain. -/
namespace Go.Proofs.Ytmcgcapkldpjlaa
open Go.RowKit
namespace Ev
namespace Pg
set_option linter.unusedVariables false
set_option linter.unusedSimpArgs false
abbrev ob (L : List Ob) (j : Nat) : Ob := L.getD j R_iiiiiiiA.z
abbrev fd (L : List Ob) (j q : Nat) : R_ii := (ob L j).a7.getD q R_ii.z
def ZbI (L : List Ob) (O : List Int) : Nat → Nat
 | 0 => 0
 | n + 1 => (if (n : Int) ∈ O then 0 else (ob L n).a7.length + 2) + ZbI L O n
def ZbT (L : List Ob) : List R_ii → Nat
 | [] => 0
 | e :: S => ((ob L e.a0.toNat).a7.length + 1 - e.a1.toNat) + ZbT L S
theorem Zg4 (L : List Ob) : ∀ S S', ZbT L (S ++ S') = ZbT L S + ZbT L S'
 | [], S' => by simp [ZbT]
 | e :: S, S' => by simp only [List.cons_append, ZbT, Zg4 L S S']; omega
theorem Zq8 {L : List Ob} {O : List Int} {j : Nat} : ∀ n, n ≤ j → ZbI L (O ++ [(j : Int)]) n = ZbI L O n
 | 0, _ => rfl
 | n + 1, h => by
  have e : ((n : Int) ∈ O ++ [(j : Int)]) ↔ (n : Int) ∈ O := by
   rw [List.mem_append, List.mem_singleton]
   exact ⟨fun q => q.elim id (fun q => by omega), .inl⟩
  have ih := Zq8 (L := L) (O := O) (j := j) n (by omega)
  simp only [ZbI, e, ih]
theorem ZnA {L : List Ob} {O : List Int} {j : Nat} (hj : ¬ (j : Int) ∈ O) : ∀ n, j < n → ZbI L (O ++ [(j : Int)]) n + ((ob L j).a7.length + 2) = ZbI L O n
 | 0, h => by omega
 | n + 1, h => by
  by_cases e : n = j
  ·subst e
   have h1 : (n : Int) ∈ O ++ [(n : Int)] := by simp
   have ih := Zq8 (L := L) (O := O) (j := n) n (Nat.le_refl _)
   simp only [ZbI, h1, hj, if_true, if_false, ih]
   omega
  ·have e' : ((n : Int) ∈ O ++ [(j : Int)]) ↔ (n : Int) ∈ O := by
    rw [List.mem_append, List.mem_singleton]
    exact ⟨fun q => q.elim id (fun q => by omega), .inl⟩
   have ih := ZnA (L := L) hj n (by omega)
   simp only [ZbI, e']
   omega
def Gen (L : List Ob) (may : Ob → Prop) (R : List R_ii) (T : Nat → Prop) : Prop := (∀ q j', q < R.length → ZbC L (R.getD q R_ii.z).a0 (R.getD q R_ii.z).a1 j' → may (ob L j') → T j') ∧ ∀ j q j', T j → q < (ob L j).a7.length → ZbC L (fd L j q).a0 (fd L j q).a1 j' → may (ob L j') → T j'
structure Inv (L : List Ob) (may : Ob → Prop) (R : List R_ii) (B v : Nat) (M : List RA) (O : List Int) (S : List R_ii) : Prop where
 o : ∀ x ∈ O, ∃ j : Nat, x = (j : Int) ∧ ZbC L (ob L j).a0 (ob L j).a1 j
 m : ∀ k l, Zbh M k l = true ↔ ∃ j : Nat, (j : Int) ∈ O ∧ ZcQ L k l j
 s : ∀ e ∈ S, ∃ j f : Nat, e = ⟨(j : Int), (f : Int)⟩ ∧ (j : Int) ∈ O ∧ f ≤ (ob L j).a7.length
 c : ∀ j : Nat, (j : Int) ∈ O → ∀ q, q < (ob L j).a7.length → ∀ j', ZbC L (fd L j q).a0 (fd L j q).a1 j' → may (ob L j') → (j' : Int) ∈ O ∨ ∃ f : Nat, (⟨(j : Int), (f : Int)⟩ : R_ii) ∈ S ∧ f ≤ q
 r : ∀ q, q < v → q < R.length → ∀ j', ZbC L (R.getD q R_ii.z).a0 (R.getD q R_ii.z).a1 j' → may (ob L j') → (j' : Int) ∈ O
 g : ∀ T, Gen L may R T → ∀ j : Nat, (j : Int) ∈ O → T j
 b : O.length + ZbI L O L.length + ZbT L S ≤ B
 l : S.length ≤ O.length
theorem inv_0 {L : List Ob} {may : Ob → Prop} {R : List R_ii} {B : Nat} (h : ZbI L [] L.length ≤ B) : Inv L may R B 0 [] [] [] :=
 ⟨(fun x h => by cases h), (fun k l => ⟨(fun h => by cases h), (fun ⟨j, h, _⟩ => by cases h)⟩), (fun e h => by cases h), (fun j h => by cases h), (fun q h => by omega), (fun T _ j h => by cases h), (by show 0 + ZbI L [] L.length + 0 ≤ B; omega), Nat.le_refl _⟩
def Zig (L : List Ob) (may : Ob → Prop) (M : List RA) (O : List Int) (S : List R_ii) (k l : Int) (M' : List RA) (O' : List Int) (S' : List R_ii) : Prop :=
 (∃ j : Nat, ZbC L k l j ∧ ¬ Zbh M k l = true ∧ may (ob L j) ∧ M' = ZR M k l (j : Int) ∧ O' = O ++ [(j : Int)] ∧ S' = S ++ [⟨(j : Int), 0⟩]) ∨ ((∀ j, ZbC L k l j → Zbh M k l = true ∨ ¬ may (ob L j)) ∧ M' = M ∧ O' = O ∧ S' = S)
theorem Zj2 {L : List Ob} {may : Ob → Prop} {R : List R_ii} {B v : Nat} {M : List RA} {O : List Int} {S : List R_ii} (I : Inv L may R B v M O S) {k l : Int} {j : Nat} (h : ZbC L k l j) : Zbh M k l = true ↔ (j : Int) ∈ O := by
 rw [I.m]
 constructor
 ·rintro ⟨i, h1, h2⟩
  obtain ⟨i', e, hi⟩ := I.o _ h1
  obtain rfl : i = i' := by omega
  have hi' : ZbC L k l i := by rw [← h2.1, ← h2.2]; exact hi
  rw [Zj1 h hi']; exact h1
 ·exact fun h1 => ⟨j, h1, h.2.2.1⟩
theorem ZnY {L : List Ob} {may : Ob → Prop} {R : List R_ii} {B v : Nat} {M M' : List RA} {O O' : List Int} {S S' : List R_ii} (I : Inv L may R B v M O S) {k l : Int}
  (hT : ∀ T, Gen L may R T → ∀ j, ZbC L k l j → may (ob L j) → T j) (E : Zig L may M O S k l M' O' S') : Inv L may R B v M' O' S' ∧ (∀ j', ZbC L k l j' → may (ob L j') → (j' : Int) ∈ O') ∧ (∀ x ∈ O, x ∈ O') ∧ O'.length + ZbI L O' L.length + ZbT L S' ≤ O.length + ZbI L O L.length + ZbT L S ∧ (O' ≠ O → ZbI L O' L.length + ZbT L S' < ZbI L O L.length + ZbT L S) := by
 rcases E with ⟨j, he, hm, hy, rfl, rfl, rfl⟩ | ⟨hn, rfl, rfl, rfl⟩
 ·have hj : ¬ (j : Int) ∈ O := fun q => hm ((Zj2 I he).2 q)
  have hk : (ob L j).a0 = k ∧ (ob L j).a1 = l := he.2.2.1
  have hr := ZnA (L := L) hj L.length he.2.1
  have hs : ZbT L (S ++ [⟨(j : Int), 0⟩]) = ZbT L S + ((ob L j).a7.length + 1) := by
   rw [Zg4]; simp [ZbT]
  have hb := I.b
  refine ⟨⟨fun x hx => ?_, fun a b => ?_, fun e hx => ?_, fun i hi q hq j' h1 h2 => ?_, fun q h1 h2 j' h3 h4 => ?_, fun T hT' i hi => ?_, ?_, ?_⟩, fun j' h1 h2 => ?_, fun x hx => List.mem_append_left _ hx, ?_, fun _ => ?_⟩
  ·rcases List.mem_append.1 hx with hx | hx
   ·exact I.o x hx
   ·rw [List.mem_singleton] at hx
    exact ⟨j, hx, by rw [hk.1, hk.2]; exact he⟩
  ·rw [Zn8]
   simp only [Bool.or_eq_true, Bool.and_eq_true, beq_iff_eq]
   constructor
   ·rintro (⟨rfl, rfl⟩ | h)
    ·exact ⟨j, by simp, hk⟩
    ·obtain ⟨i, h1, h2⟩ := (I.m a b).1 h
     exact ⟨i, List.mem_append_left _ h1, h2⟩
   ·rintro ⟨i, h1, h2⟩
    rcases List.mem_append.1 h1 with h1 | h1
    ·exact .inr ((I.m a b).2 ⟨i, h1, h2⟩)
    ·rw [List.mem_singleton] at h1
     obtain rfl : i = j := by omega
     exact .inl ⟨h2.1.symm.trans hk.1, h2.2.symm.trans hk.2⟩
  ·rcases List.mem_append.1 hx with hx | hx
   ·obtain ⟨i, f, h1, h2, h3⟩ := I.s e hx
    exact ⟨i, f, h1, List.mem_append_left _ h2, h3⟩
   ·rw [List.mem_singleton] at hx
    exact ⟨j, 0, hx, by simp, Nat.zero_le _⟩
  ·rcases List.mem_append.1 hi with hi | hi
   ·rcases I.c i hi q hq j' h1 h2 with h | ⟨f, h3, h4⟩
    ·exact .inl (List.mem_append_left _ h)
    ·exact .inr ⟨f, List.mem_append_left _ h3, h4⟩
   ·rw [List.mem_singleton] at hi
    obtain rfl : i = j := by omega
    exact .inr ⟨0, by simp, Nat.zero_le _⟩
  ·exact List.mem_append_left _ (I.r q h1 h2 j' h3 h4)
  ·rcases List.mem_append.1 hi with hi | hi
   ·exact I.g T hT' i hi
   ·rw [List.mem_singleton] at hi
    obtain rfl : i = j := by omega
    exact hT T hT' i he hy
  ·rw [hs, List.length_append, List.length_singleton]; omega
  ·have := I.l
   rw [List.length_append, List.length_append, List.length_singleton, List.length_singleton]; omega
  ·rw [Zj1 h1 he]; simp
  ·rw [hs, List.length_append, List.length_singleton]; omega
  ·rw [hs]; omega
 ·refine ⟨I, fun j' h1 h2 => ?_, fun x hx => hx, Nat.le_refl _, fun q => absurd rfl q⟩
  rcases hn j' h1 with h | h
  ·exact (Zj2 I h1).1 h
  ·exact absurd h2 h
theorem Zt9 {L : List Ob} {may : Ob → Prop} {R : List R_ii} {B v : Nat} {M : List RA} {O : List Int} {S : List R_ii} {j : Nat} (I : Inv L may R B v M O (S ++ [⟨(j : Int), ((ob L j).a7.length : Int)⟩])) : Inv L may R B v M O S := by
 have hb := I.b
 have hl := I.l
 rw [Zg4] at hb
 rw [List.length_append] at hl
 refine ⟨I.o, I.m, fun e he => I.s e (List.mem_append_left _ he), fun i hi q hq j' h1 h2 => ?_, I.r, I.g, by omega, by omega⟩
 rcases I.c i hi q hq j' h1 h2 with h | ⟨f, h3, h4⟩
 ·exact .inl h
 ·rcases List.mem_append.1 h3 with h3 | h3
  ·exact .inr ⟨f, h3, h4⟩
  ·rw [List.mem_singleton] at h3
   injection h3 with e1 e2
   obtain rfl : i = j := by omega
   omega
theorem ZsR {L : List Ob} {may : Ob → Prop} {R : List R_ii} {B v : Nat} {M : List RA} {O : List Int} {S S' : List R_ii} {j f : Nat} (hf : f < (ob L j).a7.length) (I : Inv L may R B v M O (S ++ ⟨(j : Int), (f : Int)⟩ :: S'))
  (h : ∀ j', ZbC L (fd L j f).a0 (fd L j f).a1 j' → may (ob L j') → (j' : Int) ∈ O) : Inv L may R B v M O (S ++ ⟨(j : Int), ((f + 1 : Nat) : Int)⟩ :: S') ∧ ZbT L (S ++ ⟨(j : Int), ((f + 1 : Nat) : Int)⟩ :: S') + 1 = ZbT L (S ++ ⟨(j : Int), (f : Int)⟩ :: S') := by
 have hs : ZbT L (S ++ ⟨(j : Int), ((f + 1 : Nat) : Int)⟩ :: S') + 1 = ZbT L (S ++ ⟨(j : Int), (f : Int)⟩ :: S') := by
  rw [Zg4, Zg4]
  have e : ∀ g : Nat, ZbT L (⟨(j : Int), (g : Int)⟩ :: S') = ((ob L j).a7.length + 1 - g) + ZbT L S' := fun g => rfl
  rw [e, e]; omega
 have hb := I.b
 have hl := I.l
 rw [List.length_append, List.length_cons] at hl
 refine ⟨⟨I.o, I.m, fun e he => ?_, fun i hi q hq j' h1 h2 => ?_, I.r, I.g, by omega, by rw [List.length_append, List.length_cons]; omega⟩, hs⟩
 ·rcases List.mem_append.1 he with he | he
  ·exact I.s e (List.mem_append_left _ he)
  ·rcases List.mem_cons.1 he with he | he
   ·obtain ⟨i, g, h1, h2, h3⟩ := I.s ⟨(j : Int), (f : Int)⟩ (by simp)
    injection h1 with e1 e2
    obtain rfl : i = j := by omega
    exact ⟨i, f + 1, he, h2, hf⟩
   ·exact I.s e (List.mem_append_right _ (List.mem_cons_of_mem _ he))
 ·rcases I.c i hi q hq j' h1 h2 with h' | ⟨g, h3, h4⟩
  ·exact .inl h'
  ·rcases List.mem_append.1 h3 with h3 | h3
   ·exact .inr ⟨g, List.mem_append_left _ h3, h4⟩
   ·rcases List.mem_cons.1 h3 with h3 | h3
    ·injection h3 with e1 e2
     obtain rfl : i = j := by omega
     obtain rfl : g = f := by omega
     by_cases e : q = g
     ·subst e; exact .inl (h j' h1 h2)
     ·exact .inr ⟨g + 1, by simp, by omega⟩
    ·exact .inr ⟨g, List.mem_append_right _ (List.mem_cons_of_mem _ h3), h4⟩
theorem ZsS {α : Type} {s S0 : List α} {e d : α} {n : Nat} (h : s.take n = S0 ++ [e]) (hn : n ≤ s.length) : n = S0.length + 1 ∧ s.getD (n - 1) d = e ∧ s.take (n - 1) = S0 ∧ ∀ e', (s.set (n - 1) e').take n = S0 ++ [e'] := by
 have hl : n = S0.length + 1 := by
  have := congrArg List.length h
  simp at this; omega
 obtain ⟨t, rfl⟩ : ∃ t, s = S0 ++ e :: t := ⟨s.drop n, by
  have h2 : s = s.take n ++ s.drop n := (List.take_append_drop n s).symm
  rw [h] at h2
  simpa using h2⟩
 subst hl
 refine ⟨rfl, by simp, by simp, fun e' => ?_⟩
 have h5 : S0.take (S0.length + 1) = S0 := List.take_of_length_le (by omega)
 simp [List.take_append, h5]
theorem Zp1 {α : Type} {s : List α} {e : α} {n : Nat} (hn : n < s.length) : (s.set n e).take (n + 1) = s.take n ++ [e] := by
 have h1 : s.set n e = s.take n ++ e :: s.drop (n + 1) := List.set_eq_take_append_cons_drop.trans (if_pos hn)
 rw [h1]
 have h2 : (s.take n).length = n := by simp; omega
 rw [List.take_append, List.take_of_length_le (by omega), h2]
 simp
end Pg
end Ev
end Go.Proofs.Ytmcgcapkldpjlaa
/- Traces of walks. -/
namespace Go.Proofs.Ytmcgcapkldpjlaa
open Go.RowKit
namespace Ev
namespace Pg
set_option linter.unusedVariables false
set_option linter.unusedSimpArgs false
def Ent (L : List Ob) (O : List Int) (S : List R_ii) (k l : Int) (O' : List Int) (S' : List R_ii) : Prop :=
 (∃ j : Nat, ZbC L k l j ∧ ¬ (j : Int) ∈ O ∧ O' = O ++ [(j : Int)] ∧ S' = S ++ [⟨(j : Int), 0⟩]) ∨ ((∀ j, ZbC L k l j → (j : Int) ∈ O) ∧ O' = O ∧ S' = S)
theorem Ent.det {L : List Ob} {O : List Int} {S : List R_ii} {k l : Int} {O1 O2 : List Int} {S1 S2 : List R_ii} (h : Ent L O S k l O1 S1) (h' : Ent L O S k l O2 S2) : O1 = O2 ∧ S1 = S2 := by
 rcases h with ⟨j, h1, h2, rfl, rfl⟩ | ⟨h1, rfl, rfl⟩
 ·rcases h' with ⟨i, g1, g2, rfl, rfl⟩ | ⟨g1, rfl, rfl⟩
  ·obtain rfl := Zj1 h1 g1; exact ⟨rfl, rfl⟩
  ·exact absurd (g1 j h1) h2
 ·rcases h' with ⟨i, g1, g2, rfl, rfl⟩ | ⟨g1, rfl, rfl⟩
  ·exact absurd (h1 i g1) g2
  ·exact ⟨rfl, rfl⟩
theorem Ent.pre {L : List Ob} {O : List Int} {S : List R_ii} {k l : Int} {O' : List Int} {S' : List R_ii} (h : Ent L O S k l O' S') : O <+: O' := by
 rcases h with ⟨j, h1, h2, rfl, rfl⟩ | ⟨h1, rfl, rfl⟩
 ·exact List.prefix_append _ _
 ·exact List.prefix_rfl
theorem Ent.stk {L : List Ob} {O : List Int} {S : List R_ii} {k l : Int} {O' : List Int} {S' : List R_ii} (h : Ent L O S k l O' S') (hS : ∀ e ∈ S, e.a0 ∈ O) : ∀ e ∈ S', e.a0 ∈ O' := by
 rcases h with ⟨j, h1, h2, rfl, rfl⟩ | ⟨h1, rfl, rfl⟩
 ·intro e he
  rcases List.mem_append.1 he with q | q
  ·exact List.mem_append_left _ (hS e q)
  ·rw [List.mem_singleton.1 q]; simp
 ·exact hS
inductive Tr (L : List Ob) (R : List R_ii) : Nat → Nat → List Int → List R_ii → List Int → Prop
 | done {v : Nat} {O : List Int} {S : List R_ii} (hS : S = []) (h : ¬ v < R.length) : Tr L R 1 v O S O
 | root {v : Nat} {O O' : List Int} {S S' : List R_ii} {F : List Int} (hS : S = []) (h : v < R.length) (e : Ent L O [] (R.getD v R_ii.z).a0 (R.getD v R_ii.z).a1 O' S') (t : Tr L R 2 v O' S' F) : Tr L R 1 v O S F
 | none {v : Nat} {O : List Int} {S : List R_ii} {F : List Int} (hS : S = []) (t : Tr L R 1 (v + 1) O [] F) : Tr L R 2 v O S F
 | pop {v : Nat} {O : List Int} {S S0 : List R_ii} {j : Nat} {F : List Int} (hS : S = S0 ++ [⟨(j : Int), ((ob L j).a7.length : Int)⟩]) (t : Tr L R 2 v O S0 F) : Tr L R 2 v O S F
 | go {v : Nat} {O O' : List Int} {S S0 S' : List R_ii} {j g : Nat} {F : List Int} (hS : S = S0 ++ [⟨(j : Int), (g : Int)⟩]) (h : g < (ob L j).a7.length) (e : Ent L O (S0 ++ [⟨(j : Int), ((g + 1 : Nat) : Int)⟩]) (fd L j g).a0 (fd L j g).a1 O' S') (t : Tr L R 2 v O' S' F) : Tr L R 2 v O S F
theorem Zkb {α : Type} {S T : List α} {x y : α} (h : S ++ [x] = T ++ [y]) : S = T ∧ x = y := by
 have := List.append_inj' h rfl
 exact ⟨this.1, by simpa using this.2⟩
theorem Tr.det {L : List Ob} {R : List R_ii} {ph v : Nat} {O : List Int} {S : List R_ii} {F F' : List Int} (h : Tr L R ph v O S F) (h' : Tr L R ph v O S F') : F = F' := by
 induction h generalizing F' with
 | done hS h =>
  cases h' with
  | done _ _ => rfl
  | root _ h2 _ _ => exact absurd h2 h
 | root hS h e t ih =>
  cases h' with
  | done _ h2 => exact absurd h h2
  | root _ _ e2 t2 =>
   obtain ⟨rfl, rfl⟩ := e.det e2
   exact ih t2
 | none hS t ih =>
  cases h' with
  | none _ t2 => exact ih t2
  | pop hS2 _ => rw [hS] at hS2; simp at hS2
  | go hS2 _ _ _ => rw [hS] at hS2; simp at hS2
 | pop hS t ih =>
  cases h' with
  | none hS2 _ => rw [hS] at hS2; simp at hS2
  | pop hS2 t2 =>
   obtain ⟨rfl, _⟩ := Zkb (hS.symm.trans hS2)
   exact ih t2
  | go hS2 h2 _ _ =>
   obtain ⟨rfl, e⟩ := Zkb (hS.symm.trans hS2)
   injection e with e1 e2
   have := Int.ofNat.inj e1
   subst this
   omega
 | go hS h e t ih =>
  cases h' with
  | none hS2 _ => rw [hS] at hS2; simp at hS2
  | pop hS2 t2 =>
   obtain ⟨rfl, e⟩ := Zkb (hS.symm.trans hS2)
   injection e with e1 e2
   have := Int.ofNat.inj e1
   subst this
   omega
  | go hS2 h2 e2 t2 =>
   obtain ⟨rfl, q⟩ := Zkb (hS.symm.trans hS2)
   injection q with q1 q2
   have := Int.ofNat.inj q1
   subst this
   have := Int.ofNat.inj q2
   subst this
   obtain ⟨rfl, rfl⟩ := e.det e2
   exact ih t2
theorem Tr.pre {L : List Ob} {R : List R_ii} {ph v : Nat} {O : List Int} {S : List R_ii} {F : List Int} (h : Tr L R ph v O S F) : O <+: F := by
 induction h with
 | done _ _ => exact List.prefix_rfl
 | root _ _ e _ ih => exact e.pre.trans ih
 | none _ _ ih => exact ih
 | pop _ _ ih => exact ih
 | go _ _ e _ ih => exact e.pre.trans ih
def Zcx (n : Nat) : List Int := (List.range n).map fun (i : Nat) => (i : Int)
theorem Zsf (n : Nat) : Zcx (n + 1) = Zcx n ++ [(n : Int)] := by simp [Zcx, List.range_succ]
theorem Zp2 {n i : Nat} : (i : Int) ∈ Zcx n ↔ i < n := by
 simp only [Zcx, List.mem_map, List.mem_range]
 exact ⟨fun ⟨a, h1, h2⟩ => by omega, fun h => ⟨i, h, rfl⟩⟩
theorem Zkc (n : Nat) : (Zcx n).length = n := by simp [Zcx]
structure Zry (L : List Ob) (R : List R_ii) (X : List Ob) (U : List R_ii) (F : List Int) (rn : R_ii → R_ii) : Prop where
 u : U = R.map rn
 f : ∀ j : Nat, (j : Int) ∈ F → (ob X (F.idxOf (j : Int))).a7 = (ob L j).a7.map rn
 a : ∀ (x : R_ii) (j : Nat), ZbC L x.a0 x.a1 j → (j : Int) ∈ F → ZbC X (rn x).a0 (rn x).a1 (F.idxOf (j : Int))
 b : ∀ x : R_ii, (∀ j, ¬ ZbC L x.a0 x.a1 j) → ∀ p, ¬ ZbC X (rn x).a0 (rn x).a1 p
def mS (F : List Int) (S : List R_ii) : List R_ii := S.map fun e => ⟨((F.idxOf e.a0 : Nat) : Int), e.a1⟩
theorem ZtA {F O : List Int} {x : Int} (h : O <+: F) (hx : x ∈ O) : F.idxOf x < O.length := by
 obtain ⟨T, rfl⟩ := h
 rw [List.idxOf_append, if_pos hx]
 exact List.idxOf_lt_length_of_mem hx
theorem ZtB {F O : List Int} {x : Int} (h : O ++ [x] <+: F) (hx : ¬ x ∈ O) : F.idxOf x = O.length := by
 obtain ⟨T, rfl⟩ := h
 rw [List.append_assoc, List.idxOf_append, if_neg hx]
 simp
theorem Zq9 {L X : List Ob} {R U : List R_ii} {F O O' : List Int} {S S' : List R_ii} {rn : R_ii → R_ii} (H : Zry L R X U F rn) {x : R_ii} (h : Ent L O S x.a0 x.a1 O' S') (hp : O' <+: F) : Ent X (Zcx O.length) (mS F S) (rn x).a0 (rn x).a1 (Zcx O'.length) (mS F S') := by
 rcases h with ⟨j, h1, h2, rfl, rfl⟩ | ⟨h1, rfl, rfl⟩
 ·have hm : (j : Int) ∈ F := hp.subset (by simp)
  have hi := ZtB hp h2
  refine .inl ⟨F.idxOf (j : Int), H.a x j h1 hm, ?_, ?_, ?_⟩
  ·rw [hi, Zp2]; omega
  ·rw [List.length_append, List.length_singleton, Zsf, hi]
  ·simp [mS]
 ·refine .inr ⟨fun p hpx => ?_, rfl, rfl⟩
  by_cases hj : ∃ j, ZbC L x.a0 x.a1 j
  ·obtain ⟨j, hj⟩ := hj
   have hO := h1 j hj
   have := Zj1 hpx (H.a x j hj (hp.subset hO))
   rw [this, Zp2]
   exact ZtA hp hO
  ·exact absurd hpx (H.b x (fun j q => hj ⟨j, q⟩) p)
theorem Zp3 {α β : Type} {l : List α} {f : α → β} {i : Nat} {d : α} {e : β} (h : i < l.length) : (l.map f).getD i e = f (l.getD i d) := by
 simp [List.getD_eq_getElem?_getD, h]
abbrev rnv {L X : List Ob} {R U : List R_ii} {F : List Int} {rn : R_ii → R_ii} (H : Zry L R X U F rn) (x : R_ii) : R_ii := rn x
theorem sim {L X : List Ob} {R U : List R_ii} {F : List Int} {rn : R_ii → R_ii} (H : Zry L R X U F rn) {ph v : Nat} {O : List Int} {S : List R_ii} {F' : List Int} (h : Tr L R ph v O S F') (hF : F' = F) (hS : ∀ e ∈ S, e.a0 ∈ O) : Tr X U ph v (Zcx O.length) (mS F S) (Zcx F.length) := by
 have hU : U.length = R.length := by rw [H.u]; simp
 induction h with
 | done hs h => subst hF; exact .done (by rw [hs]; rfl) (by rw [hU]; exact h)
 | root hs h e t ih =>
  have hp := t.pre
  rw [hF] at hp
  have e2 := Zq9 H e hp
  have e4 : rn (List.getD _ _ R_ii.z) = _ := (Zp3 (f := rn) (d := R_ii.z) (e := R_ii.z) h).symm
  rw [e4, ← H.u] at e2
  exact .root (by rw [hs]; rfl) (by rw [hU]; exact h) e2 (ih hF (e.stk fun x hx => by cases hx))
 | none hs t ih => exact .none (by rw [hs]; rfl) (ih hF fun x hx => by cases hx)
 | pop hs t ih =>
  rename_i j F2
  have hp := t.pre
  rw [hF] at hp
  have hj : (j : Int) ∈ F := hp.subset (hS ⟨(j : Int), ((ob L j).a7.length : Int)⟩ (by rw [hs]; simp))
  refine .pop (j := F.idxOf (j : Int)) ?_ (ih hF fun x hx => hS x (by rw [hs]; exact List.mem_append_left _ hx))
  rw [hs, H.f j hj]
  simp [mS]
 | go hs h e t ih =>
  rename_i S0 S' j g F2
  have hp := t.pre
  rw [hF] at hp
  have hjO := hS ⟨(j : Int), (g : Int)⟩ (by rw [hs]; simp)
  have hj : (j : Int) ∈ F := hp.subset (e.pre.subset hjO)
  have e2 := Zq9 H e hp
  have hl : g < (ob X (F.idxOf (j : Int))).a7.length := by rw [H.f j hj]; simpa using h
  have hfd : rnv H (fd L j g) = fd X (F.idxOf (j : Int)) g := by
   unfold rnv fd
   rw [H.f j hj, Zp3 h]
  refine .go (j := F.idxOf (j : Int)) (g := g) (S0 := mS F S0) ?_ hl ?_ (ih hF (e.stk fun x hx => ?_))
  ·rw [hs]; simp [mS]
  ·rw [← hfd]
   have e3 : mS F (S0 ++ [⟨(j : Int), ((g + 1 : Nat) : Int)⟩]) = mS F S0 ++ [⟨((F.idxOf (j : Int) : Nat) : Int), ((g + 1 : Nat) : Int)⟩] := by simp [mS]
   rw [← e3]
   exact e2
  ·rcases List.mem_append.1 hx with q | q
   ·exact hS x (by rw [hs]; exact List.mem_append_left _ q)
   ·rw [List.mem_singleton.1 q]; exact hjO
end Pg
end Ev
end Go.Proofs.Ytmcgcapkldpjlaa
/- The walk through all objects: plain. -/
namespace Go.Proofs.Ytmcgcapkldpjlaa
open Go.RowKit
namespace Ev
namespace Pg
set_option linter.unusedVariables false
set_option linter.unusedSimpArgs false
namespace P4
def Zdq (x : Ob) : Prop := True
section
variable {L : List Ob} {Mx : List RA} {R : List R_ii} {N B v : Nat}
theorem e0 (hM : MI L 0 Mx) (k l : Int) : (∃ j : Nat, ZbC L k l j ∧ Zdq (ob L j) ∧ Za8 k l L Mx [] N = some (.r1 (ZR [] k l (j : Int)) [(j : Int)] [⟨(j : Int), 0⟩])) ∨ ((∀ j, ZbC L k l j → Zbh [] k l = true ∨ ¬ Zdq (ob L j)) ∧ Za8 k l L Mx [] N = some .r0) := by
 unfold Za8
 rcases Zn9 hM k l N with ⟨j, h1, h2⟩ | ⟨h1, y, h2⟩
 ·by_cases hy : Zdq (ob L j)
  ·refine .inl ⟨j, h1, hy, Zz h2 (ZB (by simp) (ZB (by simp [Zbh]) (Zi (by omega) (Zi h1.2.1 rfl))))⟩
  ·exact absurd trivial hy
 ·exact .inr ⟨fun j hj => absurd hj (h1 j), Zz h2 (Zi (by simp) rfl)⟩
theorem e1 (hM : MI L 0 Mx) (k l : Int) (M : List RA) (O : List Int) (S : List R_ii) (hO : O.length ≤ 100000) (hS : S.length ≤ 100000) : (∃ j : Nat, ZbC L k l j ∧ ¬ Zbh M k l = true ∧ Zdq (ob L j) ∧ ZV k l L Mx M O S N = some (.r1 (ZR M k l (j : Int)) (O ++ [(j : Int)]) (S ++ [⟨(j : Int), 0⟩]))) ∨ ((∀ j, ZbC L k l j → Zbh M k l = true ∨ ¬ Zdq (ob L j)) ∧ ZV k l L Mx M O S N = some .r0) := by
 unfold ZV
 rcases Zn9 hM k l N with ⟨j, h1, h2⟩ | ⟨h1, y, h2⟩
 ·by_cases hm : Zbh M k l = true
  ·exact .inr ⟨fun i hi => .inl hm, Zz h2 (ZB (by simp) (Zi hm rfl))⟩
  by_cases hy : Zdq (ob L j)
  ·refine .inl ⟨j, h1, hm, hy, Zz h2 (ZB (by simp) (ZB hm (Zi (by omega) (Zi h1.2.1 (Zi (by omega) (Zi (by omega) rfl))))))⟩
  ·exact absurd trivial hy
 ·exact .inr ⟨fun j hj => absurd hj (h1 j), Zz h2 (Zi (by simp) rfl)⟩
theorem e2 (hM : MI L 0 Mx) (k l : Int) (M : List RA) (O : List Int) (s : List R_ii) (n : Nat) (hO : O.length ≤ 100000) (hn : n ≤ s.length) (h1n : n ≤ 100000) : (∃ j : Nat, ZbC L k l j ∧ ¬ Zbh M k l = true ∧ Zdq (ob L j) ∧ ((n < s.length ∧ ZH k l L Mx M O s n s.length N = some (.r1 (ZR M k l (j : Int)) (s.set n ⟨(j : Int), 0⟩) (O ++ [(j : Int)]))) ∨ ZH k l L Mx M O s n s.length N = some (.r2 (ZR M k l (j : Int)) (O ++ [(j : Int)]) (s.take n ++ [⟨(j : Int), 0⟩])))) ∨ ((∀ j, ZbC L k l j → Zbh M k l = true ∨ ¬ Zdq (ob L j)) ∧ ZH k l L Mx M O s n s.length N = some .r0) := by
 unfold ZH
 rcases Zn9 hM k l N with ⟨j, h1, h2⟩ | ⟨h1, y, h2⟩
 ·by_cases hm : Zbh M k l = true
  ·exact .inr ⟨fun i hi => .inl hm, Zz h2 (ZB (by simp) (Zi hm rfl))⟩
  by_cases hy : Zdq (ob L j)
  ·refine .inl ⟨j, h1, hm, hy, ?_⟩
   by_cases hc : n + 1 ≤ s.length
   ·exact .inl ⟨hc, Zz h2 (ZB (by simp) (ZB hm (Zi (by omega) (Zi h1.2.1 (Zi (by omega) (Zi hc (Zi (by omega) rfl)))))))⟩
   ·exact .inr (Zz h2 (ZB (by simp) (ZB hm (Zi (by omega) (Zi h1.2.1 (Zi (by omega) (ZB hc (Zi h1n (Zi hn rfl)))))))))
  ·exact absurd trivial hy
 ·exact .inr ⟨fun j hj => absurd hj (h1 j), Zz h2 (Zi (by simp) rfl)⟩
def St (ph v : Nat) (M : List RA) (O : List Int) (S : List R_ii) : graph_objects_walk_2X → Prop
 | .h1m0 v' => ph = 1 ∧ v' = v ∧ M = [] ∧ O = [] ∧ S = []
 | .h1m1 v' O' s M' => ph = 1 ∧ v' = v ∧ M' = M ∧ O' = O ∧ s = S
 | .h1m2 v' O' s n c M' => ph = 1 ∧ v' = v ∧ M' = M ∧ O' = O ∧ s.take n = S ∧ n ≤ s.length ∧ c = s.length
 | .h2m0 v' => ph = 2 ∧ v' = v ∧ M = [] ∧ O = [] ∧ S = []
 | .h2m1 v' O' s M' => ph = 2 ∧ v' = v ∧ M' = M ∧ O' = O ∧ s = S
 | .h2m2 v' O' s n c M' => ph = 2 ∧ v' = v ∧ M' = M ∧ O' = O ∧ s.take n = S ∧ n ≤ s.length ∧ c = s.length
def outO : Z7 → List Int
 | .r0 => []
 | .r1 l => l
abbrev stp (L : List Ob) (Mx : List RA) (R : List R_ii) (N : Nat) := ZW L Mx R N
theorem Zsg {M : List RA} {O : List Int} {S : List R_ii} {x : graph_objects_walk_2X} (hM : MI L 0 Mx) (hx : St 1 v M O S x) (hv : v < R.length) (hO : O.length ≤ 100000) (hS : S.length ≤ 100000) :
  ∃ y M' O' S', stp L Mx R N x = some (.inl y) ∧ St 2 v M' O' S' y ∧ Zig L Zdq M O S (R.getD v R_ii.z).a0 (R.getD v R_ii.z).a1 M' O' S' := by
 cases x with
 | h1m0 v' =>
  obtain ⟨_, rfl, rfl, rfl, rfl⟩ := hx
  rcases e0 (N := N) hM (R.getD v' R_ii.z).a0 (R.getD v' R_ii.z).a1 with ⟨j, h1, h2, h3⟩ | ⟨h1, h2⟩
  ·refine ⟨.h2m1 v' _ _ _, _, _, _, ?_, ⟨rfl, rfl, rfl, rfl, rfl⟩, .inl ⟨j, h1, by simp [Zbh], h2, rfl, rfl, rfl⟩⟩
   show Zaf L Mx R N v' = _
   unfold Zaf
   exact Zi (by omega) (Zz h3 rfl)
  ·refine ⟨.h2m0 v', _, _, _, ?_, ⟨rfl, rfl, rfl, rfl, rfl⟩, .inr ⟨h1, rfl, rfl, rfl⟩⟩
   show Zaf L Mx R N v' = _
   unfold Zaf
   exact Zi (by omega) (Zz h2 rfl)
 | h1m1 v' O' s M' =>
  obtain ⟨_, rfl, rfl, rfl, rfl⟩ := hx
  rcases e1 (N := N) hM (R.getD v' R_ii.z).a0 (R.getD v' R_ii.z).a1 M' O' s hO hS with ⟨j, h1, hm, h2, h3⟩ | ⟨h1, h2⟩
  ·refine ⟨.h2m1 v' _ _ _, _, _, _, ?_, ⟨rfl, rfl, rfl, rfl, rfl⟩, .inl ⟨j, h1, hm, h2, rfl, rfl, rfl⟩⟩
   show Zag L Mx R N v' _ _ _ = _
   unfold Zag
   exact Zi (by omega) (Zz h3 rfl)
  ·refine ⟨.h2m1 v' _ _ _, _, _, _, ?_, ⟨rfl, rfl, rfl, rfl, rfl⟩, .inr ⟨h1, rfl, rfl, rfl⟩⟩
   show Zag L Mx R N v' _ _ _ = _
   unfold Zag
   exact Zi (by omega) (Zz h2 rfl)
 | h1m2 v' O' s n c M' =>
  obtain ⟨_, rfl, rfl, rfl, rfl, hn, rfl⟩ := hx
  have hn' : n ≤ 100000 := by rw [List.length_take] at hS; omega
  rcases e2 (N := N) hM (R.getD v' R_ii.z).a0 (R.getD v' R_ii.z).a1 M' O' s n hO hn hn' with ⟨j, h1, hm, h2, ⟨hc, h3⟩ | h3⟩ | ⟨h1, h2⟩
  ·refine ⟨.h2m2 v' _ _ (n + 1) s.length _, _, _, _, ?_, ⟨rfl, rfl, rfl, rfl, Zp1 hc, by simp; omega, by simp⟩, .inl ⟨j, h1, hm, h2, rfl, rfl, rfl⟩⟩
   show ZJ L Mx R N v' _ _ _ _ _ = _
   unfold ZJ
   exact Zi (by omega) (Zz h3 rfl)
  ·refine ⟨.h2m1 v' _ _ _, _, _, _, ?_, ⟨rfl, rfl, rfl, rfl, rfl⟩, .inl ⟨j, h1, hm, h2, rfl, rfl, rfl⟩⟩
   show ZJ L Mx R N v' _ _ _ _ _ = _
   unfold ZJ
   exact Zi (by omega) (Zz h3 rfl)
  ·refine ⟨.h2m2 v' _ _ _ _ _, _, _, _, ?_, ⟨rfl, rfl, rfl, rfl, rfl, hn, rfl⟩, .inr ⟨h1, rfl, rfl, rfl⟩⟩
   show ZJ L Mx R N v' _ _ _ _ _ = _
   unfold ZJ
   exact Zi (by omega) (Zz h2 rfl)
 | h2m0 v' => exact absurd hx.1 (by decide)
 | h2m1 v' O' s M' => exact absurd hx.1 (by decide)
 | h2m2 v' O' s n c M' => exact absurd hx.1 (by decide)
theorem ZsT {M : List RA} {O : List Int} {S : List R_ii} {x : graph_objects_walk_2X} (hx : St 1 v M O S x) (hv : ¬ v < R.length) :
  ∃ r, stp L Mx R N x = some (.inr r) ∧ outO r = O := by
 cases x with
 | h1m0 v' =>
  obtain ⟨_, rfl, rfl, rfl, rfl⟩ := hx
  refine ⟨.r0, ?_, rfl⟩
  show Zaf L Mx R N v' = _
  unfold Zaf
  exact ZB (by omega) rfl
 | h1m1 v' O' s M' =>
  obtain ⟨_, rfl, rfl, rfl, rfl⟩ := hx
  refine ⟨.r1 O', ?_, rfl⟩
  show Zag L Mx R N v' _ _ _ = _
  unfold Zag
  exact ZB (by omega) rfl
 | h1m2 v' O' s n c M' =>
  obtain ⟨_, rfl, rfl, rfl, rfl, hn, rfl⟩ := hx
  refine ⟨.r1 O', ?_, rfl⟩
  show ZJ L Mx R N v' _ _ _ _ _ = _
  unfold ZJ
  exact ZB (by omega) rfl
 | h2m0 v' => exact absurd hx.1 (by decide)
 | h2m1 v' O' s M' => exact absurd hx.1 (by decide)
 | h2m2 v' O' s n c M' => exact absurd hx.1 (by decide)
theorem Zsh {M : List RA} {O : List Int} {x : graph_objects_walk_2X} (hx : St 2 v M O [] x) (hv : v < 100000) :
  ∃ y, stp L Mx R N x = some (.inl y) ∧ St 1 (v + 1) M O [] y := by
 cases x with
 | h1m0 v' => exact absurd hx.1 (by decide)
 | h1m1 v' O' s M' => exact absurd hx.1 (by decide)
 | h1m2 v' O' s n c M' => exact absurd hx.1 (by decide)
 | h2m0 v' =>
  obtain ⟨_, rfl, rfl, rfl, _⟩ := hx
  refine ⟨.h1m0 (v' + 1), ?_, ⟨rfl, rfl, rfl, rfl, rfl⟩⟩
  show ZbG L Mx R N v' = _
  unfold ZbG
  exact Zi (by omega) rfl
 | h2m1 v' O' s M' =>
  obtain ⟨_, rfl, rfl, rfl, rfl⟩ := hx
  refine ⟨.h1m1 (v' + 1) O' [] M', ?_, ⟨rfl, rfl, rfl, rfl, rfl⟩⟩
  show Zah L Mx R N v' _ _ _ = _
  unfold Zah
  exact ZB (by simp) (Zi (by omega) rfl)
 | h2m2 v' O' s n c M' =>
  obtain ⟨_, rfl, rfl, rfl, hs, hn, rfl⟩ := hx
  have hn0 : n = 0 := by
   have := congrArg List.length hs
   simp at this
   rcases this with h | h
   ·exact h
   ·subst h; simpa using hn
  refine ⟨.h1m2 (v' + 1) O' s n s.length M', ?_, ⟨rfl, rfl, rfl, rfl, hs, hn, rfl⟩⟩
  show Zai L Mx R N v' _ _ _ _ _ = _
  unfold Zai
  exact ZB (by omega) (Zi (by omega) rfl)
theorem wf {f : Nat} (h : f < 100000) : IntKind.i64.wrap ((f : Int) + 1) = ((f + 1 : Nat) : Int) ∧ IntKind.i64.wrap (((f + 1 : Nat) : Int) - 1) = (f : Int) := ⟨(w64 (by omega) (by omega)).trans (by omega), (w64 (by omega) (by omega)).trans (by omega)⟩
theorem ZsU {M : List RA} {O : List Int} {S : List R_ii} {j f : Nat} {x : graph_objects_walk_2X} (hM : MI L 0 Mx) (hx : St 2 v M O (S ++ [⟨(j : Int), (f : Int)⟩]) x) (hj : j < L.length) (hf : f ≤ (ob L j).a7.length) (hF : (ob L j).a7.length ≤ 1000) (hO : O.length ≤ 1000) (hS : S.length ≤ 1000) :
  (f = (ob L j).a7.length → ∃ y, stp L Mx R N x = some (.inl y) ∧ St 2 v M O S y) ∧
  (f < (ob L j).a7.length → ∃ y M' O' S', stp L Mx R N x = some (.inl y) ∧ St 2 v M' O' S' y ∧ Zig L Zdq M O (S ++ [⟨(j : Int), ((f + 1 : Nat) : Int)⟩]) (fd L j f).a0 (fd L j f).a1 M' O' S') := by
 obtain ⟨w1, w2⟩ := wf (show f < 100000 by omega)
 have ej : ((j : Int)).toNat = j := rfl
 have ef : ((f : Int)).toNat = f := rfl
 cases x with
 | h1m0 v' => exact absurd hx.1 (by decide)
 | h1m1 v' O' s M' => exact absurd hx.1 (by decide)
 | h1m2 v' O' s n c M' => exact absurd hx.1 (by decide)
 | h2m0 v' => exact absurd hx.2.2.2.2 (by simp)
 | h2m1 v' O' s M' =>
  obtain ⟨_, rfl, rfl, rfl, hs⟩ := hx
  subst hs
  have hl : (S ++ [(⟨(j : Int), (f : Int)⟩ : R_ii)]).length = S.length + 1 := by simp
  have hl' : (S ++ [(⟨(j : Int), (f : Int)⟩ : R_ii)]).length - 1 = S.length := by simp
  have hg : (S ++ [(⟨(j : Int), (f : Int)⟩ : R_ii)]).getD S.length R_ii.z = ⟨(j : Int), (f : Int)⟩ := by simp
  have hset : ∀ e : R_ii, (S ++ [(⟨(j : Int), (f : Int)⟩ : R_ii)]).set S.length e = S ++ [e] := fun e => by simp
  constructor
  ·intro hfe
   refine ⟨.h2m2 v' O' (S ++ [⟨(j : Int), (f : Int)⟩]) S.length (S.length + 1) M', ?_, ⟨rfl, rfl, rfl, rfl, by simp, by simp, by simp⟩⟩
   show Zah L Mx R N v' _ _ _ = _
   unfold Zah
   rw [hl', hg, hl]
   exact Zi (by omega) (Zi (by omega) (Zi (by show (0 : Int) ≤ (j : Int); omega) (Zi hj (Zi (by show (f : Int) = (((ob L j).a7.length : Nat) : Int); omega) rfl))))
  ·intro hfl
   have hsz : (S ++ [(⟨(j : Int), ((f + 1 : Nat) : Int)⟩ : R_ii)]).length ≤ 100000 := by simp; omega
   have hstep : ∀ z, ((ZV (fd L j f).a0 (fd L j f).a1 L Mx M' O' (S ++ [⟨(j : Int), ((f + 1 : Nat) : Int)⟩]) N).bind fun r => match r with
     | .r0 => some (.inl (graph_objects_walk_2X.h2m1 v' O' (S ++ [⟨(j : Int), ((f + 1 : Nat) : Int)⟩]) M'))
     | .r1 y0 y1 y2 => some (.inl (graph_objects_walk_2X.h2m1 v' y1 y2 y0))) = z → stp L Mx R N (.h2m1 v' O' (S ++ [⟨(j : Int), (f : Int)⟩]) M') = z := by
    intro z hz
    show Zah L Mx R N v' _ _ _ = _
    unfold Zah
    rw [hl', hg, hl]
    refine Zi (by omega) (Zi (by omega) (Zi (by show (0 : Int) ≤ (j : Int); omega) (Zi hj (ZB (by show ¬ (f : Int) = (((ob L j).a7.length : Nat) : Int); omega) ?_))))
    show (if (0 : Int) ≤ IntKind.i64.wrap (IntKind.i64.wrap ((f : Int) + 1) - 1) then _ else _) = z
    rw [w1, w2]
    refine Zi (by omega) (Zi hfl ?_)
    rw [hset]
    exact hz
   rcases e1 (N := N) hM (fd L j f).a0 (fd L j f).a1 M' O' (S ++ [⟨(j : Int), ((f + 1 : Nat) : Int)⟩]) (by omega) hsz with ⟨i, h1, hm, h2, h3⟩ | ⟨h1, h2⟩
   ·exact ⟨.h2m1 v' _ _ _, _, _, _, hstep _ (Zz h3 rfl), ⟨rfl, rfl, rfl, rfl, rfl⟩, .inl ⟨i, h1, hm, h2, rfl, rfl, rfl⟩⟩
   ·exact ⟨.h2m1 v' _ _ _, _, _, _, hstep _ (Zz h2 rfl), ⟨rfl, rfl, rfl, rfl, rfl⟩, .inr ⟨h1, rfl, rfl, rfl⟩⟩
 | h2m2 v' O' s n c M' =>
  obtain ⟨_, rfl, rfl, rfl, hs, hn, rfl⟩ := hx
  obtain ⟨t1, t2, t3, t4⟩ := ZsS (d := R_ii.z) hs hn
  constructor
  ·intro hfe
   refine ⟨.h2m2 v' O' s (n - 1) s.length M', ?_, ⟨rfl, rfl, rfl, rfl, t3, by omega, rfl⟩⟩
   show Zai L Mx R N v' _ _ _ _ _ = _
   unfold Zai
   rw [t2]
   exact Zi (by omega) (Zi (by omega) (Zi (by omega) (Zi (by show (0 : Int) ≤ (j : Int); omega) (Zi hj (Zi (by show (f : Int) = (((ob L j).a7.length : Nat) : Int); omega) (Zi (by omega) rfl))))))
  ·intro hfl
   have hstep : ∀ z, ((ZH (fd L j f).a0 (fd L j f).a1 L Mx M' O' (s.set (n - 1) ⟨(j : Int), ((f + 1 : Nat) : Int)⟩) n s.length N).bind fun r => match r with
     | .r0 => some (.inl (graph_objects_walk_2X.h2m2 v' O' (s.set (n - 1) ⟨(j : Int), ((f + 1 : Nat) : Int)⟩) n s.length M'))
     | .r1 y0 y1 y2 => some (.inl (graph_objects_walk_2X.h2m2 v' y2 y1 (n + 1) s.length y0))
     | .r2 y0 y1 y2 => some (.inl (graph_objects_walk_2X.h2m1 v' y1 y2 y0))) = z → stp L Mx R N (.h2m2 v' O' s n s.length M') = z := by
    intro z hz
    show Zai L Mx R N v' _ _ _ _ _ = _
    unfold Zai
    rw [t2]
    refine Zi (by omega) (Zi (by omega) (Zi (by omega) (Zi (by show (0 : Int) ≤ (j : Int); omega) (Zi hj (ZB (by show ¬ (f : Int) = (((ob L j).a7.length : Nat) : Int); omega) ?_)))))
    show (if (0 : Int) ≤ IntKind.i64.wrap (IntKind.i64.wrap ((f : Int) + 1) - 1) then _ else _) = z
    rw [w1, w2]
    exact Zi (by omega) (Zi hfl hz)
   have hsl : (s.set (n - 1) (⟨(j : Int), ((f + 1 : Nat) : Int)⟩ : R_ii)).length = s.length := by simp
   have he := e2 (N := N) hM (fd L j f).a0 (fd L j f).a1 M' O' (s.set (n - 1) ⟨(j : Int), ((f + 1 : Nat) : Int)⟩) n (by omega) (by omega) (by omega)
   rw [hsl] at he
   rcases he with ⟨i, h1, hm, h2, ⟨hc, h3⟩ | h3⟩ | ⟨h1, h2⟩
   ·exact ⟨.h2m2 v' _ _ (n + 1) s.length _, _, _, _, hstep _ (Zz h3 rfl), ⟨rfl, rfl, rfl, rfl, (Zp1 (by omega)).trans (by rw [t4]), by simp; omega, by simp⟩, .inl ⟨i, h1, hm, h2, rfl, rfl, rfl⟩⟩
   ·exact ⟨.h2m1 v' _ _ _, _, _, _, hstep _ (Zz h3 rfl), ⟨rfl, rfl, rfl, rfl, by rw [t4]⟩, .inl ⟨i, h1, hm, h2, rfl, rfl, rfl⟩⟩
   ·exact ⟨.h2m2 v' _ _ n _ _, _, _, _, hstep _ (Zz h2 rfl), ⟨rfl, rfl, rfl, rfl, t4 _, by simp; omega, by simp⟩, .inr ⟨h1, rfl, rfl, rfl⟩⟩
structure Met (L : List Ob) (R : List R_ii) (O : List Int) : Prop where
 o : ∀ x ∈ O, ∃ j : Nat, x = (j : Int) ∧ ZbC L (ob L j).a0 (ob L j).a1 j
 c : ∀ j : Nat, (j : Int) ∈ O → ∀ q, q < (ob L j).a7.length → ∀ j', ZbC L (fd L j q).a0 (fd L j q).a1 j' → Zdq (ob L j') → (j' : Int) ∈ O
 r : ∀ q, q < R.length → ∀ j', ZbC L (R.getD q R_ii.z).a0 (R.getD q R_ii.z).a1 j' → Zdq (ob L j') → (j' : Int) ∈ O
 g : ∀ T, Gen L Zdq R T → ∀ j : Nat, (j : Int) ∈ O → T j
 b : O.length ≤ 96
theorem Zug {B v : Nat} {M M' : List RA} {O O' : List Int} {S S' : List R_ii} {k l : Int} (I : Inv L Zdq R B v M O S) (h : Zig L Zdq M O S k l M' O' S') : Ent L O S k l O' S' := by
 rcases h with ⟨i, a1, a2, _, _, e1, e2⟩ | ⟨a1, _, e1, e2⟩
 ·exact .inl ⟨i, a1, fun q => a2 ((Zj2 I a1).2 q), e1, e2⟩
 ·exact .inr ⟨fun i hi => (a1 i hi).elim (fun q => (Zj2 I hi).1 q) (fun q => absurd trivial q), e1, e2⟩
theorem goes (hM : MI L 0 Mx) (hF : ∀ j, (ob L j).a7.length ≤ 1000) (hR : R.length ≤ 1000) : ∀ d ph v M O S x f, Inv L Zdq R 96 v M O S → St ph v M O S x → (ph = 1 ∨ v < R.length) → v ≤ R.length → ZbI L O L.length + ZbT L S + 2 * (R.length - v) + (2 - ph) ≤ d → (ph = 1 ∨ ph = 2) → (ph = 1 → S = []) → (ph = 2 → ∀ j', ZbC L (R.getD v R_ii.z).a0 (R.getD v R_ii.z).a1 j' → Zdq (ob L j') → (j' : Int) ∈ O) → d < f → ∃ r, ZbV (stp L Mx R N) f x = some r ∧ Met L R (outO r) ∧ Tr L R ph v O S (outO r) := by
 intro d
 induction d using Nat.strongRecOn with
 | ind d ih =>
  intro ph v M O S x f I hx hp hv hd hph hS hcur hf
  obtain ⟨f, rfl⟩ : ∃ j, f = j + 1 := ⟨f - 1, by omega⟩
  have hb := I.b
  have hl := I.l
  rcases hph with rfl | rfl
  ·by_cases h : v < R.length
   ·obtain rfl := hS rfl
    obtain ⟨y, M', O', S', h1, h2, h3⟩ := Zsg (N := N) hM hx h (by omega) (by omega)
    obtain ⟨I', k1, k2, k3, k4⟩ := ZnY I (fun T hT j hj hy => hT.1 v j h hj hy) h3
    have hO : ZbI L O' L.length + ZbT L S' ≤ ZbI L O L.length + ZbT L [] := by
     by_cases e : O' = O
     ·subst e; omega
     ·have := k4 e; omega
    obtain ⟨r, q1, q2, q3⟩ := ih (ZbI L O' L.length + ZbT L S' + 2 * (R.length - v)) (by omega) 2 v M' O' S' y f I' h2 (.inr h) hv (by omega) (.inr rfl) (fun q => by omega) (fun _ => k1) (by omega)
    exact ⟨r, (ZaG h1).trans q1, q2, .root rfl h (Zug I h3) q3⟩
   ·obtain ⟨r, h1, h2⟩ := ZsT (L := L) (Mx := Mx) (N := N) hx h
    refine ⟨r, ZaS h1, ?_⟩
    rw [h2]
    obtain rfl := hS rfl
    refine ⟨⟨I.o, fun j hj q hq j' h3 h4 => ?_, fun q hq j' h3 h4 => I.r q (by omega) hq j' h3 h4, I.g, by omega⟩, .done rfl h⟩
    rcases I.c j hj q hq j' h3 h4 with h5 | ⟨_, h5, _⟩
    ·exact h5
    ·cases h5
  ·have hv' : v < R.length := hp.elim (fun q => by omega) id
   rcases List.eq_nil_or_concat S with rfl | ⟨S0, e, rfl⟩
   ·obtain ⟨y, h1, h2⟩ := Zsh (L := L) (Mx := Mx) (R := R) (N := N) hx (by omega)
    have I' : Inv L Zdq R 96 (v + 1) M O [] := by
     refine ⟨I.o, I.m, I.s, I.c, fun q h3 h4 j' h5 h6 => ?_, I.g, I.b, I.l⟩
     by_cases hq : q < v
     ·exact I.r q hq h4 j' h5 h6
     ·obtain rfl : q = v := by omega
      exact hcur rfl j' h5 h6
    obtain ⟨r, q1, q2, q3⟩ := ih (ZbI L O L.length + ZbT L [] + 2 * (R.length - (v + 1)) + 1) (by omega) 1 (v + 1) M O [] y f I' h2 (.inl rfl) (by omega) (by omega) (.inl rfl) (fun _ => rfl) (fun q => by omega) (by omega)
    exact ⟨r, (ZaG h1).trans q1, q2, .none rfl q3⟩
   ·rw [List.concat_eq_append] at I hx hd hb hl ⊢
    obtain ⟨j, g, rfl, hj, hg⟩ := I.s e (by simp)
    have hjl : j < L.length := by
     obtain ⟨i, e1, e2⟩ := I.o _ hj
     obtain rfl : i = j := by omega
     exact e2.2.1
    rw [List.length_append, List.length_singleton] at hl
    obtain ⟨p1, p2⟩ := ZsU (N := N) hM hx hjl hg (hF j) (by omega) (by omega)
    by_cases h : g = (ob L j).a7.length
    ·obtain ⟨y, h1, h2⟩ := p1 h
     have hs : ZbT L (S0 ++ [⟨(j : Int), (g : Int)⟩]) = ZbT L S0 + 1 := by
      rw [Zg4]
      show ZbT L S0 + (((ob L j).a7.length + 1 - g) + 0) = _
      omega
     subst h
     obtain ⟨r, q1, q2, q3⟩ := ih (ZbI L O L.length + ZbT L S0 + 2 * (R.length - v)) (by omega) 2 v M O S0 y f (Zt9 I) h2 (.inr hv') hv (by omega) (.inr rfl) (fun q => by omega) hcur (by omega)
     exact ⟨r, (ZaG h1).trans q1, q2, .pop rfl q3⟩
    ·have hlt : g < (ob L j).a7.length := by omega
     obtain ⟨y, M', O', S', h1, h2, h3⟩ := p2 hlt
     have hT : ∀ T, Gen L Zdq R T → ∀ j', ZbC L (fd L j g).a0 (fd L j g).a1 j' → Zdq (ob L j') → T j' := fun T hT j' he hy => hT.2 j g j' (I.g T hT j hj) hlt he hy
     have fin : ∀ tl : List R_ii, S' = S0 ++ ⟨(j : Int), ((g + 1 : Nat) : Int)⟩ :: tl → Zig L Zdq M O (S0 ++ [⟨(j : Int), (g : Int)⟩]) (fd L j g).a0 (fd L j g).a1 M' O' (S0 ++ ⟨(j : Int), (g : Int)⟩ :: tl) → Ent L O (S0 ++ [⟨(j : Int), ((g + 1 : Nat) : Int)⟩]) (fd L j g).a0 (fd L j g).a1 O' S' → ∃ r, ZbV (stp L Mx R N) (f + 1) x = some r ∧ Met L R (outO r) ∧ Tr L R 2 v O (S0 ++ [⟨(j : Int), (g : Int)⟩]) (outO r) := by
      intro tl hS' E hE
      obtain ⟨I1, k1, k2, k3, k4⟩ := ZnY I hT E
      obtain ⟨I2, hs⟩ := ZsR hlt I1 k1
      rw [← hS'] at I2 hs
      have hm : ZbI L O' L.length + ZbT L S' < ZbI L O L.length + ZbT L (S0 ++ [⟨(j : Int), (g : Int)⟩]) := by
       by_cases e : O' = O
       ·subst e; omega
       ·have := k4 e; omega
      obtain ⟨r, q1, q2, q3⟩ := ih (ZbI L O' L.length + ZbT L S' + 2 * (R.length - v)) (by omega) 2 v M' O' S' y f I2 h2 (.inr hv') hv (by omega) (.inr rfl) (fun q => by omega) (fun _ j' e1 e2 => k2 _ (hcur rfl j' e1 e2)) (by omega)
      exact ⟨r, (ZaG h1).trans q1, q2, .go rfl hlt hE q3⟩
     rcases h3 with ⟨i, a1, a2, a3, rfl, rfl, rfl⟩ | ⟨a1, rfl, rfl, rfl⟩
     ·exact fin [⟨(i : Int), 0⟩] (by simp) (.inl ⟨i, a1, a2, a3, rfl, rfl, by simp⟩) (.inl ⟨i, a1, fun q => a2 ((Zj2 I a1).2 q), rfl, rfl⟩)
     ·exact fin [] rfl (.inr ⟨a1, rfl, rfl, rfl⟩) (.inr ⟨fun i hi => (a1 i hi).elim (fun q => (Zj2 I hi).1 q) (fun q => absurd trivial q), rfl, rfl⟩)
theorem walk_is (hM : MI L 0 Mx) (hF : ∀ j, (ob L j).a7.length ≤ 1000) (hR : R.length ≤ 1000) (hB : ZbI L [] L.length ≤ 96) (hN : 10000 ≤ N) : ∃ r, Zcp L Mx R N = some r ∧ Met L R (outO r) ∧ Tr L R 1 0 [] [] (outO r) := by
 refine (fun ⟨r, h1, h2⟩ => ⟨r, (ZcC (x := graph_objects_walk_2X.h1m0 0) rfl).trans h1, h2⟩) (goes (N := N) hM hF hR (ZbI L [] L.length + ZbT L [] + 2 * (R.length - 0) + (2 - 1)) 1 0 [] [] [] (.h1m0 0) N (inv_0 hB) ⟨rfl, rfl, rfl, rfl, rfl⟩ (.inl rfl) (Nat.zero_le _) (by omega) (.inl rfl) (fun _ => rfl) (fun q => by omega) (by simp only [ZbT]; omega))
end
end P4
end Pg
end Ev
end Go.Proofs.Ytmcgcapkldpjlaa
/- Renaming. -/
namespace Go.Proofs.Ytmcgcapkldpjlaa
open Go.RowKit
namespace Ev
namespace Pg
set_option linter.unusedVariables false
set_option linter.unusedSimpArgs false
theorem Zp4 (a b v u k l : Int) : ∀ M : List RB, Zcj (Zc9 M a b v u) k l = ((k == a && l == b) || Zcj M k l)
 | [] => by simp [Zc9, Zcj]
 | x :: M => by
  unfold Zc9
  by_cases h : (a == x.a0 && b == x.a1) = true
  ·rw [if_pos h]
   simp only [Bool.and_eq_true, beq_iff_eq] at h
   simp [Zcj, h.1, h.2]
  ·rw [if_neg h]
   have ih := Zp4 a b v u k l M
   unfold Zcj at ih ⊢
   rw [List.any_cons, List.any_cons, ih]
   cases (k == x.a0 && l == x.a1) <;> cases (k == a && l == b) <;> rfl
theorem Zp5 (a b v u k l : Int) : ∀ M : List RB, Zcy (Zc9 M a b v u) k l = if k = a ∧ l = b then ⟨a, b, v, u⟩ else Zcy M k l
 | [] => by
  by_cases h : k = a ∧ l = b
  ·rw [if_pos h]; simp [Zc9, Zcy, h.1, h.2]
  ·rw [if_neg h]
   have h' : (k == a && l == b) = false := by cases e : (k == a && l == b) with
    | false => rfl
    | true => simp only [Bool.and_eq_true, beq_iff_eq] at e; exact absurd e h
   simp [Zc9, Zcy, h']
 | x :: M => by
  unfold Zc9
  by_cases h : (a == x.a0 && b == x.a1) = true
  ·rw [if_pos h]
   simp only [Bool.and_eq_true, beq_iff_eq] at h
   by_cases hk : k = a ∧ l = b
   ·rw [if_pos hk]; simp [Zcy, hk.1, hk.2]
   ·rw [if_neg hk]
    have h' : (k == a && l == b) = false := by cases e : (k == a && l == b) with
     | false => rfl
     | true => simp only [Bool.and_eq_true, beq_iff_eq] at e; exact absurd e hk
    have h'' : (k == x.a0 && l == x.a1) = false := by rw [← h.1, ← h.2]; exact h'
    simp only [Zcy, List.find?_cons, h', h'']
  ·rw [if_neg h]
   have ih := Zp5 a b v u k l M
   cases e : (k == x.a0 && l == x.a1) with
   | true =>
    have hk : ¬ (k = a ∧ l = b) := fun q => by rw [q.1, q.2] at e; exact h e
    rw [if_neg hk]
    simp only [Zcy, List.find?_cons, e]
   | false =>
    simp only [Zcy, List.find?_cons, e] at ih ⊢
    exact ih
def NM (L : List Ob) (F : List Int) (n : Nat) (M : List RB) : Prop := ∀ k l, (∃ i : Nat, i < n ∧ ZcQ L k l (F.getD i 0).toNat ∧ (∀ q, i < q → q < n → ¬ ZcQ L k l (F.getD q 0).toNat) ∧ Zcj M k l = true ∧ Z1 M k l = 2 ∧ Z2 M k l = ((i + 1048577 : Nat) : Int)) ∨ ((∀ q, q < n → ¬ ZcQ L k l (F.getD q 0).toNat) ∧ Zcj M k l = false)
theorem Zuh (L : List Ob) (F : List Int) : NM L F 0 [] := fun k l => .inr ⟨fun q h => absurd h (Nat.not_lt_zero q), rfl⟩
theorem Zui {L : List Ob} {F : List Int} {n : Nat} {M : List RB} (h : NM L F n M) : NM L F (n + 1) (Zc9 M (ob L (F.getD n 0).toNat).a0 (ob L (F.getD n 0).toNat).a1 2 ((n + 1048577 : Nat) : Int)) := by
 intro k l
 unfold Z1 Z2
 rw [Zp4, Zp5]
 by_cases hk : ZcQ L k l (F.getD n 0).toNat
 ·refine .inl ⟨n, Nat.lt_succ_self n, hk, fun q h1 h2 => by omega, ?_, ?_, ?_⟩
  ·rw [hk.1, hk.2]; simp
  ·rw [if_pos ⟨hk.1.symm, hk.2.symm⟩]
  ·rw [if_pos ⟨hk.1.symm, hk.2.symm⟩]
 ·have hn : ¬ (k = (ob L (F.getD n 0).toNat).a0 ∧ l = (ob L (F.getD n 0).toNat).a1) := fun q => hk ⟨q.1.symm, q.2.symm⟩
  have hb : (k == (ob L (F.getD n 0).toNat).a0 && l == (ob L (F.getD n 0).toNat).a1) = false := by
   cases e : (k == (ob L (F.getD n 0).toNat).a0 && l == (ob L (F.getD n 0).toNat).a1) with
   | false => rfl
   | true => simp only [Bool.and_eq_true, beq_iff_eq] at e; exact absurd e hn
  rw [if_neg hn, hb, Bool.false_or]
  rcases h k l with ⟨i, h1, h2, h3, h4, h5, h6⟩ | ⟨h1, h2⟩
  ·refine .inl ⟨i, by omega, h2, fun q q1 q2 => ?_, h4, h5, h6⟩
   by_cases e : q = n
   ·subst e; exact hk
   ·exact h3 q q1 (by omega)
  ·refine .inr ⟨fun q q1 => ?_, h2⟩
   by_cases e : q = n
   ·subst e; exact hk
   ·exact h1 q (by omega)
def ZaD (M : List RB) (v : R_ii) : R_ii := if ¬ v.a0 = 2 then v else if v.a1 = 0 then v else if Zcj M v.a0 v.a1 = true then ⟨Z1 M v.a0 v.a1, Z2 M v.a0 v.a1⟩ else ⟨2, 1125899906842625⟩
theorem ZhD {M : List RB} {v : R_ii} (h : ¬ v.a0 = 2) : ZaD M v = v := if_pos h
theorem ZhE {M : List RB} {v : R_ii} (h : v.a0 = 2) (h' : v.a1 = 0) : ZaD M v = v := (if_neg (fun q => q h)).trans (if_pos h')
theorem Zl0 {M : List RB} {v : R_ii} (h : v.a0 = 2) (h' : ¬ v.a1 = 0) (hm : Zcj M v.a0 v.a1 = true) : ZaD M v = ⟨Z1 M v.a0 v.a1, Z2 M v.a0 v.a1⟩ := (if_neg (fun q => q h)).trans ((if_neg h').trans (if_pos hm))
theorem Zg5 {M : List RB} {v : R_ii} (h : v.a0 = 2) (h' : ¬ v.a1 = 0) (hm : ¬ Zcj M v.a0 v.a1 = true) : ZaD M v = ⟨2, 1125899906842625⟩ := (if_neg (fun q => q h)).trans ((if_neg h').trans (if_neg hm))
def stR (f : R_ii → R_ii) (V : List R_ii) (i : Nat) : List R_ii := (V.take i).map f ++ V.drop i
theorem ZqA (f : R_ii → R_ii) (V : List R_ii) (i : Nat) : (stR f V i).length = V.length := by
 simp [stR]; omega
theorem ZqB {f : R_ii → R_ii} {V : List R_ii} {i : Nat} (h : i < V.length) : (stR f V i).getD i R_ii.z = V.getD i R_ii.z := by
 have e : ((V.take i).map f).length = i := by simp; omega
 unfold stR
 rw [List.getD_eq_getElem?_getD, List.getElem?_append_right (by omega), e, List.drop_eq_getElem_cons h]
 simp [h]
theorem ZtC {f : R_ii → R_ii} {V : List R_ii} {i : Nat} (h : i < V.length) : (stR f V i).set i (f (V.getD i R_ii.z)) = stR f V (i + 1) := by
 have e : ((V.take i).map f).length = i := by simp; omega
 unfold stR
 rw [← ZnX h R_ii.z, List.set_append_right _ _ (by omega), e, Nat.sub_self, List.drop_eq_getElem_cons h, List.map_append, List.append_assoc]
 rfl
theorem ZsV {l : List R_ii} {i : Nat} (h : i < l.length) : l.set i (l.getD i R_ii.z) = l := by
 rw [show l.getD i R_ii.z = l[i] by simp [h]]
 exact List.set_getElem_self h
theorem Zp6 {f : R_ii → R_ii} {V : List R_ii} {i : Nat} (h : i < V.length) : (stR f V i).set i (V.getD i R_ii.z) = stR f V i := by
 rw [← ZqB (f := f) h]
 exact ZsV (by rw [ZqA]; exact h)
def ZsW : ZM → List R_ii
 | .r0 => []
 | .r1 y => y
theorem r1_go {V : List R_ii} {M : List RB} {N : Nat} (hV : V.length ≤ 1000) : ∀ d i f, i + d = V.length → d < f → ZbV (Zcg V M N) f (.h1m1 (stR (ZaD M) V i) i) = some (.r1 (V.map (ZaD M))) := by
 intro d
 induction d with
 | zero =>
  intro i f hi hf
  obtain ⟨f, rfl⟩ : ∃ j, f = j + 1 := ⟨f - 1, by omega⟩
  refine ZaS ?_
  show Zb8 V M N _ i = _
  unfold Zb8
  have e : stR (ZaD M) V i = V.map (ZaD M) := by
   unfold stR
   rw [List.take_of_length_le (by omega), List.drop_eq_nil_of_le (by omega), List.append_nil]
  rw [e]
  exact ZB (by omega) rfl
 | succ d ih =>
  intro i f hi hf
  obtain ⟨f, rfl⟩ : ∃ j, f = j + 1 := ⟨f - 1, by omega⟩
  have hil : i < V.length := by omega
  have hg := ZqB (f := ZaD M) hil
  refine (ZaG ?_).trans (ih (i + 1) f (by omega) (by omega))
  show Zb8 V M N (stR (ZaD M) V i) i = _
  rw [← ZtC (f := ZaD M) hil]
  unfold Zb8
  rw [hg]
  refine Zi (by omega) (Zi (by rw [ZqA]; exact hil) ?_)
  by_cases h2 : (V.getD i R_ii.z).a0 = 2
  ·by_cases h0 : (V.getD i R_ii.z).a1 = 0
   ·rw [ZhE h2 h0, Zp6 hil]
    exact ZB (fun q => q h2) (Zi ⟨h2, h0⟩ (Zi (by omega) rfl))
   ·by_cases hm : Zcj M (V.getD i R_ii.z).a0 (V.getD i R_ii.z).a1 = true
    ·rw [Zl0 h2 h0 hm]
     exact ZB (fun q => q h2) (ZB (fun q => h0 q.2) (Zi hm (Zi (by omega) rfl)))
    ·rw [Zg5 h2 h0 hm]
     exact ZB (fun q => q h2) (ZB (fun q => h0 q.2) (ZB hm (Zi (by omega) rfl)))
  ·rw [ZhD h2, Zp6 hil]
   exact Zi h2 (Zi (by omega) rfl)
theorem Zng (V : List R_ii) (M : List RB) {N : Nat} (hV : V.length ≤ 1000) (hN : 2000 ≤ N) : ∃ o, ZaH V M N = some o ∧ ZsW o = V.map (ZaD M) := by
 obtain ⟨n, rfl⟩ : ∃ n, N = n + 1 := ⟨N - 1, by omega⟩
 by_cases h : V = []
 ·subst h
  refine ⟨.r0, (ZcC (x := graph_Rename_1X.h1m0) ?_).trans (ZaS rfl), rfl⟩
  unfold Zdd
  refine Zz (a := .r0) ?_ rfl
  unfold Zaz
  exact Zi rfl rfl
 ·have h0 : 0 < V.length := List.length_pos_iff.2 h
  refine ⟨.r1 (V.map (ZaD M)), (ZcC (x := .h1m1 (stR (ZaD M) V 0) 0) ?_).trans (r1_go hV V.length 0 _ (by omega) (by omega)), rfl⟩
  unfold Zdd
  refine Zz (a := .r1) ?_ rfl
  unfold Zaz
  exact ZB (by omega) (Zi (by omega) rfl)
structure FO (L : List Ob) (F : List Int) : Prop where
 o : ∀ i, i < F.length → ∃ j : Nat, F.getD i 0 = (j : Int) ∧ ZbC L (ob L j).a0 (ob L j).a1 j
 n : F.Nodup
 b : F.length ≤ 96
theorem Zsi {F : List Int} (h : F.Nodup) {i j : Nat} (hi : i < F.length) (hj : j < F.length) (e : F.getD i 0 = F.getD j 0) : i = j := by
 have e1 : F.getD i 0 = F[i] := by simp [hi]
 have e2 : F.getD j 0 = F[j] := by simp [hj]
 rw [e1, e2] at e
 rw [← h.idxOf_getElem i hi, ← h.idxOf_getElem j hj, e]
theorem ZtD {L : List Ob} {F : List Int} (H : FO L F) {i p : Nat} (hi : i < F.length) (hp : p < F.length) {k l : Int} (h1 : ZcQ L k l (F.getD i 0).toNat) (h2 : ZcQ L k l (F.getD p 0).toNat) : i = p := by
 obtain ⟨j, e1, g1⟩ := H.o i hi
 obtain ⟨j', e2, g2⟩ := H.o p hp
 rw [e1, Int.toNat_natCast] at h1
 rw [e2, Int.toNat_natCast] at h2
 have a1 : (ob L j).a0 = k ∧ (ob L j).a1 = l := h1
 have a2 : (ob L j').a0 = k ∧ (ob L j').a1 = l := h2
 rw [a1.1, a1.2] at g1
 rw [a2.1, a2.2] at g2
 obtain rfl := Zj1 g1 g2
 exact Zsi H.n hi hp (e1.trans e2.symm)
theorem Znh {L : List Ob} {F : List Int} {M : List RB} (H : FO L F) (h : NM L F F.length M) {i : Nat} (hi : i < F.length) {k l : Int} (hk : ZcQ L k l (F.getD i 0).toNat) : Zcj M k l = true ∧ Z1 M k l = 2 ∧ Z2 M k l = ((i + 1048577 : Nat) : Int) := by
 rcases h k l with ⟨p, p1, p2, p3, p4, p5, p6⟩ | ⟨q1, _⟩
 ·obtain rfl := ZtD H hi p1 hk p2
  exact ⟨p4, p5, p6⟩
 ·exact absurd hk (q1 i hi)
def xo (L : List Ob) (F : List Int) (M : List RB) (i : Nat) : Ob := ⟨2, ((i + 1048577 : Nat) : Int), 1, (ob L (F.getD i 0).toNat).a3, (ob L (F.getD i 0).toNat).a4, (ob L (F.getD i 0).toNat).a5, (ob L (F.getD i 0).toNat).a6, (ob L (F.getD i 0).toNat).a7.map (ZaD M)⟩
def mk (L : List Ob) (F : List Int) (M : List RB) : List Ob := (List.range F.length).map (xo L F M)
theorem Zih (L : List Ob) (F : List Int) (M : List RB) : (mk L F M).length = F.length := by simp [mk]
theorem Zh5 {L : List Ob} {F : List Int} {M : List RB} {i : Nat} (h : i < F.length) : ob (mk L F M) i = xo L F M i := by simp [mk, h]
theorem Zsj {L : List Ob} {F : List Int} {M : List RB} {i : Nat} (h : i < F.length) : ZbC (mk L F M) 2 ((i + 1048577 : Nat) : Int) i := by
 refine ⟨⟨rfl, by omega⟩, by rw [Zih]; exact h, ?_, fun q hq e => ?_⟩
 ·show (ob (mk L F M) i).a0 = 2 ∧ (ob (mk L F M) i).a1 = _
  rw [Zh5 h]; exact ⟨rfl, rfl⟩
 ·have e2 : (ob (mk L F M) q).a1 = ((i + 1048577 : Nat) : Int) := e.2
  rw [Zh5 (by omega)] at e2
  have e3 : ((q + 1048577 : Nat) : Int) = ((i + 1048577 : Nat) : Int) := e2
  omega
theorem ZtE {L : List Ob} {R : List R_ii} {F : List Int} {M : List RB} (H : FO L F) (h : NM L F F.length M) : Zry L R (mk L F M) (R.map (ZaD M)) F (ZaD M) := by
 have hx : ∀ j : Nat, (j : Int) ∈ F → F.idxOf (j : Int) < F.length ∧ F.getD (F.idxOf (j : Int)) 0 = (j : Int) := fun j hj => by
  have h1 := List.idxOf_lt_length_of_mem hj
  refine ⟨h1, ?_⟩
  rw [show F.getD (F.idxOf (j : Int)) 0 = F[F.idxOf (j : Int)] by simp [h1]]
  exact List.getElem_idxOf h1
 refine ⟨rfl, fun j hj => ?_, fun x j he hj => ?_, fun x hn p hp => ?_⟩
 ·obtain ⟨h1, h2⟩ := hx j hj
  rw [Zh5 h1]
  show (ob L (F.getD (F.idxOf (j : Int)) 0).toNat).a7.map (ZaD M) = _
  rw [h2, Int.toNat_natCast]
 ·obtain ⟨h1, h2⟩ := hx j hj
  have hk : ZcQ L x.a0 x.a1 (F.getD (F.idxOf (j : Int)) 0).toNat := by rw [h2, Int.toNat_natCast]; exact he.2.2.1
  obtain ⟨g1, g2, g3⟩ := Znh H h h1 hk
  rw [Zl0 he.1.1 he.1.2 g1]
  show ZbC _ (Z1 M x.a0 x.a1) (Z2 M x.a0 x.a1) _
  rw [g2, g3]
  exact Zsj h1
 ·by_cases h2 : x.a0 = 2
  ·by_cases h0 : x.a1 = 0
   ·rw [ZhE h2 h0] at hp
    exact hp.1.2 h0
   ·rcases h x.a0 x.a1 with ⟨i, i1, i2, _⟩ | ⟨_, i1⟩
    ·obtain ⟨j, e1, g1⟩ := H.o i i1
     rw [e1, Int.toNat_natCast] at i2
     have a1 : (ob L j).a0 = x.a0 ∧ (ob L j).a1 = x.a1 := i2
     rw [a1.1, a1.2] at g1
     exact hn j g1
    ·rw [Zg5 h2 h0 (by rw [i1]; simp)] at hp
     have hl := hp.2.1
     rw [Zih] at hl
     have e2 : (ob (mk L F M) p).a1 = 1125899906842625 := hp.2.2.1.2
     rw [Zh5 hl] at e2
     have e3 : ((p + 1048577 : Nat) : Int) = 1125899906842625 := e2
     have := H.b
     omega
  ·rw [ZhD h2] at hp
   exact h2 hp.1.1
theorem Zsk {X : List Ob} {F : List Int} {M : List RB} (h : NM X F F.length M) (hn : ∀ q, q < F.length → ¬ ZcQ X 2 1125899906842625 (F.getD q 0).toNat) : ZaD M ⟨2, 1125899906842625⟩ = ⟨2, 1125899906842625⟩ := by
 rcases h 2 1125899906842625 with ⟨i, i1, i2, _⟩ | ⟨_, i1⟩
 ·exact absurd i2 (hn i i1)
 ·exact Zg5 rfl (by show ¬ (1125899906842625 : Int) = 0; decide) (by show ¬ Zcj M 2 1125899906842625 = true; rw [i1]; simp)
theorem Zmy {n i : Nat} (h : i < n) : (Zcx n).getD i 0 = (i : Int) := by simp [Zcx, h]
theorem idem {L : List Ob} {F : List Int} {M M2 : List RB} (H : FO L F) (h : NM L F F.length M) (H2 : FO (mk L F M) (Zcx F.length)) (h2 : NM (mk L F M) (Zcx F.length) (Zcx F.length).length M2) (x : R_ii) : ZaD M2 (ZaD M x) = ZaD M x := by
 by_cases c2 : x.a0 = 2
 ·by_cases c0 : x.a1 = 0
  ·rw [ZhE c2 c0]; exact ZhE c2 c0
  ·rcases h x.a0 x.a1 with ⟨i, i1, _, _, i2, i3, i4⟩ | ⟨_, i1⟩
   ·rw [Zl0 c2 c0 i2, i3, i4]
    have hk : ZcQ (mk L F M) 2 ((i + 1048577 : Nat) : Int) ((Zcx F.length).getD i 0).toNat := by
     rw [Zmy i1, Int.toNat_natCast]; exact (Zsj i1).2.2.1
    obtain ⟨g1, g2, g3⟩ := Znh H2 h2 (by rw [Zkc]; exact i1) hk
    refine (Zl0 rfl (by show ¬ ((i + 1048577 : Nat) : Int) = 0; omega) g1).trans ?_
    show (⟨Z1 M2 2 ((i + 1048577 : Nat) : Int), Z2 M2 2 ((i + 1048577 : Nat) : Int)⟩ : R_ii) = _
    rw [g2, g3]
   ·rw [Zg5 c2 c0 (by rw [i1]; simp)]
    refine Zsk h2 fun q hq e => ?_
    rw [Zkc] at hq
    rw [Zmy hq, Int.toNat_natCast] at e
    have e2 : (ob (mk L F M) q).a1 = 1125899906842625 := e.2
    rw [Zh5 hq] at e2
    have e3 : ((q + 1048577 : Nat) : Int) = 1125899906842625 := e2
    have := H.b
    omega
 ·rw [ZhD c2]; exact ZhD c2
theorem ZsX {L : List Ob} {F : List Int} {M M2 : List RB} (H : FO L F) (h : NM L F F.length M) (H2 : FO (mk L F M) (Zcx F.length)) (h2 : NM (mk L F M) (Zcx F.length) (Zcx F.length).length M2) : mk (mk L F M) (Zcx F.length) M2 = mk L F M := by
 show (List.range (Zcx F.length).length).map _ = (List.range F.length).map _
 rw [Zkc]
 refine List.map_congr_left fun i hi => ?_
 have hi' : i < F.length := List.mem_range.1 hi
 show (⟨2, _, 1, (ob (mk L F M) ((Zcx F.length).getD i 0).toNat).a3, (ob (mk L F M) ((Zcx F.length).getD i 0).toNat).a4, (ob (mk L F M) ((Zcx F.length).getD i 0).toNat).a5, (ob (mk L F M) ((Zcx F.length).getD i 0).toNat).a6, (ob (mk L F M) ((Zcx F.length).getD i 0).toNat).a7.map (ZaD M2)⟩ : Ob) = _
 rw [Zmy hi', Int.toNat_natCast, Zh5 hi']
 have e : ((ob L (F.getD i 0).toNat).a7.map (ZaD M)).map (ZaD M2) = (ob L (F.getD i 0).toNat).a7.map (ZaD M) := by
  rw [List.map_map]
  exact List.map_congr_left fun x _ => idem H h H2 h2 x
 show (⟨2, _, 1, (ob L (F.getD i 0).toNat).a3, (ob L (F.getD i 0).toNat).a4, (ob L (F.getD i 0).toNat).a5, (ob L (F.getD i 0).toNat).a6, ((ob L (F.getD i 0).toNat).a7.map (ZaD M)).map (ZaD M2)⟩ : Ob) = _
 rw [e]
 rfl
theorem Zsl {L : List Ob} {F : List Int} {M : List RB} (H : FO L F) : ∀ n, n ≤ F.length → ZbI (mk L F M) [] n + ZbI L (F.take n) L.length = ZbI L [] L.length
 | 0, _ => by simp [ZbI]
 | n + 1, hn => by
  have ih := Zsl (M := M) H n (by omega)
  have hnl : n < F.length := by omega
  obtain ⟨j, e1, g1⟩ := H.o n hnl
  have hno : ¬ (j : Int) ∈ F.take n := fun q => by
   obtain ⟨m, hm, e⟩ := List.mem_take_iff_getElem.1 q
   have hm1 : m < n := by omega
   have hm2 : m < F.length := by omega
   have e2 : F.getD m 0 = F.getD n 0 := by rw [e1, ← e]; simp [hm2]
   have := Zsi H.n hm2 hnl e2
   omega
  have hr := ZnA (L := L) (O := F.take n) hno L.length g1.2.1
  rw [← ZnX hnl 0, e1]
  have e3 : (ob (mk L F M) n).a7.length = (ob L j).a7.length := by
   rw [Zh5 hnl]
   show ((ob L (F.getD n 0).toNat).a7.map (ZaD M)).length = _
   rw [e1, Int.toNat_natCast, List.length_map]
  have e4 : ZbI (mk L F M) [] (n + 1) = ((ob L j).a7.length + 2) + ZbI (mk L F M) [] n := by
   simp only [ZbI]
   rw [if_neg (by simp), e3]
  omega
end Pg
end Ev
end Go.Proofs.Ytmcgcapkldpjlaa
/- The law: plain. -/
namespace Go.Proofs.Ytmcgcapkldpjlaa
open Go.RowKit
namespace Ev
namespace Pg
set_option linter.unusedVariables false
set_option linter.unusedSimpArgs false
structure Few (L : List Ob) : Prop where
 l : L.length ≤ 12
 f : ∀ j, (ob L j).a7.length ≤ 6
theorem Zsm {L : List Ob} (h : Few L) (O : List Int) : ∀ n, ZbI L O n ≤ 8 * n
 | 0 => Nat.le_refl _
 | n + 1 => by
  have ih := Zsm h O n
  have := h.f n
  simp only [ZbI]
  by_cases e : (n : Int) ∈ O
  ·simp only [e, if_true]; omega
  ·simp only [e, if_false]; omega
theorem ZqC {v : List Ob} {x : Ob} (h : ∀ j, (ob v j).a7.length ≤ 6) (hx : x.a7.length ≤ 6) : ∀ j, (ob (v ++ [x]) j).a7.length ≤ 6 := fun j => by
 by_cases h1 : j < v.length
 ·rw [show ob (v ++ [x]) j = ob v j from Zos h1]; exact h j
 ·by_cases h2 : j = v.length
  ·subst h2; rw [show ob (v ++ [x]) v.length = x from Zse]; exact hx
  ·rw [show ob (v ++ [x]) j = R_iiiiiiiA.z from ZgA (by simp; omega)]; exact Nat.zero_le _
theorem Zuj (L0 : List Ob) : ∀ d k f v, k + d = 12 → d < f → v.length = k → (∀ j, (ob v j).a7.length ≤ 6) → ∃ l, ZbV (Zby L0 100000) f (.h1m1 v k) = some (.r1 l) ∧ k ≤ l.length ∧ Few l := by
 intro d
 induction d with
 | zero =>
  intro k f v hk hf hv h6
  obtain ⟨f, rfl⟩ : ∃ j, f = j + 1 := ⟨f - 1, by omega⟩
  refine ⟨v, ZaS ?_, by omega, ⟨by omega, h6⟩⟩
  show Zbk L0 100000 v k = _
  unfold Zbk
  exact Zud (fun _ => ZB (by omega) rfl) (fun _ => rfl)
 | succ d ih =>
  intro k f v hk hf hv h6
  obtain ⟨f, rfl⟩ : ∃ j, f = j + 1 := ⟨f - 1, by omega⟩
  by_cases h : k < L0.length
  ·have go : ∀ x : Ob, x.a7.length ≤ 6 → Zby L0 100000 (.h1m1 v k) = some (.inl (.h1m1 (v ++ [x]) (k + 1))) → ∃ l, ZbV (Zby L0 100000) (f + 1) (.h1m1 v k) = some (.r1 l) ∧ k ≤ l.length ∧ Few l := fun x h7 hx => by
    obtain ⟨l, q1, q2, q3⟩ := ih (k + 1) f (v ++ [x]) (by omega) (by omega) (by simp [hv]) (ZqC h6 h7)
    exact ⟨l, (ZaG hx).trans q1, by omega, q3⟩
   by_cases h16 : (6 : Int) < (((L0.getD k R_iiiiiiiA.z).a7.length : Nat) : Int)
   ·refine go ⟨(L0.getD k R_iiiiiiiA.z).a0, (L0.getD k R_iiiiiiiA.z).a1, (L0.getD k R_iiiiiiiA.z).a2, (L0.getD k R_iiiiiiiA.z).a3, (L0.getD k R_iiiiiiiA.z).a4, (L0.getD k R_iiiiiiiA.z).a5, (L0.getD k R_iiiiiiiA.z).a6, ((L0.getD k R_iiiiiiiA.z).a7.take 6)⟩ (by simp; omega) ?_
    show Zbk L0 100000 v k = _
    unfold Zbk
    exact Zi (by omega) (Zi (by omega) (Zi h16 (Zi (by omega) rfl)))
   ·refine go ⟨(L0.getD k R_iiiiiiiA.z).a0, (L0.getD k R_iiiiiiiA.z).a1, (L0.getD k R_iiiiiiiA.z).a2, (L0.getD k R_iiiiiiiA.z).a3, (L0.getD k R_iiiiiiiA.z).a4, (L0.getD k R_iiiiiiiA.z).a5, (L0.getD k R_iiiiiiiA.z).a6, (L0.getD k R_iiiiiiiA.z).a7⟩ (by show (L0.getD k R_iiiiiiiA.z).a7.length ≤ 6; omega) ?_
    show Zbk L0 100000 v k = _
    unfold Zbk
    exact Zi (by omega) (Zi (by omega) (ZB h16 (Zi (by omega) rfl)))
  ·refine ⟨v, ZaS ?_, by omega, ⟨by omega, h6⟩⟩
   show Zbk L0 100000 v k = _
   unfold Zbk
   exact ZB (by omega) rfl
theorem Zuk (L0 : List Ob) : ZeC L0 100000 = some .r0 ∨ ∃ l, ZeC L0 100000 = some (.r1 l) ∧ 1 ≤ l.length ∧ Few l := by
 have hg : ZeC L0 100000 = ZbV (Zby L0 100000) (99999 + 1) .h1m0 := ZcC rfl
 rw [hg]
 by_cases h : 0 < L0.length
 ·refine .inr ?_
  have go : ∀ x : Ob, x.a7.length ≤ 6 → Zby L0 100000 .h1m0 = some (.inl (.h1m1 [x] 1)) → ∃ l, ZbV (Zby L0 100000) (99999 + 1) .h1m0 = some (.r1 l) ∧ 1 ≤ l.length ∧ Few l := fun x h7 hx => by
   obtain ⟨l, q1, q2, q3⟩ := Zuj L0 11 1 99999 [x] (by omega) (by omega) rfl (ZqC (v := []) (fun j => by rw [show ob [] j = R_iiiiiiiA.z from ZgA (Nat.zero_le _)]; exact Nat.zero_le _) h7)
   exact ⟨l, (ZaG hx).trans q1, q2, q3⟩
  by_cases h16 : (6 : Int) < (((L0.getD 0 R_iiiiiiiA.z).a7.length : Nat) : Int)
  ·refine go ⟨(L0.getD 0 R_iiiiiiiA.z).a0, (L0.getD 0 R_iiiiiiiA.z).a1, (L0.getD 0 R_iiiiiiiA.z).a2, (L0.getD 0 R_iiiiiiiA.z).a3, (L0.getD 0 R_iiiiiiiA.z).a4, (L0.getD 0 R_iiiiiiiA.z).a5, (L0.getD 0 R_iiiiiiiA.z).a6, ((L0.getD 0 R_iiiiiiiA.z).a7.take 6)⟩ (by simp; omega) ?_
   show ZbS L0 100000 = _
   unfold ZbS
   exact Zi (by omega) (Zi h16 rfl)
  ·refine go ⟨(L0.getD 0 R_iiiiiiiA.z).a0, (L0.getD 0 R_iiiiiiiA.z).a1, (L0.getD 0 R_iiiiiiiA.z).a2, (L0.getD 0 R_iiiiiiiA.z).a3, (L0.getD 0 R_iiiiiiiA.z).a4, (L0.getD 0 R_iiiiiiiA.z).a5, (L0.getD 0 R_iiiiiiiA.z).a6, (L0.getD 0 R_iiiiiiiA.z).a7⟩ (by show (L0.getD 0 R_iiiiiiiA.z).a7.length ≤ 6; omega) ?_
   show ZbS L0 100000 = _
   unfold ZbS
   exact Zi (by omega) (ZB h16 rfl)
 ·refine .inl (ZaS ?_)
  show ZbS L0 100000 = _
  unfold ZbS
  exact ZB (by omega) rfl
theorem Zot {V : List R_ii} (hV : V.length ≤ 1000) : ∀ d i f, i + d = V.length → d < f → ZbV (ZdN V V 100000) f (.h1m0 i) = some (.r0 true) := by
 intro d
 induction d with
 | zero =>
  intro i f hi hf
  obtain ⟨f, rfl⟩ : ∃ j, f = j + 1 := ⟨f - 1, by omega⟩
  refine ZaS ?_
  show Zco V V 100000 i = _
  unfold Zco
  exact ZB (by omega) rfl
 | succ d ih =>
  intro i f hi hf
  obtain ⟨f, rfl⟩ : ∃ j, f = j + 1 := ⟨f - 1, by omega⟩
  refine (ZaG ?_).trans (ih (i + 1) f (by omega) (by omega))
  show Zco V V 100000 i = _
  unfold Zco
  exact Zi (by omega) (Zi (by omega) (ZB (fun q => q ⟨rfl, rfl⟩) (Zi (by omega) rfl)))
theorem Zf7 {V : List R_ii} (hV : V.length ≤ 1000) : ZbF V V 100000 = some (.r0 true) := by
 refine (ZcC (x := .h1m0 0) ?_).trans (Zot hV V.length 0 100000 (by omega) (by omega))
 unfold Zge
 exact ZB (fun q => q rfl) rfl
theorem Zou {V : List R_ii} (hV : V.length ≤ 1000) : ∀ d i f, i + d = V.length → d < f → ZbV (ZdM V V 100000) f (.h1m0 i) = some (.r0 true) := by
 intro d
 induction d with
 | zero =>
  intro i f hi hf
  obtain ⟨f, rfl⟩ : ∃ j, f = j + 1 := ⟨f - 1, by omega⟩
  refine ZaS ?_
  show Zcn V V 100000 i = _
  unfold Zcn
  exact ZB (by omega) rfl
 | succ d ih =>
  intro i f hi hf
  obtain ⟨f, rfl⟩ : ∃ j, f = j + 1 := ⟨f - 1, by omega⟩
  refine (ZaG ?_).trans (ih (i + 1) f (by omega) (by omega))
  show Zcn V V 100000 i = _
  unfold Zcn
  exact Zi (by omega) (Zi (by omega) (ZB (fun q => q ⟨rfl, rfl⟩) (Zi (by omega) rfl)))
theorem Zhk {V : List R_ii} (hV : V.length ≤ 1000) : Zd1 V V 100000 = some (.r0 true) := by
 refine (ZcC (x := .h1m0 0) ?_).trans (Zou hV V.length 0 100000 (by omega) (by omega))
 unfold Zgd
 exact ZB (fun q => q rfl) rfl
theorem ZtF {O : List Int} {x : Int} (hO : O.Nodup) (h : ¬ x ∈ O) : (O ++ [x]).Nodup := by
 refine List.nodup_append.2 ⟨hO, by simp, fun a ha b hb => ?_⟩
 rw [List.mem_singleton.1 hb]
 exact fun e => h (e ▸ ha)
theorem Ent.nd {L : List Ob} {O : List Int} {S : List R_ii} {k l : Int} {O' : List Int} {S' : List R_ii} (h : Ent L O S k l O' S') (hO : O.Nodup) : O'.Nodup := by
 rcases h with ⟨j, h1, h2, rfl, rfl⟩ | ⟨h1, rfl, rfl⟩
 ·exact ZtF hO h2
 ·exact hO
theorem Tr.nd {L : List Ob} {R : List R_ii} {ph v : Nat} {O : List Int} {S : List R_ii} {F : List Int} (h : Tr L R ph v O S F) (hO : O.Nodup) : F.Nodup := by
 induction h with
 | done _ _ => exact hO
 | root _ _ e _ ih => exact ih (e.nd hO)
 | none _ _ ih => exact ih hO
 | pop _ _ ih => exact ih hO
 | go _ _ e _ ih => exact ih (e.nd hO)
structure Cn (L : List Ob) (R : List R_ii) : Prop where
 l : L.length ≤ 1000
 f : ∀ j, (ob L j).a7.length ≤ 1000
 r : R.length ≤ 1000
 b : ZbI L [] L.length ≤ 96
abbrev Zp7 (L : List Ob) (R : List R_ii) := ZaY L R 100000
section
variable {L : List Ob} {R : List R_ii} {F : List Int} {M : List RB}
theorem nm_go (H : FO L F) : ∀ d i f M, i + d = F.length → NM L F i M → ∃ M', NM L F F.length M' ∧ ZbV (Zp7 L R) (f + (d + 1)) (.h1m1 F F.length i M) = ZbV (Zp7 L R) f (.h2m1 F F.length M') := by
 have hb := H.b
 intro d
 induction d with
 | zero =>
  intro i f M hi h
  obtain rfl : i = F.length := by omega
  refine ⟨M, h, ZaG ?_⟩
  show Zb9 L R 100000 F F.length F.length M = _
  unfold Zb9
  exact ZB (by omega) rfl
 | succ d ih =>
  intro i f M hi h
  have hil : i < F.length := by omega
  obtain ⟨j, e1, g1⟩ := H.o i hil
  obtain ⟨M', h1, h2⟩ := ih (i + 1) f _ (by omega) (Zui h)
  refine ⟨M', h1, (ZaG (n := f + (d + 1)) ?_).trans h2⟩
  show Zb9 L R 100000 F F.length i M = _
  unfold Zb9
  exact Zi (by omega) (Zi hil (Zi (by rw [e1]; omega) (Zi (by rw [e1, Int.toNat_natCast]; exact g1.2.1) (Zi (by omega) (Zi (by omega) rfl)))))
theorem Zth (H : FO L F) (h : NM L F F.length M) {i : Nat} (hi : i < F.length) {o : ZM} (ho : ZsW o = (ob L (F.getD i 0).toNat).a7.map (ZaD M)) : (⟨Z1 M (ob L (F.getD i 0).toNat).a0 (ob L (F.getD i 0).toNat).a1, Z2 M (ob L (F.getD i 0).toNat).a0 (ob L (F.getD i 0).toNat).a1, 1, (ob L (F.getD i 0).toNat).a3, (ob L (F.getD i 0).toNat).a4, (ob L (F.getD i 0).toNat).a5, (ob L (F.getD i 0).toNat).a6, ZsW o⟩ : Ob) = xo L F M i := by
 obtain ⟨_, g2, g3⟩ := Znh H h hi (k := (ob L (F.getD i 0).toNat).a0) (l := (ob L (F.getD i 0).toNat).a1) ⟨rfl, rfl⟩
 rw [g2, g3, ho]
 rfl
theorem ZsY (C : Cn L R) (H : FO L F) (h : NM L F F.length M) (h0 : 0 < F.length) : Zp7 L R (.h2m1 F F.length M) = some (.inl (.h2m2 ((List.range 1).map (xo L F M)) F F.length 1 M)) := by
 obtain ⟨j, e1, g1⟩ := H.o 0 h0
 obtain ⟨o, h1, h2⟩ := Zng (ob L (F.getD 0 0).toNat).a7 M (N := 100000) (C.f _) (by decide)
 have hx := Zth H h h0 h2
 obtain ⟨g2, _, _⟩ := Znh H h h0 (k := (ob L (F.getD 0 0).toNat).a0) (l := (ob L (F.getD 0 0).toNat).a1) ⟨rfl, rfl⟩
 show ZbA L R 100000 F F.length M = _
 unfold ZbA
 refine Zi (by omega) (Zi h0 (Zi (by rw [e1]; omega) (Zi (by rw [e1, Int.toNat_natCast]; exact g1.2.1) (Zi g2 (Zz h1 ?_)))))
 have hy := congrArg (fun y => (some (.inl (.h2m2 [y] F F.length 1 M)) : Option (graph_Rename_2X ⊕ Z8))) hx
 cases o with
 | r0 => exact hy
 | r1 w => exact hy
theorem ob_go (C : Cn L R) (H : FO L F) (h : NM L F F.length M) : ∀ d i f, i + d = F.length → d < f → ZbV (Zp7 L R) f (.h2m2 ((List.range i).map (xo L F M)) F F.length i M) = some (.r1 (mk L F M) (R.map (ZaD M))) := by
 have hb := H.b
 intro d
 induction d with
 | zero =>
  intro i f hi hf
  obtain ⟨f, rfl⟩ : ∃ j, f = j + 1 := ⟨f - 1, by omega⟩
  obtain rfl : i = F.length := by omega
  obtain ⟨o, h1, h2⟩ := Zng R M (N := 100000) C.r (by decide)
  refine ZaS ?_
  show ZbB L R 100000 _ F F.length F.length M = _
  unfold ZbB
  refine ZB (by omega) (Zz h1 ?_)
  have hy := congrArg (fun y => (some (.inr (.r1 (mk L F M) y)) : Option (graph_Rename_2X ⊕ Z8))) h2
  cases o with
  | r0 => exact hy
  | r1 w => exact hy
 | succ d ih =>
  intro i f hi hf
  obtain ⟨f, rfl⟩ : ∃ j, f = j + 1 := ⟨f - 1, by omega⟩
  have hil : i < F.length := by omega
  obtain ⟨j, e1, g1⟩ := H.o i hil
  obtain ⟨o, h1, h2⟩ := Zng (ob L (F.getD i 0).toNat).a7 M (N := 100000) (C.f _) (by decide)
  have hx := Zth H h hil h2
  obtain ⟨g2, _, _⟩ := Znh H h hil (k := (ob L (F.getD i 0).toNat).a0) (l := (ob L (F.getD i 0).toNat).a1) ⟨rfl, rfl⟩
  refine (ZaG ?_).trans (ih (i + 1) f (by omega) (by omega))
  show ZbB L R 100000 _ F F.length i M = _
  unfold ZbB
  have hr : (List.range (i + 1)).map (xo L F M) = (List.range i).map (xo L F M) ++ [xo L F M i] := by simp [List.range_succ]
  rw [hr, ← hx]
  have hl : ((List.range i).map (xo L F M)).length ≤ 100000 := by simp; omega
  refine Zi (by omega) (Zi hil (Zi (by rw [e1]; omega) (Zi (by rw [e1, Int.toNat_natCast]; exact g1.2.1) (Zi g2 (Zz h1 ?_)))))
  cases o with
  | r0 => exact Zi hl (Zi (by omega) rfl)
  | r1 w => exact Zi hl (Zi (by omega) rfl)
theorem ZqD (C : Cn L R) : ∃ F, FO L F ∧ Tr L R 1 0 [] [] F ∧ ((F = [] ∧ ZaI L R 100000 = some (.r0 (R.map (ZaD [])))) ∨ (F ≠ [] ∧ ∃ M, NM L F F.length M ∧ ZaI L R 100000 = some (.r1 (mk L F M) (R.map (ZaD M))))) := by
 obtain ⟨Mx, hM, hi⟩ := ZsQ (L := L) (N := 100000) C.l (by decide)
 obtain ⟨r, h1, h2, h3⟩ := P4.walk_is (R := R) (N := 100000) hM C.f C.r C.b (by decide)
 have H : FO L (P4.outO r) := ⟨fun i hil => by
  obtain ⟨j, e1, e2⟩ := h2.o ((P4.outO r).getD i 0) (by rw [show (P4.outO r).getD i 0 = (P4.outO r)[i] by simp [hil]]; exact List.getElem_mem hil)
  exact ⟨j, e1, e2⟩, h3.nd List.Pairwise.nil, h2.b⟩
 refine ⟨P4.outO r, H, h3, ?_⟩
 obtain ⟨o, o1, o2⟩ := Zng R [] (N := 100000) C.r (by decide)
 have hy := congrArg (fun y => (some (.inr (.r0 y)) : Option (graph_Rename_2X ⊕ Z8))) o2
 cases r with
 | r0 =>
  refine .inl ⟨rfl, (ZcC (x := graph_Rename_2X.h1m0) ?_).trans ((ZaG (n := 99999) (y := .h2m0) rfl).trans (ZaS (n := 99998) ?_))⟩
  ·unfold Zdf
   exact Zz hi (Zz h1 rfl)
  ·show Zc0 L R 100000 = _
   unfold Zc0
   refine Zz o1 ?_
   cases o with
   | r0 => exact hy
   | r1 w => exact hy
 | r1 F =>
  have hg : ZaI L R 100000 = ZbV (Zp7 L R) 100000 (.h1m1 F F.length 0 []) := ZcC (by
   unfold Zdf
   exact Zz hi (Zz h1 rfl))
  have H' : FO L F := H
  have hb := H'.b
  by_cases hF : F = []
  ·subst hF
   refine .inl ⟨rfl, hg.trans ((ZaG (n := 99999) (y := .h2m1 [] 0 []) rfl).trans (ZaS (n := 99998) ?_))⟩
   show ZbA L R 100000 [] 0 [] = _
   unfold ZbA
   refine ZB (by omega) (Zz o1 ?_)
   cases o with
   | r0 => exact hy
   | r1 w => exact hy
  ·have h0 : 0 < F.length := List.length_pos_iff.2 hF
   obtain ⟨M, m1, m2⟩ := nm_go (R := R) H' F.length 0 (100000 - (F.length + 1)) [] (by omega) (Zuh L F)
   have e9 : 100000 - (F.length + 1) + (F.length + 1) = (100000 : Nat) := by omega
   rw [e9] at m2
   refine .inr ⟨hF, M, m1, hg.trans (m2.trans ?_)⟩
   obtain ⟨f, ef⟩ : ∃ f, 100000 - (F.length + 1) = f + 1 := ⟨100000 - (F.length + 1) - 1, by omega⟩
   rw [ef]
   exact (ZaG (ZsY C H' m1 h0)).trans (ob_go C H' m1 (F.length - 1) 1 f (by omega) (by omega))
theorem again (C : Cn L R) (H : FO L F) (T : Tr L R 1 0 [] [] F) (h : NM L F F.length M) (hne : F ≠ []) : ZaI (mk L F M) (R.map (ZaD M)) 100000 = some (.r1 (mk L F M) (R.map (ZaD M))) := by
 have hb := H.b
 have h0 : 0 < F.length := List.length_pos_iff.2 hne
 have C2 : Cn (mk L F M) (R.map (ZaD M)) := by
  refine ⟨by rw [Zih]; omega, fun j => ?_, by rw [List.length_map]; exact C.r, ?_⟩
  ·by_cases hj : j < F.length
   ·rw [Zh5 hj]
    show ((ob L (F.getD j 0).toNat).a7.map (ZaD M)).length ≤ 1000
    rw [List.length_map]; exact C.f _
   ·rw [show ob (mk L F M) j = R_iiiiiiiA.z from ZgA (by rw [Zih]; omega)]; exact Nat.zero_le _
  ·have := Zsl (M := M) H F.length (Nat.le_refl _)
   have := C.b
   rw [Zih]; omega
 obtain ⟨F2, H2, T2, h2⟩ := ZqD C2
 obtain rfl : F2 = Zcx F.length := T2.det (sim (ZtE H h) T rfl (fun e he => by cases he))
 rcases h2 with ⟨e, _⟩ | ⟨_, M2, n2, r2⟩
 ·have := Zkc F.length
  rw [e] at this
  have : (0 : Nat) = F.length := this
  omega
 ·rw [ZsX H h H2 n2, List.map_map] at r2
  rw [r2]
  have e : R.map (ZaD M2 ∘ ZaD M) = R.map (ZaD M) := List.map_congr_left fun x _ => idem H h H2 n2 x
  rw [e]
end
theorem Zsn (x : R_ii) : ZaD [] (ZaD [] x) = ZaD [] x := by
 by_cases h2 : x.a0 = 2
 ·by_cases h0 : x.a1 = 0
  ·rw [ZhE h2 h0]; exact ZhE h2 h0
  ·rw [Zg5 h2 h0 (by simp [Zcj])]
   exact Zg5 rfl (by show ¬ (1125899906842625 : Int) = 0; decide) (by simp [Zcj])
 ·rw [ZhD h2]; exact ZhD h2
theorem Zso (V : List R_ii) : (V.map (ZaD [])).map (ZaD []) = V.map (ZaD []) := by
 rw [List.map_map]
 exact List.map_congr_left fun x _ => Zsn x
theorem walk0 (V : List R_ii) (a b : Int) : Zbt a b [] [] 100000 = some .r0 := by
 have hf : ∃ y, ZbJ [] a b 100000 = some (.r0 y false) := by
  unfold ZbJ
  by_cases hk : a = 2
  ·by_cases hl : b = 0
   ·exact ⟨_, ZB (fun q => q hk) (Zi ⟨hk, hl⟩ rfl)⟩
   ·exact ⟨_, ZB (fun q => q hk) (ZB (fun q => hl q.2) (ZB (by simp [Zbh]) rfl))⟩
  ·exact ⟨_, Zi hk rfl⟩
 obtain ⟨y, hf⟩ := hf
 unfold Zbt
 exact Zz hf (Zi (by simp) rfl)
theorem ZsZ {V : List R_ii} (hV : V.length ≤ 1000) : ∀ d i f, i + d = V.length → 2 * d < f → ZbV (Zb3 [] V 100000) f (.h1m0 i) = some .r0 := by
 intro d
 induction d with
 | zero =>
  intro i f hi hf
  obtain ⟨f, rfl⟩ : ∃ j, f = j + 1 := ⟨f - 1, by omega⟩
  refine ZaS ?_
  show ZaU [] V 100000 i = _
  unfold ZaU
  exact ZB (by omega) rfl
 | succ d ih =>
  intro i f hi hf
  obtain ⟨f, rfl⟩ : ∃ j, f = j + 2 := ⟨f - 2, by omega⟩
  refine (ZaG (n := f + 1) (y := .h2m0 i) ?_).trans ((ZaG (n := f) ?_).trans (ih (i + 1) f (by omega) (by omega)))
  ·show ZaU [] V 100000 i = _
   unfold ZaU
   exact Zi (by omega) (Zz (walk0 V _ _) rfl)
  ·show ZbU [] V 100000 i = _
   unfold ZbU
   exact Zi (by omega) rfl
theorem ZqE {V : List R_ii} (hV : V.length ≤ 1000) : ZbY V 100000 = some (.r0 (V.map (ZaD []))) := by
 have hi : Zg8 100000 = some .r0 := by
  refine (ZcC (x := graph_indexX.h1m0) rfl).trans ?_
  exact ZaS (n := 99999) rfl
 have hw : Zd0 [] V 100000 = some .r0 := (ZcC (x := graph_objects_walkX.h1m0 0) rfl).trans (ZsZ hV V.length 0 100000 (by omega) (by omega))
 obtain ⟨o, o1, o2⟩ := Zng V [] (N := 100000) hV (by decide)
 have hy := congrArg (fun y => (some (.inr (.r0 y)) : Option (graph_RenameX ⊕ ZaJ))) o2
 refine (ZcC (x := graph_RenameX.h1m0) ?_).trans ((ZaG (n := 99999) (y := .h2m0) rfl).trans (ZaS (n := 99998) ?_))
 ·unfold Zfg
  exact Zz hi (Zz hw rfl)
 ·show ZcL V 100000 = _
  unfold ZcL
  refine Zz o1 ?_
  cases o with
  | r0 => exact hy
  | r1 w => exact hy
theorem all0 : Zei 100000 = some .r0 := (ZcC (x := ref02_SameAllX.h1m0) rfl).trans (ZaS (n := 99999) rfl)
theorem Zul {x : Ob} (h : x.a7.length ≤ 1000) : Zcd x.a0 x.a1 x.a2 x.a3 x.a4 x.a5 x.a6 x.a7 x.a0 x.a1 x.a2 x.a3 x.a4 x.a5 x.a6 x.a7 100000 = some (.r0 true) := by
 unfold Zcd
 exact Zi ⟨rfl, rfl⟩ (Zi ⟨rfl, rfl, rfl, rfl, rfl⟩ (Zz (Zhk h) rfl))
theorem Zum {X : List Ob} (hX : X.length ≤ 1000) (h7 : ∀ j, (ob X j).a7.length ≤ 1000) : ∀ d i f, i + d = X.length → d < f → ZbV (Zc1 X X 100000) f (.h1m0 i) = some (.r0 true) := by
 intro d
 induction d with
 | zero =>
  intro i f hi hf
  obtain ⟨f, rfl⟩ : ∃ j, f = j + 1 := ⟨f - 1, by omega⟩
  refine ZaS ?_
  show Zbu X X 100000 i = _
  unfold Zbu
  exact ZB (by omega) rfl
 | succ d ih =>
  intro i f hi hf
  obtain ⟨f, rfl⟩ : ∃ j, f = j + 1 := ⟨f - 1, by omega⟩
  refine (ZaG ?_).trans (ih (i + 1) f (by omega) (by omega))
  show Zbu X X 100000 i = _
  unfold Zbu
  exact Zi (by omega) (Zi (by omega) (Zz (Zul (x := ob X i) (h7 i)) (ZB (by simp) (Zi (by omega) rfl))))
theorem Zun {X : List Ob} (hX : X.length ≤ 1000) (h7 : ∀ j, (ob X j).a7.length ≤ 1000) : Zey X X 100000 = some (.r0 true) := by
 refine (ZcC (x := .h1m0 0) ?_).trans (Zum hX h7 X.length 0 100000 (by omega) (by omega))
 unfold ZdB
 exact ZB (fun q => q rfl) rfl
theorem Zta {L X K : List Ob} {R U : List R_ii} (hX : K.length ≤ 1000) (h7 : ∀ j, (ob K j).a7.length ≤ 1000) : ∀ d i f, i + d = K.length → d < f → ZbV (Zb6 L R X U 100000) f (.h1m3 K K K.length i) = some (.r0 true) := by
 intro d
 induction d with
 | zero =>
  intro i f hi hf
  obtain ⟨f, rfl⟩ : ∃ j, f = j + 1 := ⟨f - 1, by omega⟩
  refine ZaS ?_
  show ZbL L R X U 100000 K K K.length i = _
  unfold ZbL
  exact ZB (by omega) rfl
 | succ d ih =>
  intro i f hi hf
  obtain ⟨f, rfl⟩ : ∃ j, f = j + 1 := ⟨f - 1, by omega⟩
  have hil : i < K.length := by omega
  refine (ZaG ?_).trans (ih (i + 1) f (by omega) (by omega))
  show ZbL L R X U 100000 K K K.length i = _
  unfold ZbL
  refine Zi (by omega) (Zi hil ?_)
  by_cases h5 : (K.getD i R_iiiiiiiA.z).a5 = 1
  ·exact Zi h5 (Zi hil (Zi h5 (ZB (fun q => q ⟨rfl, rfl, rfl⟩) (Zz (Zf7 (h7 i)) (ZB (by simp) (Zi (by omega) rfl))))))
  ·exact ZB h5 (Zi hil (ZB h5 (ZB (fun q => q ⟨rfl, rfl, rfl, rfl⟩) (Zz (Zf7 (h7 i)) (ZB (by simp) (Zi (by omega) rfl))))))
theorem ZtG (V : List R_ii) : ∃ W : List R_ii, W.length ≤ 10 ∧ Zec V 100000 = some (.r0 W) := by
 by_cases h : (10 : Int) < (V.length : Int)
 ·exact ⟨V.take 10, by simp; omega, Zi h rfl⟩
 ·exact ⟨V, by omega, ZB h rfl⟩
theorem runs (L0 : List Ob) (V : List R_ii) : Zdg L0 V 100000 = some (.r0 true) := by
 obtain ⟨W, hW, hv⟩ := ZtG V
 unfold Zdg
 have hU : (W.map (ZaD [])).length ≤ 1000 := by rw [List.length_map]; omega
 have r1 := ZqE (V := W) (by omega)
 have r2 := ZqE hU
 rw [Zso] at r2
 have s1 := Zhk hU
 have s2 := Zf7 hU
 rcases Zuk L0 with h | ⟨l, h, hl1, Fw⟩
 ·refine Zz h (Zz hv (Zz r1 (Zz r2 (Zz all0 (Zz s1 (Zi rfl (Zz (a := .r0 true) ?_ rfl)))))))
  refine (ZcC (x := graph_AlikeX.h1m0) ?_).trans (ZaS (n := 99999) rfl)
  unfold Zf4
  exact Zz r1 (Zz r2 (Zz s2 (ZB (by simp) rfl)))
 ·have hl := Fw.l
  have C : Cn l W := ⟨by omega, fun j => by have := Fw.f j; omega, by omega, by have := Zsm Fw [] l.length; omega⟩
  obtain ⟨F, H, T, q⟩ := ZqD C
  rcases q with ⟨rfl, q⟩ | ⟨hne, M, hm, q⟩
  ·refine Zz h (Zz hv (Zz q (Zz r2 (Zz all0 (Zz s1 (Zi rfl (Zz (a := .r0 true) ?_ rfl)))))))
   refine (ZcC (x := graph_Alike_2X.h1m0) ?_).trans (ZaS (n := 99999) rfl)
   unfold Zew
   exact Zz q (Zz r2 (Zz s2 (ZB (by simp) rfl)))
  ·have hb := H.b
   have q2 := again C H T hm hne
   have hXl : (mk l F M).length ≤ 1000 := by rw [Zih]; omega
   have hX7 : ∀ j, (ob (mk l F M) j).a7.length ≤ 1000 := fun j => by
    by_cases hj : j < F.length
    ·rw [Zh5 hj]
     show ((ob l (F.getD j 0).toNat).a7.map (ZaD M)).length ≤ 1000
     rw [List.length_map]; exact C.f _
    ·rw [show ob (mk l F M) j = R_iiiiiiiA.z from ZgA (by rw [Zih]; omega)]; exact Nat.zero_le _
   have hUm : (W.map (ZaD M)).length ≤ 1000 := by rw [List.length_map]; omega
   refine Zz h (Zz hv (Zz q (Zz q2 (Zz (Zun hXl hX7) (Zi rfl (Zz (Zhk hUm) (Zi rfl (Zz (a := .r0 true) ?_ rfl))))))))
   refine (ZcC (x := graph_Alike_3X.h1m3 (mk l F M) (mk l F M) (mk l F M).length 0) ?_).trans (Zta hXl hX7 (mk l F M).length 0 100000 (by omega) (by omega))
   unfold Zex
   exact Zz q (Zz q2 (ZB (fun q => q rfl) (Zz (Zf7 hUm) (ZB (by simp) rfl))))
end Pg
end Ev
end Go.Proofs.Ytmcgcapkldpjlaa
/- A region that draws its order, whose first operations only read (and make memory in calls), and whose last ones, in a forced order among themselves, make and write new memory: but these may come up early. -/
namespace Go.Proofs.Ytmcgcapkldpjlaa
open Go.RowKit

section
variable {P : Program}

def Calm (P : Program) (W : World) (o : Oper) (a : Act) (v : Value) : Prop :=
 ∀ w, Below W.heap.size W w → o.quietAt P a (fun w' => Below w.heap.size w w') w v

def YieldsC (P : Program) (ops : Array Oper) (W : World) (o : Oper) (v : Value) (a : Act) : Prop :=
 (Region.wanted o (yielded ops a.tmps) = true ∧ Calm P W o a v) ∨ (Region.wanted o (yielded ops a.tmps) = false ∧ v = undef)
theorem ZnZ {a b c : World} (h : Below a.heap.size a b) (k : Below b.heap.size b c) : Below a.heap.size a c := h.trans (k.mono h.size)

def Closed (md : Region.Mode) (ops : Array Oper) (listed : Array Bool) : Prop :=
 ∀ j oj, ops[j]? = some oj → listed.getD j false = true → ∀ e ∈ oj.after, Region.binds md e = true → listed.getD e.on false = true
def Zp8 (md : Region.Mode) (ops : Array Oper) : Nat → Nat → Nat → Bool
 | 0, _, _ => false
 | f + 1, t, i => Region.waitsFor md ops t i || (List.range ops.size).any fun k => Region.waitsFor md ops t k && Zp8 md ops f k i
theorem Closed.waits {md : Region.Mode} {ops : Array Oper} {listed : Array Bool} (h : Closed md ops listed) : ∀ (f t i : Nat), listed.getD t false = true → Zp8 md ops f t i = true → listed.getD i false = true
 | 0, _, _, _, hw => by cases hw
 | f + 1, t, i, ht, hw => by
  simp only [Zp8, Bool.or_eq_true, List.any_eq_true, Bool.and_eq_true] at hw
  rcases hw with hw | ⟨k, _, hw, hr⟩
  ·obtain ⟨o, ho, e, he, hb, rfl⟩ := Region.waitsFor_spec hw
   exact h t o ho ht e he hb
  ·obtain ⟨o, ho, e, he, hb, rfl⟩ := Region.waitsFor_spec hw
   exact h.waits f e.on i (h t o ho ht e he hb) hr

theorem YieldsC.wpOp {ops : Array Oper} {W : World} {i : Nat} {o : Oper} {v : Value} {a : Act} {w : World} (hi : ops[i]? = some o) (hy : YieldsC P ops W o v a) (hb : Below W.heap.size W w)
  {K : Act → World → Prop} {Q : Exit → Act → World → Prop} (h : ∀ w', Below w.heap.size w w' → K (a.put o.dst v) w') : wpOp P ops Q i K a w := by
 unfold Go.wpOp
 simp only [hi]
 rcases hy with ⟨hw, hv⟩ | ⟨hw, rfl⟩
 ·simp only [hw, if_true]
  exact .inl (Oper.wp_of_quiet (C := fun w' => Below w.heap.size w w') (K := fun a' => a' = a.put o.dst v) (Below.refl _ _) (fun a' w' hw' ha => by subst ha; exact h w' hw')
   ⟨v, fun w1 hw1 => by
    have h1 := hv w1 (ZnZ hb hw1)
    unfold Oper.quietAt at h1 ⊢
    generalize (execOp a.eval o).run P w1 = r at *
    cases r with
    | ok n w' =>
     cases n <;> simp only [Oper.quietUpon] at h1 ⊢
     case value u => exact h1
     case skip => exact h1
     case enter f args => exact ⟨h1.1, h1.2.mono fun e w2 ⟨he, hb2⟩ => ⟨he, ZnZ hw1 hb2⟩⟩
    | halt x w' => simp only [Oper.quietUpon] at h1, rfl⟩)
 ·simp only [hw, Bool.false_eq_true, if_false]
  exact h w (Below.refl _ _)

end
theorem Has.grown {W W' : World} {b : Nat} {cs : List Value} {g : Nat} (h : Has W b cs) (hg : W.grownBy W' (some g)) (hne : b ≠ g) : Has W' b cs := by
 have e : W'.heap[b]? = W.heap[b]? := hg.block b h.1 (fun e => hne (by injection e))
 exact ⟨Nat.lt_of_lt_of_le h.1 hg.size, fun i v hi => ⟨(World.cell?_of_block (a := ⟨b, i, none⟩) e).trans (h.2 i v hi).1, (World.frozen?_of_block (a := ⟨b, i, none⟩) e).trans (h.2 i v hi).2⟩⟩
end Go.Proofs.Ytmcgcapkldpjlaa
/- The law GraphAlike, for every input. -/
namespace Go.Proofs.Ytmcgcapkldpjlaa
open Go.ChangeShapes Go.WideShapes Go.ChangeAt Go.RowKit
namespace Ev
namespace GraphAlike
set_option linter.unusedVariables false
def Zrz (x : R_ii) : Prop := (IntKind.i64.min ≤ x.a0 ∧ x.a0 ≤ IntKind.i64.max) ∧ (IntKind.i64.min ≤ x.a1 ∧ x.a1 ≤ IntKind.i64.max)
theorem el1 {H : Type} {enc : TypeId × Value → H} {w : World} {cs : List Value} (hl : cs.length = 2) (h : Trd enc Try.prog w 25 cs) : ∃ x : R_ii, DecL w cs (E_ii.cel x) ∧ Zrz x := by
 have h0 := ZrZ (by kernel_rfl : Try.prog.cellsOf 25 = 2) hl h
 have h1 := ZcJ 0 1 2 Try.underlying25 h0 0 (te := 23) (o' := 0) (by kernel_rfl) rfl (by kernel_rfl) (by kernel_rfl) (by decide)
 obtain ⟨x0, e0, b0⟩ := Zgb Try.underlying23 (by kernel_rfl) h1
 have h2 := ZcJ 1 1 2 Try.underlying25 h0 1 (te := 3) (o' := 1) (by kernel_rfl) rfl (by kernel_rfl) (by kernel_rfl) (by decide)
 obtain ⟨x1, e1, b1⟩ := Zgb Try.underlying3 (by kernel_rfl) h2
 refine ⟨(⟨x0, x1⟩ : R_ii), Zqy (by rw [hl, Enc.clen]; rfl) (fun j y hy => ?_), ⟨b0, b1⟩⟩
 have := (Zem (w := w) (k := 0) e0 .i (Zem (w := w) (k := 1) e1 .i (ZrY (w := w)))) j y hy
 simpa using this
def el0R (x : R_iiiiiiiA) : Prop := (IntKind.i64.min ≤ x.a0 ∧ x.a0 ≤ IntKind.i64.max) ∧ (IntKind.i64.min ≤ x.a1 ∧ x.a1 ≤ IntKind.i64.max) ∧ (IntKind.i64.min ≤ x.a2 ∧ x.a2 ≤ IntKind.i64.max) ∧ (IntKind.i64.min ≤ x.a3 ∧ x.a3 ≤ IntKind.i64.max) ∧ (IntKind.i64.min ≤ x.a4 ∧ x.a4 ≤ IntKind.i64.max) ∧ (IntKind.i64.min ≤ x.a5 ∧ x.a5 ≤ IntKind.i64.max) ∧ (IntKind.i64.min ≤ x.a6 ∧ x.a6 ≤ IntKind.i64.max) ∧ (x.a7.length ≤ 9223372036854775807 ∧ ∀ y ∈ x.a7, Zrz y)
theorem el0 {H : Type} {enc : TypeId × Value → H} {w : World} {cs : List Value} (hl : cs.length = 8) (h : Trd enc Try.prog w 34 cs) : ∃ x : R_iiiiiiiA, DecL w cs (E_iiiiiiiA.cel x) ∧ el0R x := by
 have h0 := ZrZ (by kernel_rfl : Try.prog.cellsOf 34 = 8) hl h
 have h1 := ZcJ 0 2 8 Try.underlying34 h0 0 (te := 25) (o' := 0) (by kernel_rfl) rfl (by kernel_rfl) (by kernel_rfl) (by decide)
 have h2 := ZcJ 0 1 2 Try.underlying25 h1 0 (te := 23) (o' := 0) (by kernel_rfl) rfl (by kernel_rfl) (by kernel_rfl) (by decide)
 obtain ⟨x0, e0, b0⟩ := Zgb Try.underlying23 (by kernel_rfl) h2
 have h3 := ZcJ 1 1 2 Try.underlying25 h1 1 (te := 3) (o' := 1) (by kernel_rfl) rfl (by kernel_rfl) (by kernel_rfl) (by decide)
 obtain ⟨x1, e1, b1⟩ := Zgb Try.underlying3 (by kernel_rfl) h3
 have h4 := ZcJ 2 5 8 Try.underlying34 h0 1 (te := 32) (o' := 2) (by kernel_rfl) rfl (by kernel_rfl) (by kernel_rfl) (by decide)
 have h5 := ZcJ 0 1 5 Try.underlying32 h4 0 (te := 3) (o' := 2) (by kernel_rfl) rfl (by kernel_rfl) (by kernel_rfl) (by decide)
 obtain ⟨x2, e2, b2⟩ := Zgb Try.underlying3 (by kernel_rfl) h5
 have h6 := ZcJ 1 1 5 Try.underlying32 h4 1 (te := 3) (o' := 3) (by kernel_rfl) rfl (by kernel_rfl) (by kernel_rfl) (by decide)
 obtain ⟨x3, e3, b3⟩ := Zgb Try.underlying3 (by kernel_rfl) h6
 have h7 := ZcJ 2 1 5 Try.underlying32 h4 2 (te := 3) (o' := 4) (by kernel_rfl) rfl (by kernel_rfl) (by kernel_rfl) (by decide)
 obtain ⟨x4, e4, b4⟩ := Zgb Try.underlying3 (by kernel_rfl) h7
 have h8 := ZcJ 3 1 5 Try.underlying32 h4 3 (te := 30) (o' := 5) (by kernel_rfl) rfl (by kernel_rfl) (by kernel_rfl) (by decide)
 obtain ⟨x5, e5, b5⟩ := Zgb Try.underlying30 (by kernel_rfl) h8
 have h9 := ZcJ 4 1 5 Try.underlying32 h4 4 (te := 3) (o' := 6) (by kernel_rfl) rfl (by kernel_rfl) (by kernel_rfl) (by decide)
 obtain ⟨x6, e6, b6⟩ := Zgb Try.underlying3 (by kernel_rfl) h9
 have h10 := ZcJ 7 1 8 Try.underlying34 h0 2 (te := 27) (o' := 7) (by kernel_rfl) rfl (by kernel_rfl) (by kernel_rfl) (by decide)
 obtain ⟨x7, v7, e7, d7, b7⟩ := ZsJ (E := E_ii) (Q := Zrz) Try.underlying27 (by kernel_rfl) (by kernel_rfl) (by decide) (fun _ => el1) h10
 refine ⟨(⟨x0, x1, x2, x3, x4, x5, x6, x7⟩ : R_iiiiiiiA), Zqy (by rw [hl, Enc.clen]; rfl) (fun j y hy => ?_), ⟨b0, b1, b2, b3, b4, b5, b6, b7⟩⟩
 have := (Zem (w := w) (k := 0) e0 .i (Zem (w := w) (k := 1) e1 .i (Zem (w := w) (k := 2) e2 .i (Zem (w := w) (k := 3) e3 .i (Zem (w := w) (k := 4) e4 .i (Zem (w := w) (k := 5) e5 .i (Zem (w := w) (k := 6) e6 .i (Zem (w := w) (k := 7) e7 d7 (ZrY (w := w)))))))))) j y hy
 simpa using this
theorem own : ownKnob Try.prog.godebug = none := by kernel_rfl
set_option maxRecDepth 100000 in
theorem lifted (os : Os) (started : os.Started) (H : Type) (enc : TypeId × Value → H) :
  ReturnsInHanded {} Try.checked os 4 .any (Rows.graphAlikeSpec.pre6 enc Try.prog Try.f4 Rows.graphAlikeRow.domain false) (Rows.graphAlikeSpec.post enc Try.prog Try.f4 false true false false) := by
 refine ZrO (C := Try.checked) own started (by kernel_rfl) Try.func4 rfl rfl Try.underlying4 ?_ (by kernel_rfl) (by kernel_rfl)
  (ChangeSpec.witness6 (enc := enc) (C := Try.checked) false ⟨#[], #[.slice none 0 0, .slice none 0 0], []⟩ 8 (by kernel_rfl) (by kernel_rfl) (by kernel_rfl) (by kernel_rfl)) ?_
 ·intro ds hlen
  have hlen : ds.length = 2 := hlen.trans (by kernel_rfl)
  match ds, hlen with
  | [_, _], _ => rfl
 intro W base args ds p hval hA hlt hsz
 rw [Try.params4] at hA hval
 obtain ⟨v0, vs0, d0, ds0, p0, q0, hargs, rfl, rfl, h0, r0⟩ := trodAll_cons hA
 obtain ⟨v1, vs1, d1, ds1, p1, q1, rfl, rfl, rfl, h1, r1⟩ := trodAll_cons r0
 obtain ⟨rfl, rfl, rfl⟩ := trodAll_nil r1
 obtain rfl : args = #[v0, v1] := by cases args; simp_all
 obtain ⟨a0, l0, c0, rfl⟩ := Go.WideShapes.okWide_slice Try.underlying22 (hval 0 22 v0 rfl rfl)
 obtain ⟨L0, u0, e0, D0, n0, m0⟩ := ZkV (E := E_iiiiiiiA) (Q := el0R) Try.underlying22 (by kernel_rfl) (by decide) (fun _ => el0) (Zqz h0)
 obtain rfl : u0 = .slice a0 l0 c0 := by have := e0; simp [Value.cells] at this; exact this.symm
 obtain ⟨a1, l1, c1, rfl⟩ := Go.WideShapes.okWide_slice Try.underlying27 (hval 1 27 v1 rfl rfl)
 obtain ⟨L1, u1, e1, D1, n1, m1⟩ := ZkV (E := E_ii) (Q := Zrz) Try.underlying27 (by kernel_rfl) (by decide) (fun _ => el1) (Zqz h1)
 obtain rfl : u1 = .slice a1 l1 c1 := by have := e1; simp [Value.cells] at this; exact this.symm
 exact ZtU (Zj0 L0 L1 100000 _ (Pg.runs L0 L1)) (Zpb (show VR (ιMk W) (ms E_iiiiiiiA L0) _ from D0.vr) (Zpb (show VR (ιMk W) (ms E_ii L1) _ from D1.vr) Ztr)) rfl
theorem over : Rows.graphAlikeRow.holds Try.pinned (OpenSpec.ofChange Rows.graphAlikeSpec) :=
 OpenClaim.holds_of_wide 4 Try.f4 rfl rfl rfl rfl rfl rfl rfl ⟨rfl, rfl, rfl, rfl, rfl⟩ rfl rfl rfl rfl rfl (by kernel_rfl) Try.func4 (by kernel_rfl)
  (of_decide_eq_true (by kernel_rfl)) (by unfold Func.isWrapper; first | (rw [if_pos (by decide +kernel)]; kernel_rfl) | (rw [if_neg (by decide +kernel)]; exact ⟨rfl, rfl⟩))
  (fun os started H enc _ => lifted os started H enc)
theorem proved : Rows.GraphAlikeSaid := over
#print axioms proved
end GraphAlike
end Ev
end Go.Proofs.Ytmcgcapkldpjlaa
