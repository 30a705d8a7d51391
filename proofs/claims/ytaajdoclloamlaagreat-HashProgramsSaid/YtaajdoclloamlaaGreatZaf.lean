/- Part 6. -/
import Derived.Test.YtaajdoclloamlaaGreatZae
/- Calls do what the plain functions say. -/
namespace Go.Proofs.YtaajdoclloamlaaGreat
open Go.RowKit
namespace Ev
set_option linter.unusedVariables false
set_option maxRecDepth 100000
theorem Zd8 (A : Array Value)  (N : Nat) (h : Zdp  N = some (.r0)) (n : Nat) (hA : A = #[Value.agg #[vi 8, vi 21, vq, vq]]) (hnd : ([] : List Nat).Nodup) (hlt : ∀ k ∈ ([] : List Nat), k < n) : Zcf A   n :=
 Zn hA (LSpec.callL (show LSpec Tryz.prog 27 #[Value.agg #[vi 8, vi 21, vq, vq]] [] (vq) [] from ZnD  N _ h) [] n [] rfl hnd hlt (show 0 ≤ 0 from by decide) (show ∀ j ∈ ([] : List Nat), j < 0 from by decide) (by rfl) trivial (by rfl) trivial trivial rfl rfl rfl rfl rfl)

noncomputable def Zkb  : ZcB → Value
 | .r0 => vq
noncomputable def ZiX  : ZcB → List (Option AObj)
 | .r0 => []

theorem Zpg  (N : Nat) : Gx Tryz.prog 27 [] #[Value.agg #[vi 3, vi 6, vi 3, vq]] (Zkb ) (ZiX ) (Zdq  N) := by
 unfold Zdq
 exact Zi Zj (r := (.r0 : ZcB)) (fu := 4000) (orc := (Zl [] [] [] [] [])) (live := []) (u := vq) (bl := []) (ob := []) (by kernel_rfl) Zf rfl (by decide) (by rfl) rr trivial (Zh _ rfl)

theorem ZnE  (N : Nat) (r : ZcB) (h : Zdq  N = some r) : LSpec Tryz.prog 27 #[Value.agg #[vi 3, vi 6, vi 3, vq]] [] (Zkb  r) (ZiX  r) :=
 (Zpg  N) r h

noncomputable def Zd9  (n : Nat) : ZB := .call [] (vq) [] 0
def Zcg (A : Array Value)  (n : Nat) : Prop := Zk Tryz.prog 27 A [] (vq) [] n 0

theorem ZdA (A : Array Value)  (N : Nat) (h : Zdq  N = some (.r0)) (n : Nat) (hA : A = #[Value.agg #[vi 3, vi 6, vi 3, vq]]) (hnd : ([] : List Nat).Nodup) (hlt : ∀ k ∈ ([] : List Nat), k < n) : Zcg A   n :=
 Zn hA (LSpec.callL (show LSpec Tryz.prog 27 #[Value.agg #[vi 3, vi 6, vi 3, vq]] [] (vq) [] from ZnE  N _ h) [] n [] rfl hnd hlt (show 0 ≤ 0 from by decide) (show ∀ j ∈ ([] : List Nat), j < 0 from by decide) (by rfl) trivial (by rfl) trivial trivial rfl rfl rfl rfl rfl)

noncomputable def Zkc  : ZcC → Value
 | .r0 => vq
noncomputable def ZiY  : ZcC → List (Option AObj)
 | .r0 => []

theorem Zph  (N : Nat) : Gx Tryz.prog 27 [] #[Value.agg #[vi 13, vi 3, vi 6, vq]] (Zkc ) (ZiY ) (Zdr  N) := by
 unfold Zdr
 exact Zi Zj (r := (.r0 : ZcC)) (fu := 4000) (orc := (Zl [] [] [] [] [])) (live := []) (u := vq) (bl := []) (ob := []) (by kernel_rfl) Zf rfl (by decide) (by rfl) rr trivial (Zh _ rfl)

theorem ZnF  (N : Nat) (r : ZcC) (h : Zdr  N = some r) : LSpec Tryz.prog 27 #[Value.agg #[vi 13, vi 3, vi 6, vq]] [] (Zkc  r) (ZiY  r) :=
 (Zph  N) r h

noncomputable def ZdB  (n : Nat) : ZB := .call [] (vq) [] 0
def Zch (A : Array Value)  (n : Nat) : Prop := Zk Tryz.prog 27 A [] (vq) [] n 0

theorem ZdC (A : Array Value)  (N : Nat) (h : Zdr  N = some (.r0)) (n : Nat) (hA : A = #[Value.agg #[vi 13, vi 3, vi 6, vq]]) (hnd : ([] : List Nat).Nodup) (hlt : ∀ k ∈ ([] : List Nat), k < n) : Zch A   n :=
 Zn hA (LSpec.callL (show LSpec Tryz.prog 27 #[Value.agg #[vi 13, vi 3, vi 6, vq]] [] (vq) [] from ZnF  N _ h) [] n [] rfl hnd hlt (show 0 ≤ 0 from by decide) (show ∀ j ∈ ([] : List Nat), j < 0 from by decide) (by rfl) trivial (by rfl) trivial trivial rfl rfl rfl rfl rfl)

noncomputable def Zkd  : ZcD → Value
 | .r0 => vq
noncomputable def ZiZ  : ZcD → List (Option AObj)
 | .r0 => []

theorem Zpi  (N : Nat) : Gx Tryz.prog 27 [] #[Value.agg #[vi 14, vi 6, vq, vi 2]] (Zkd ) (ZiZ ) (Zds  N) := by
 unfold Zds
 exact Zi Zj (r := (.r0 : ZcD)) (fu := 4000) (orc := (Zl [] [] [] [] [])) (live := []) (u := vq) (bl := []) (ob := []) (by kernel_rfl) Zf rfl (by decide) (by rfl) rr trivial (Zh _ rfl)

theorem ZnG  (N : Nat) (r : ZcD) (h : Zds  N = some r) : LSpec Tryz.prog 27 #[Value.agg #[vi 14, vi 6, vq, vi 2]] [] (Zkd  r) (ZiZ  r) :=
 (Zpi  N) r h

noncomputable def ZdD  (n : Nat) : ZB := .call [] (vq) [] 0
def Zci (A : Array Value)  (n : Nat) : Prop := Zk Tryz.prog 27 A [] (vq) [] n 0

theorem ZdE (A : Array Value)  (N : Nat) (h : Zds  N = some (.r0)) (n : Nat) (hA : A = #[Value.agg #[vi 14, vi 6, vq, vi 2]]) (hnd : ([] : List Nat).Nodup) (hlt : ∀ k ∈ ([] : List Nat), k < n) : Zci A   n :=
 Zn hA (LSpec.callL (show LSpec Tryz.prog 27 #[Value.agg #[vi 14, vi 6, vq, vi 2]] [] (vq) [] from ZnG  N _ h) [] n [] rfl hnd hlt (show 0 ≤ 0 from by decide) (show ∀ j ∈ ([] : List Nat), j < 0 from by decide) (by rfl) trivial (by rfl) trivial trivial rfl rfl rfl rfl rfl)

noncomputable def Zm0 (a0 : Int) : ZH → Value
 | .r0 => Value.tuple #[vs 0 0 22 22, vq]
 | .r1 => Value.tuple #[vn, vq]
 | .r2 => Value.tuple #[vn, vi 240]
noncomputable def Zlo (a0 : Int) : ZH → List (Option AObj)
 | .r0 => [some (.cells [vi 10, vq, vq, vq, vi 1, vi 1, vi a0, vq, vi 15, vq, vq, vq, vi 13, vi 3, vq, vi (a0 % (8 : Int)), vi 9, vi 3, vi 21, vq, vi 13, vi 4, vi 3, vi 1, vi 7, vi 5, vi 4, vi 1, vi 9, vi 5, vi 12, vq, vi 13, vi 2, vi 3, vq, vi 14, vq, vi (a0 % (8 : Int)), vi 2, vi 12, vi 3, vq, vq, vi 8, vi 21, vq, vq, vi 3, vi 6, vi 3, vq, vi 13, vi 3, vi 6, vq, vi 9, vi 3, vi 21, vq, vi 13, vi 4, vi 3, vi 1, vi 7, vi 5, vi 4, vi 1, vi 9, vi 5, vi 12, vq, vi 13, vi 2, vi 3, vq, vi 14, vi 6, vq, vi 2, vi 12, vi 3, vq, vq, vi 17, vq, vq, vq] 43)]
 | .r1 => []
 | .r2 => []

theorem Zrz (a0 : Int) (N : Nat) : Gx Tryz.prog 8 [] #[vi a0] (Zm0 a0) (Zlo a0) (Zbj a0 N) := by
 unfold Zbj
 refine ZR (fun g0 => ?_) (fun g0 => ?_)
 ·
  refine ZR (fun g1 => ?_) (fun g1 => ?_)
  ·
   refine Ze (fun z2 c2 => ?_)
   cases z2 with
   | r0 =>
    refine Ze (fun z3 c3 => ?_)
    cases z3 with
    | r0 =>
     refine Ze (fun z4 c4 => ?_)
     cases z4 with
     | r0 =>
      refine Ze (fun z5 c5 => ?_)
      cases z5 with
      | r0 =>
       refine Ze (fun z6 c6 => ?_)
       cases z6 with
       | r0 =>
        refine Ze (fun z7 c7 => ?_)
        cases z7 with
        | r0 =>
         refine Ze (fun z8 c8 => ?_)
         cases z8 with
         | r0 =>
          refine Ze (fun z9 c9 => ?_)
          cases z9 with
          | r0 =>
           refine Ze (fun z10 c10 => ?_)
           cases z10 with
           | r0 =>
            refine Ze (fun z11 c11 => ?_)
            cases z11 with
            | r0 =>
             refine Ze (fun z12 c12 => ?_)
             cases z12 with
             | r0 =>
              refine Ze (fun z13 c13 => ?_)
              cases z13 with
              | r0 =>
               refine Ze (fun z14 c14 => ?_)
               cases z14 with
               | r0 =>
                refine Ze (fun z15 c15 => ?_)
                cases z15 with
                | r0 =>
                 refine Ze (fun z16 c16 => ?_)
                 cases z16 with
                 | r0 =>
                  refine Ze (fun z17 c17 => ?_)
                  cases z17 with
                  | r0 =>
                   refine Ze (fun z18 c18 => ?_)
                   cases z18 with
                   | r0 =>
                    refine Ze (fun z19 c19 => ?_)
                    cases z19 with
                    | r0 =>
                     refine Ze (fun z20 c20 => ?_)
                     cases z20 with
                     | r0 =>
                      refine Ze (fun z21 c21 => ?_)
                      cases z21 with
                      | r0 =>
                       refine Ze (fun z22 c22 => ?_)
                       cases z22 with
                       | r0 =>
                        refine Ze (fun z23 c23 => ?_)
                        cases z23 with
                        | r0 =>
                         refine Ze (fun z24 c24 => ?_)
                         cases z24 with
                         | r0 =>
                          refine Ze (fun z25 c25 => ?_)
                          cases z25 with
                          | r0 =>
                           refine Ze (fun z26 c26 => ?_)
                           cases z26 with
                           | r0 =>
                            refine Ze (fun z27 c27 => ?_)
                            cases z27 with
                            | r0 =>
                             refine Ze (fun z28 c28 => ?_)
                             cases z28 with
                             | r0 =>
                              refine Ze (fun z29 c29 => ?_)
                              cases z29 with
                              | r0 =>
                               refine Ze (fun z30 c30 => ?_)
                               cases z30 with
                               | r0 =>
                                refine Ze (fun z31 c31 => ?_)
                                cases z31 with
                                | r0 =>
                                 refine Ze (fun z32 c32 => ?_)
                                 cases z32 with
                                 | r0 =>
                                  refine Ze (fun z33 c33 => ?_)
                                  cases z33 with
                                  | r0 =>
                                   refine Ze (fun z34 c34 => ?_)
                                   cases z34 with
                                   | r0 =>
                                    refine Ze (fun z35 c35 => ?_)
                                    cases z35 with
                                    | r0 =>
                                     refine Ze (fun z36 c36 => ?_)
                                     cases z36 with
                                     | r0 =>
                                      refine Ze (fun z37 c37 => ?_)
                                      cases z37 with
                                      | r0 =>
                                       refine Ze (fun z38 c38 => ?_)
                                       cases z38 with
                                       | r0 =>
                                        refine Ze (fun z39 c39 => ?_)
                                        cases z39 with
                                        | r0 =>
                                         refine Ze (fun z40 c40 => ?_)
                                         cases z40 with
                                         | r0 =>
                                          refine Ze (fun z41 c41 => ?_)
                                          cases z41 with
                                          | r0 =>
                                           refine Ze (fun z42 c42 => ?_)
                                           cases z42 with
                                           | r0 =>
                                            refine Ze (fun z43 c43 => ?_)
                                            cases z43 with
                                            | r0 =>
                                             refine Ze (fun z44 c44 => ?_)
                                             cases z44 with
                                             | r0 =>
                                              refine Ze (fun z45 c45 => ?_)
                                              cases z45 with
                                              | r0 =>
                                               exact Zi Zj (r := (.r0 : ZH)) (fu := 4000) (orc := (Zl [(0, true), (1, true)] [(0, (a0 % (8 : Int)))] [] [] [(4, (Zr     3)), (8, (Zw (a0)    7)), (12, (Z0     11)), (16, (Zu ((a0 % (8 : Int)))    15)), (20, (Zam     19)), (24, (Z3     23)), (28, (Z9     27)), (32, (Zao     31)), (36, (Zaq     35)), (40, (Zak ((a0 % (8 : Int)))    39)), (44, (ZaM     43)), (48, (Zd7     47)), (52, (Zd9     51)), (56, (ZdB     55)), (60, (Zam     59)), (64, (Z3     63)), (68, (Z9     67)), (72, (Zao     71)), (76, (Zaq     75)), (80, (ZdD     79)), (84, (ZaM     83)), (88, (ZL     87)), (91, (Zr     92)), (95, (Zw (a0)    98)), (99, (Z0     104)), (103, (Zu ((a0 % (8 : Int)))    110)), (107, (Zam     116)), (112, (Z3     122)), (116, (Z9     128)), (120, (Zao     134)), (125, (Zaq     140)), (129, (Zak ((a0 % (8 : Int)))    146)), (133, (ZaM     152)), (137, (Zd7     158)), (142, (Zd9     164)), (146, (ZdB     170)), (150, (Zam     176)), (155, (Z3     182)), (159, (Z9     188)), (163, (Zao     194)), (168, (Zaq     200)), (172, (ZdD     206)), (176, (ZaM     212)), (180, (ZL     218))])) (live := [221]) (u := Value.tuple #[vs 221 0 22 22, vq]) (bl := [some (.cells [vi 10, vq, vq, vq, vi 1, vi 1, vi a0, vq, vi 15, vq, vq, vq, vi 13, vi 3, vq, vi (a0 % (8 : Int)), vi 9, vi 3, vi 21, vq, vi 13, vi 4, vi 3, vi 1, vi 7, vi 5, vi 4, vi 1, vi 9, vi 5, vi 12, vq, vi 13, vi 2, vi 3, vq, vi 14, vq, vi (a0 % (8 : Int)), vi 2, vi 12, vi 3, vq, vq, vi 8, vi 21, vq, vq, vi 3, vi 6, vi 3, vq, vi 13, vi 3, vi 6, vq, vi 9, vi 3, vi 21, vq, vi 13, vi 4, vi 3, vi 1, vi 7, vi 5, vi 4, vi 1, vi 9, vi 5, vi 12, vq, vi 13, vi 2, vi 3, vq, vi 14, vi 6, vq, vi 2, vi 12, vi 3, vq, vq, vi 17, vq, vq, vq] 43)]) (ob := [(dP (ZI #[Value.agg #[vi 17, vq, vq, vq]]     218), true), (dP (ZaC #[Value.agg #[vi 12, vi 3, vq, vq]]     212), true), (dP (Zci #[Value.agg #[vi 14, vi 6, vq, vi 2]]     206), true), (dP (ZX #[Value.agg #[vi 13, vi 2, vi 3, vq]]     200), true), (dP (ZW #[Value.agg #[vi 9, vi 5, vi 12, vq]]     194), true), (dP (Z7 #[Value.agg #[vi 7, vi 5, vi 4, vi 1]]     188), true), (dP (Z2 #[Value.agg #[vi 13, vi 4, vi 3, vi 1]]     182), true), (dP (ZV #[Value.agg #[vi 9, vi 3, vi 21, vq]]     176), true), (dP (Zch #[Value.agg #[vi 13, vi 3, vi 6, vq]]     170), true), (dP (Zcg #[Value.agg #[vi 3, vi 6, vi 3, vq]]     164), true), (dP (Zcf #[Value.agg #[vi 8, vi 21, vq, vq]]     158), true), (dP (ZaC #[Value.agg #[vi 12, vi 3, vq, vq]]     152), true), (dP (ZU #[Value.agg #[vi 14, vq, vi (a0 % (8 : Int)), vi 2]] ((a0 % (8 : Int)))    146), true), (dP (ZX #[Value.agg #[vi 13, vi 2, vi 3, vq]]     140), true), (dP (ZW #[Value.agg #[vi 9, vi 5, vi 12, vq]]     134), true), (dP (Z7 #[Value.agg #[vi 7, vi 5, vi 4, vi 1]]     128), true), (dP (Z2 #[Value.agg #[vi 13, vi 4, vi 3, vi 1]]     122), true), (dP (ZV #[Value.agg #[vi 9, vi 3, vi 21, vq]]     116), true), (dP (Zq #[Value.agg #[vi 13, vi 3, vq, vi (a0 % (8 : Int))]] ((a0 % (8 : Int)))    110), true), (dP (Zy #[Value.agg #[vi 15, vq, vq, vq]]     104), true), (dP (Zt #[Value.agg #[vi 1, vi 1, vi a0, vq]] (a0)    98), true), (dP (Zp #[Value.agg #[vi 10, vq, vq, vq]]     92), true), (dP (ZI #[Value.agg #[vi 17, vq, vq, vq]]     87), true), (dP (ZaC #[Value.agg #[vi 12, vi 3, vq, vq]]     83), true), (dP (Zci #[Value.agg #[vi 14, vi 6, vq, vi 2]]     79), true), (dP (ZX #[Value.agg #[vi 13, vi 2, vi 3, vq]]     75), true), (dP (ZW #[Value.agg #[vi 9, vi 5, vi 12, vq]]     71), true), (dP (Z7 #[Value.agg #[vi 7, vi 5, vi 4, vi 1]]     67), true), (dP (Z2 #[Value.agg #[vi 13, vi 4, vi 3, vi 1]]     63), true), (dP (ZV #[Value.agg #[vi 9, vi 3, vi 21, vq]]     59), true), (dP (Zch #[Value.agg #[vi 13, vi 3, vi 6, vq]]     55), true), (dP (Zcg #[Value.agg #[vi 3, vi 6, vi 3, vq]]     51), true), (dP (Zcf #[Value.agg #[vi 8, vi 21, vq, vq]]     47), true), (dP (ZaC #[Value.agg #[vi 12, vi 3, vq, vq]]     43), true), (dP (ZU #[Value.agg #[vi 14, vq, vi (a0 % (8 : Int)), vi 2]] ((a0 % (8 : Int)))    39), true), (dP (ZX #[Value.agg #[vi 13, vi 2, vi 3, vq]]     35), true), (dP (ZW #[Value.agg #[vi 9, vi 5, vi 12, vq]]     31), true), (dP (Z7 #[Value.agg #[vi 7, vi 5, vi 4, vi 1]]     27), true), (dP (Z2 #[Value.agg #[vi 13, vi 4, vi 3, vi 1]]     23), true), (dP (ZV #[Value.agg #[vi 9, vi 3, vi 21, vq]]     19), true), (dP (Zq #[Value.agg #[vi 13, vi 3, vq, vi (a0 % (8 : Int))]] ((a0 % (8 : Int)))    15), true), (dP (Zy #[Value.agg #[vi 15, vq, vq, vq]]     11), true), (dP (Zt #[Value.agg #[vi 1, vi 1, vi a0, vq]] (a0)    7), true), (dP (Zp #[Value.agg #[vi 10, vq, vq, vq]]     3), true), ((IntKind.i64.wrap (((BitVec.ofInt IntKind.i64.bits a0 &&& BitVec.ofInt IntKind.i64.bits (7 : Int)).toNat : Nat) : Int)) == (a0 % (8 : Int)), true), ((decide (a0 ≤ (1099511627776 : Int))), true), ((decide (a0 ≥ (-1099511627776 : Int))), true)]) (by kernel_rfl) (Zb (Zc (ZM #[Value.agg #[vi 17, vq, vq, vq]]    N c45  218 rfl (by decide) (by decide))) <| Zb (Zc (ZaN #[Value.agg #[vi 12, vi 3, vq, vq]]    N c44  212 rfl (by decide) (by decide))) <| Zb (Zc (ZdE #[Value.agg #[vi 14, vi 6, vq, vi 2]]    N c43  206 rfl (by decide) (by decide))) <| Zb (Zc (Zar #[Value.agg #[vi 13, vi 2, vi 3, vq]]    N c42  200 rfl (by decide) (by decide))) <| Zb (Zc (Zap #[Value.agg #[vi 9, vi 5, vi 12, vq]]    N c41  194 rfl (by decide) (by decide))) <| Zb (Zc (ZA #[Value.agg #[vi 7, vi 5, vi 4, vi 1]]    N c40  188 rfl (by decide) (by decide))) <| Zb (Zc (Z4 #[Value.agg #[vi 13, vi 4, vi 3, vi 1]]    N c39  182 rfl (by decide) (by decide))) <| Zb (Zc (Zan #[Value.agg #[vi 9, vi 3, vi 21, vq]]    N c38  176 rfl (by decide) (by decide))) <| Zb (Zc (ZdC #[Value.agg #[vi 13, vi 3, vi 6, vq]]    N c37  170 rfl (by decide) (by decide))) <| Zb (Zc (ZdA #[Value.agg #[vi 3, vi 6, vi 3, vq]]    N c36  164 rfl (by decide) (by decide))) <| Zb (Zc (Zd8 #[Value.agg #[vi 8, vi 21, vq, vq]]    N c35  158 rfl (by decide) (by decide))) <| Zb (Zc (ZaN #[Value.agg #[vi 12, vi 3, vq, vq]]    N c34  152 rfl (by decide) (by decide))) <| Zb (Zc (Zal #[Value.agg #[vi 14, vq, vi (a0 % (8 : Int)), vi 2]] ((a0 % (8 : Int)))   N c33  146 rfl (by decide) (by decide))) <| Zb (Zc (Zar #[Value.agg #[vi 13, vi 2, vi 3, vq]]    N c32  140 rfl (by decide) (by decide))) <| Zb (Zc (Zap #[Value.agg #[vi 9, vi 5, vi 12, vq]]    N c31  134 rfl (by decide) (by decide))) <| Zb (Zc (ZA #[Value.agg #[vi 7, vi 5, vi 4, vi 1]]    N c30  128 rfl (by decide) (by decide))) <| Zb (Zc (Z4 #[Value.agg #[vi 13, vi 4, vi 3, vi 1]]    N c29  122 rfl (by decide) (by decide))) <| Zb (Zc (Zan #[Value.agg #[vi 9, vi 3, vi 21, vq]]    N c28  116 rfl (by decide) (by decide))) <| Zb (Zc (Zv #[Value.agg #[vi 13, vi 3, vq, vi (a0 % (8 : Int))]] ((a0 % (8 : Int)))   N c27  110 rfl (by decide) (by decide))) <| Zb (Zc (Z1 #[Value.agg #[vi 15, vq, vq, vq]]    N c26  104 rfl (by decide) (by decide))) <| Zb (Zc (Zx #[Value.agg #[vi 1, vi 1, vi a0, vq]] (a0)   N c25  98 rfl (by decide) (by decide))) <| Zb (Zc (Zs #[Value.agg #[vi 10, vq, vq, vq]]    N c24  92 rfl (by decide) (by decide))) <| Zb (Zc (ZM #[Value.agg #[vi 17, vq, vq, vq]]    N c23  87 rfl (by decide) (by decide))) <| Zb (Zc (ZaN #[Value.agg #[vi 12, vi 3, vq, vq]]    N c22  83 rfl (by decide) (by decide))) <| Zb (Zc (ZdE #[Value.agg #[vi 14, vi 6, vq, vi 2]]    N c21  79 rfl (by decide) (by decide))) <| Zb (Zc (Zar #[Value.agg #[vi 13, vi 2, vi 3, vq]]    N c20  75 rfl (by decide) (by decide))) <| Zb (Zc (Zap #[Value.agg #[vi 9, vi 5, vi 12, vq]]    N c19  71 rfl (by decide) (by decide))) <| Zb (Zc (ZA #[Value.agg #[vi 7, vi 5, vi 4, vi 1]]    N c18  67 rfl (by decide) (by decide))) <| Zb (Zc (Z4 #[Value.agg #[vi 13, vi 4, vi 3, vi 1]]    N c17  63 rfl (by decide) (by decide))) <| Zb (Zc (Zan #[Value.agg #[vi 9, vi 3, vi 21, vq]]    N c16  59 rfl (by decide) (by decide))) <| Zb (Zc (ZdC #[Value.agg #[vi 13, vi 3, vi 6, vq]]    N c15  55 rfl (by decide) (by decide))) <| Zb (Zc (ZdA #[Value.agg #[vi 3, vi 6, vi 3, vq]]    N c14  51 rfl (by decide) (by decide))) <| Zb (Zc (Zd8 #[Value.agg #[vi 8, vi 21, vq, vq]]    N c13  47 rfl (by decide) (by decide))) <| Zb (Zc (ZaN #[Value.agg #[vi 12, vi 3, vq, vq]]    N c12  43 rfl (by decide) (by decide))) <| Zb (Zc (Zal #[Value.agg #[vi 14, vq, vi (a0 % (8 : Int)), vi 2]] ((a0 % (8 : Int)))   N c11  39 rfl (by decide) (by decide))) <| Zb (Zc (Zar #[Value.agg #[vi 13, vi 2, vi 3, vq]]    N c10  35 rfl (by decide) (by decide))) <| Zb (Zc (Zap #[Value.agg #[vi 9, vi 5, vi 12, vq]]    N c9  31 rfl (by decide) (by decide))) <| Zb (Zc (ZA #[Value.agg #[vi 7, vi 5, vi 4, vi 1]]    N c8  27 rfl (by decide) (by decide))) <| Zb (Zc (Z4 #[Value.agg #[vi 13, vi 4, vi 3, vi 1]]    N c7  23 rfl (by decide) (by decide))) <| Zb (Zc (Zan #[Value.agg #[vi 9, vi 3, vi 21, vq]]    N c6  19 rfl (by decide) (by decide))) <| Zb (Zc (Zv #[Value.agg #[vi 13, vi 3, vq, vi (a0 % (8 : Int))]] ((a0 % (8 : Int)))   N c5  15 rfl (by decide) (by decide))) <| Zb (Zc (Z1 #[Value.agg #[vi 15, vq, vq, vq]]    N c4  11 rfl (by decide) (by decide))) <| Zb (Zc (Zx #[Value.agg #[vi 1, vi 1, vi a0, vq]] (a0)   N c3  7 rfl (by decide) (by decide))) <| Zb (Zc (Zs #[Value.agg #[vi 10, vq, vq, vq]]    N c2  3 rfl (by decide) (by decide))) <| Zb (beq_iff_eq.2 (ZS _)) <| oY <| oY Zf) rfl (by decide) (by rfl) rr ⟨⟨rfl, ⟨[], by rfl⟩, by rfl⟩, trivial⟩ (Zh _ rfl)
                                  | r1 =>
                                   exact Zi Zj (r := (.r1 : ZH)) (fu := 4000) (orc := (Zl [(0, true), (1, true)] [(0, (a0 % (8 : Int)))] [] [] [(4, (Zr     3)), (8, (Zw (a0)    7)), (12, (Z0     11)), (16, (Zu ((a0 % (8 : Int)))    15)), (20, (Zam     19)), (24, (Z3     23)), (28, (Z9     27)), (32, (Zao     31)), (36, (Zaq     35)), (40, (Zak ((a0 % (8 : Int)))    39)), (44, (ZaM     43)), (48, (Zd7     47)), (52, (Zd9     51)), (56, (ZdB     55)), (60, (Zam     59)), (64, (Z3     63)), (68, (Z9     67)), (72, (Zao     71)), (76, (Zaq     75)), (80, (ZdD     79)), (84, (ZaM     83)), (88, (ZL     87)), (91, (Zr     92)), (95, (Zw (a0)    98)), (99, (Z0     104)), (103, (Zu ((a0 % (8 : Int)))    110)), (107, (Zam     116)), (112, (Z3     122)), (116, (Z9     128)), (120, (Zao     134)), (125, (Zaq     140)), (129, (ZeN ((a0 % (8 : Int)))    146))])) (live := []) (u := Value.tuple #[vn, vq]) (bl := []) (ob := [(dP (Zdy #[Value.agg #[vi 14, vq, vi (a0 % (8 : Int)), vi 2]] ((a0 % (8 : Int)))    146), true), (dP (ZX #[Value.agg #[vi 13, vi 2, vi 3, vq]]     140), true), (dP (ZW #[Value.agg #[vi 9, vi 5, vi 12, vq]]     134), true), (dP (Z7 #[Value.agg #[vi 7, vi 5, vi 4, vi 1]]     128), true), (dP (Z2 #[Value.agg #[vi 13, vi 4, vi 3, vi 1]]     122), true), (dP (ZV #[Value.agg #[vi 9, vi 3, vi 21, vq]]     116), true), (dP (Zq #[Value.agg #[vi 13, vi 3, vq, vi (a0 % (8 : Int))]] ((a0 % (8 : Int)))    110), true), (dP (Zy #[Value.agg #[vi 15, vq, vq, vq]]     104), true), (dP (Zt #[Value.agg #[vi 1, vi 1, vi a0, vq]] (a0)    98), true), (dP (Zp #[Value.agg #[vi 10, vq, vq, vq]]     92), true), (dP (ZI #[Value.agg #[vi 17, vq, vq, vq]]     87), true), (dP (ZaC #[Value.agg #[vi 12, vi 3, vq, vq]]     83), true), (dP (Zci #[Value.agg #[vi 14, vi 6, vq, vi 2]]     79), true), (dP (ZX #[Value.agg #[vi 13, vi 2, vi 3, vq]]     75), true), (dP (ZW #[Value.agg #[vi 9, vi 5, vi 12, vq]]     71), true), (dP (Z7 #[Value.agg #[vi 7, vi 5, vi 4, vi 1]]     67), true), (dP (Z2 #[Value.agg #[vi 13, vi 4, vi 3, vi 1]]     63), true), (dP (ZV #[Value.agg #[vi 9, vi 3, vi 21, vq]]     59), true), (dP (Zch #[Value.agg #[vi 13, vi 3, vi 6, vq]]     55), true), (dP (Zcg #[Value.agg #[vi 3, vi 6, vi 3, vq]]     51), true), (dP (Zcf #[Value.agg #[vi 8, vi 21, vq, vq]]     47), true), (dP (ZaC #[Value.agg #[vi 12, vi 3, vq, vq]]     43), true), (dP (ZU #[Value.agg #[vi 14, vq, vi (a0 % (8 : Int)), vi 2]] ((a0 % (8 : Int)))    39), true), (dP (ZX #[Value.agg #[vi 13, vi 2, vi 3, vq]]     35), true), (dP (ZW #[Value.agg #[vi 9, vi 5, vi 12, vq]]     31), true), (dP (Z7 #[Value.agg #[vi 7, vi 5, vi 4, vi 1]]     27), true), (dP (Z2 #[Value.agg #[vi 13, vi 4, vi 3, vi 1]]     23), true), (dP (ZV #[Value.agg #[vi 9, vi 3, vi 21, vq]]     19), true), (dP (Zq #[Value.agg #[vi 13, vi 3, vq, vi (a0 % (8 : Int))]] ((a0 % (8 : Int)))    15), true), (dP (Zy #[Value.agg #[vi 15, vq, vq, vq]]     11), true), (dP (Zt #[Value.agg #[vi 1, vi 1, vi a0, vq]] (a0)    7), true), (dP (Zp #[Value.agg #[vi 10, vq, vq, vq]]     3), true), ((IntKind.i64.wrap (((BitVec.ofInt IntKind.i64.bits a0 &&& BitVec.ofInt IntKind.i64.bits (7 : Int)).toNat : Nat) : Int)) == (a0 % (8 : Int)), true), ((decide (a0 ≤ (1099511627776 : Int))), true), ((decide (a0 ≥ (-1099511627776 : Int))), true)]) (by kernel_rfl) (Zb (Zc (ZeO #[Value.agg #[vi 14, vq, vi (a0 % (8 : Int)), vi 2]] ((a0 % (8 : Int)))   N c33  146 rfl (by decide) (by decide))) <| Zb (Zc (Zar #[Value.agg #[vi 13, vi 2, vi 3, vq]]    N c32  140 rfl (by decide) (by decide))) <| Zb (Zc (Zap #[Value.agg #[vi 9, vi 5, vi 12, vq]]    N c31  134 rfl (by decide) (by decide))) <| Zb (Zc (ZA #[Value.agg #[vi 7, vi 5, vi 4, vi 1]]    N c30  128 rfl (by decide) (by decide))) <| Zb (Zc (Z4 #[Value.agg #[vi 13, vi 4, vi 3, vi 1]]    N c29  122 rfl (by decide) (by decide))) <| Zb (Zc (Zan #[Value.agg #[vi 9, vi 3, vi 21, vq]]    N c28  116 rfl (by decide) (by decide))) <| Zb (Zc (Zv #[Value.agg #[vi 13, vi 3, vq, vi (a0 % (8 : Int))]] ((a0 % (8 : Int)))   N c27  110 rfl (by decide) (by decide))) <| Zb (Zc (Z1 #[Value.agg #[vi 15, vq, vq, vq]]    N c26  104 rfl (by decide) (by decide))) <| Zb (Zc (Zx #[Value.agg #[vi 1, vi 1, vi a0, vq]] (a0)   N c25  98 rfl (by decide) (by decide))) <| Zb (Zc (Zs #[Value.agg #[vi 10, vq, vq, vq]]    N c24  92 rfl (by decide) (by decide))) <| Zb (Zc (ZM #[Value.agg #[vi 17, vq, vq, vq]]    N c23  87 rfl (by decide) (by decide))) <| Zb (Zc (ZaN #[Value.agg #[vi 12, vi 3, vq, vq]]    N c22  83 rfl (by decide) (by decide))) <| Zb (Zc (ZdE #[Value.agg #[vi 14, vi 6, vq, vi 2]]    N c21  79 rfl (by decide) (by decide))) <| Zb (Zc (Zar #[Value.agg #[vi 13, vi 2, vi 3, vq]]    N c20  75 rfl (by decide) (by decide))) <| Zb (Zc (Zap #[Value.agg #[vi 9, vi 5, vi 12, vq]]    N c19  71 rfl (by decide) (by decide))) <| Zb (Zc (ZA #[Value.agg #[vi 7, vi 5, vi 4, vi 1]]    N c18  67 rfl (by decide) (by decide))) <| Zb (Zc (Z4 #[Value.agg #[vi 13, vi 4, vi 3, vi 1]]    N c17  63 rfl (by decide) (by decide))) <| Zb (Zc (Zan #[Value.agg #[vi 9, vi 3, vi 21, vq]]    N c16  59 rfl (by decide) (by decide))) <| Zb (Zc (ZdC #[Value.agg #[vi 13, vi 3, vi 6, vq]]    N c15  55 rfl (by decide) (by decide))) <| Zb (Zc (ZdA #[Value.agg #[vi 3, vi 6, vi 3, vq]]    N c14  51 rfl (by decide) (by decide))) <| Zb (Zc (Zd8 #[Value.agg #[vi 8, vi 21, vq, vq]]    N c13  47 rfl (by decide) (by decide))) <| Zb (Zc (ZaN #[Value.agg #[vi 12, vi 3, vq, vq]]    N c12  43 rfl (by decide) (by decide))) <| Zb (Zc (Zal #[Value.agg #[vi 14, vq, vi (a0 % (8 : Int)), vi 2]] ((a0 % (8 : Int)))   N c11  39 rfl (by decide) (by decide))) <| Zb (Zc (Zar #[Value.agg #[vi 13, vi 2, vi 3, vq]]    N c10  35 rfl (by decide) (by decide))) <| Zb (Zc (Zap #[Value.agg #[vi 9, vi 5, vi 12, vq]]    N c9  31 rfl (by decide) (by decide))) <| Zb (Zc (ZA #[Value.agg #[vi 7, vi 5, vi 4, vi 1]]    N c8  27 rfl (by decide) (by decide))) <| Zb (Zc (Z4 #[Value.agg #[vi 13, vi 4, vi 3, vi 1]]    N c7  23 rfl (by decide) (by decide))) <| Zb (Zc (Zan #[Value.agg #[vi 9, vi 3, vi 21, vq]]    N c6  19 rfl (by decide) (by decide))) <| Zb (Zc (Zv #[Value.agg #[vi 13, vi 3, vq, vi (a0 % (8 : Int))]] ((a0 % (8 : Int)))   N c5  15 rfl (by decide) (by decide))) <| Zb (Zc (Z1 #[Value.agg #[vi 15, vq, vq, vq]]    N c4  11 rfl (by decide) (by decide))) <| Zb (Zc (Zx #[Value.agg #[vi 1, vi 1, vi a0, vq]] (a0)   N c3  7 rfl (by decide) (by decide))) <| Zb (Zc (Zs #[Value.agg #[vi 10, vq, vq, vq]]    N c2  3 rfl (by decide) (by decide))) <| Zb (beq_iff_eq.2 (ZS _)) <| oY <| oY Zf) rfl (by decide) (by rfl) rr trivial (Zh _ rfl)
                            | r1 =>
                             exact Zi Zj (r := (.r1 : ZH)) (fu := 4000) (orc := (Zl [(0, true), (1, true)] [(0, (a0 % (8 : Int)))] [] [] [(4, (Zr     3)), (8, (Zw (a0)    7)), (12, (Z0     11)), (16, (Zu ((a0 % (8 : Int)))    15)), (20, (Zam     19)), (24, (Z3     23)), (28, (Z9     27)), (32, (Zao     31)), (36, (Zaq     35)), (40, (Zak ((a0 % (8 : Int)))    39)), (44, (ZaM     43)), (48, (Zd7     47)), (52, (Zd9     51)), (56, (ZdB     55)), (60, (Zam     59)), (64, (Z3     63)), (68, (Z9     67)), (72, (Zao     71)), (76, (Zaq     75)), (80, (ZdD     79)), (84, (ZaM     83)), (88, (ZL     87)), (91, (Zr     92)), (95, (Zw (a0)    98)), (99, (Z0     104)), (103, (Zb2 ((a0 % (8 : Int)))    110))])) (live := []) (u := Value.tuple #[vn, vq]) (bl := []) (ob := [(dP (Zbp #[Value.agg #[vi 13, vi 3, vq, vi (a0 % (8 : Int))]] ((a0 % (8 : Int)))    110), true), (dP (Zy #[Value.agg #[vi 15, vq, vq, vq]]     104), true), (dP (Zt #[Value.agg #[vi 1, vi 1, vi a0, vq]] (a0)    98), true), (dP (Zp #[Value.agg #[vi 10, vq, vq, vq]]     92), true), (dP (ZI #[Value.agg #[vi 17, vq, vq, vq]]     87), true), (dP (ZaC #[Value.agg #[vi 12, vi 3, vq, vq]]     83), true), (dP (Zci #[Value.agg #[vi 14, vi 6, vq, vi 2]]     79), true), (dP (ZX #[Value.agg #[vi 13, vi 2, vi 3, vq]]     75), true), (dP (ZW #[Value.agg #[vi 9, vi 5, vi 12, vq]]     71), true), (dP (Z7 #[Value.agg #[vi 7, vi 5, vi 4, vi 1]]     67), true), (dP (Z2 #[Value.agg #[vi 13, vi 4, vi 3, vi 1]]     63), true), (dP (ZV #[Value.agg #[vi 9, vi 3, vi 21, vq]]     59), true), (dP (Zch #[Value.agg #[vi 13, vi 3, vi 6, vq]]     55), true), (dP (Zcg #[Value.agg #[vi 3, vi 6, vi 3, vq]]     51), true), (dP (Zcf #[Value.agg #[vi 8, vi 21, vq, vq]]     47), true), (dP (ZaC #[Value.agg #[vi 12, vi 3, vq, vq]]     43), true), (dP (ZU #[Value.agg #[vi 14, vq, vi (a0 % (8 : Int)), vi 2]] ((a0 % (8 : Int)))    39), true), (dP (ZX #[Value.agg #[vi 13, vi 2, vi 3, vq]]     35), true), (dP (ZW #[Value.agg #[vi 9, vi 5, vi 12, vq]]     31), true), (dP (Z7 #[Value.agg #[vi 7, vi 5, vi 4, vi 1]]     27), true), (dP (Z2 #[Value.agg #[vi 13, vi 4, vi 3, vi 1]]     23), true), (dP (ZV #[Value.agg #[vi 9, vi 3, vi 21, vq]]     19), true), (dP (Zq #[Value.agg #[vi 13, vi 3, vq, vi (a0 % (8 : Int))]] ((a0 % (8 : Int)))    15), true), (dP (Zy #[Value.agg #[vi 15, vq, vq, vq]]     11), true), (dP (Zt #[Value.agg #[vi 1, vi 1, vi a0, vq]] (a0)    7), true), (dP (Zp #[Value.agg #[vi 10, vq, vq, vq]]     3), true), ((IntKind.i64.wrap (((BitVec.ofInt IntKind.i64.bits a0 &&& BitVec.ofInt IntKind.i64.bits (7 : Int)).toNat : Nat) : Int)) == (a0 % (8 : Int)), true), ((decide (a0 ≤ (1099511627776 : Int))), true), ((decide (a0 ≥ (-1099511627776 : Int))), true)]) (by kernel_rfl) (Zb (Zc (Zb3 #[Value.agg #[vi 13, vi 3, vq, vi (a0 % (8 : Int))]] ((a0 % (8 : Int)))   N c27  110 rfl (by decide) (by decide))) <| Zb (Zc (Z1 #[Value.agg #[vi 15, vq, vq, vq]]    N c26  104 rfl (by decide) (by decide))) <| Zb (Zc (Zx #[Value.agg #[vi 1, vi 1, vi a0, vq]] (a0)   N c25  98 rfl (by decide) (by decide))) <| Zb (Zc (Zs #[Value.agg #[vi 10, vq, vq, vq]]    N c24  92 rfl (by decide) (by decide))) <| Zb (Zc (ZM #[Value.agg #[vi 17, vq, vq, vq]]    N c23  87 rfl (by decide) (by decide))) <| Zb (Zc (ZaN #[Value.agg #[vi 12, vi 3, vq, vq]]    N c22  83 rfl (by decide) (by decide))) <| Zb (Zc (ZdE #[Value.agg #[vi 14, vi 6, vq, vi 2]]    N c21  79 rfl (by decide) (by decide))) <| Zb (Zc (Zar #[Value.agg #[vi 13, vi 2, vi 3, vq]]    N c20  75 rfl (by decide) (by decide))) <| Zb (Zc (Zap #[Value.agg #[vi 9, vi 5, vi 12, vq]]    N c19  71 rfl (by decide) (by decide))) <| Zb (Zc (ZA #[Value.agg #[vi 7, vi 5, vi 4, vi 1]]    N c18  67 rfl (by decide) (by decide))) <| Zb (Zc (Z4 #[Value.agg #[vi 13, vi 4, vi 3, vi 1]]    N c17  63 rfl (by decide) (by decide))) <| Zb (Zc (Zan #[Value.agg #[vi 9, vi 3, vi 21, vq]]    N c16  59 rfl (by decide) (by decide))) <| Zb (Zc (ZdC #[Value.agg #[vi 13, vi 3, vi 6, vq]]    N c15  55 rfl (by decide) (by decide))) <| Zb (Zc (ZdA #[Value.agg #[vi 3, vi 6, vi 3, vq]]    N c14  51 rfl (by decide) (by decide))) <| Zb (Zc (Zd8 #[Value.agg #[vi 8, vi 21, vq, vq]]    N c13  47 rfl (by decide) (by decide))) <| Zb (Zc (ZaN #[Value.agg #[vi 12, vi 3, vq, vq]]    N c12  43 rfl (by decide) (by decide))) <| Zb (Zc (Zal #[Value.agg #[vi 14, vq, vi (a0 % (8 : Int)), vi 2]] ((a0 % (8 : Int)))   N c11  39 rfl (by decide) (by decide))) <| Zb (Zc (Zar #[Value.agg #[vi 13, vi 2, vi 3, vq]]    N c10  35 rfl (by decide) (by decide))) <| Zb (Zc (Zap #[Value.agg #[vi 9, vi 5, vi 12, vq]]    N c9  31 rfl (by decide) (by decide))) <| Zb (Zc (ZA #[Value.agg #[vi 7, vi 5, vi 4, vi 1]]    N c8  27 rfl (by decide) (by decide))) <| Zb (Zc (Z4 #[Value.agg #[vi 13, vi 4, vi 3, vi 1]]    N c7  23 rfl (by decide) (by decide))) <| Zb (Zc (Zan #[Value.agg #[vi 9, vi 3, vi 21, vq]]    N c6  19 rfl (by decide) (by decide))) <| Zb (Zc (Zv #[Value.agg #[vi 13, vi 3, vq, vi (a0 % (8 : Int))]] ((a0 % (8 : Int)))   N c5  15 rfl (by decide) (by decide))) <| Zb (Zc (Z1 #[Value.agg #[vi 15, vq, vq, vq]]    N c4  11 rfl (by decide) (by decide))) <| Zb (Zc (Zx #[Value.agg #[vi 1, vi 1, vi a0, vq]] (a0)   N c3  7 rfl (by decide) (by decide))) <| Zb (Zc (Zs #[Value.agg #[vi 10, vq, vq, vq]]    N c2  3 rfl (by decide) (by decide))) <| Zb (beq_iff_eq.2 (ZS _)) <| oY <| oY Zf) rfl (by decide) (by rfl) rr trivial (Zh _ rfl)
                          | r1 =>
                           exact Zi Zj (r := (.r1 : ZH)) (fu := 4000) (orc := (Zl [(0, true), (1, true)] [(0, (a0 % (8 : Int)))] [] [] [(4, (Zr     3)), (8, (Zw (a0)    7)), (12, (Z0     11)), (16, (Zu ((a0 % (8 : Int)))    15)), (20, (Zam     19)), (24, (Z3     23)), (28, (Z9     27)), (32, (Zao     31)), (36, (Zaq     35)), (40, (Zak ((a0 % (8 : Int)))    39)), (44, (ZaM     43)), (48, (Zd7     47)), (52, (Zd9     51)), (56, (ZdB     55)), (60, (Zam     59)), (64, (Z3     63)), (68, (Z9     67)), (72, (Zao     71)), (76, (Zaq     75)), (80, (ZdD     79)), (84, (ZaM     83)), (88, (ZL     87)), (91, (Zr     92)), (95, (ZcG (a0)    98))])) (live := []) (u := Value.tuple #[vn, vq]) (bl := []) (ob := [(dP (ZbU #[Value.agg #[vi 1, vi 1, vi a0, vq]] (a0)    98), true), (dP (Zp #[Value.agg #[vi 10, vq, vq, vq]]     92), true), (dP (ZI #[Value.agg #[vi 17, vq, vq, vq]]     87), true), (dP (ZaC #[Value.agg #[vi 12, vi 3, vq, vq]]     83), true), (dP (Zci #[Value.agg #[vi 14, vi 6, vq, vi 2]]     79), true), (dP (ZX #[Value.agg #[vi 13, vi 2, vi 3, vq]]     75), true), (dP (ZW #[Value.agg #[vi 9, vi 5, vi 12, vq]]     71), true), (dP (Z7 #[Value.agg #[vi 7, vi 5, vi 4, vi 1]]     67), true), (dP (Z2 #[Value.agg #[vi 13, vi 4, vi 3, vi 1]]     63), true), (dP (ZV #[Value.agg #[vi 9, vi 3, vi 21, vq]]     59), true), (dP (Zch #[Value.agg #[vi 13, vi 3, vi 6, vq]]     55), true), (dP (Zcg #[Value.agg #[vi 3, vi 6, vi 3, vq]]     51), true), (dP (Zcf #[Value.agg #[vi 8, vi 21, vq, vq]]     47), true), (dP (ZaC #[Value.agg #[vi 12, vi 3, vq, vq]]     43), true), (dP (ZU #[Value.agg #[vi 14, vq, vi (a0 % (8 : Int)), vi 2]] ((a0 % (8 : Int)))    39), true), (dP (ZX #[Value.agg #[vi 13, vi 2, vi 3, vq]]     35), true), (dP (ZW #[Value.agg #[vi 9, vi 5, vi 12, vq]]     31), true), (dP (Z7 #[Value.agg #[vi 7, vi 5, vi 4, vi 1]]     27), true), (dP (Z2 #[Value.agg #[vi 13, vi 4, vi 3, vi 1]]     23), true), (dP (ZV #[Value.agg #[vi 9, vi 3, vi 21, vq]]     19), true), (dP (Zq #[Value.agg #[vi 13, vi 3, vq, vi (a0 % (8 : Int))]] ((a0 % (8 : Int)))    15), true), (dP (Zy #[Value.agg #[vi 15, vq, vq, vq]]     11), true), (dP (Zt #[Value.agg #[vi 1, vi 1, vi a0, vq]] (a0)    7), true), (dP (Zp #[Value.agg #[vi 10, vq, vq, vq]]     3), true), ((IntKind.i64.wrap (((BitVec.ofInt IntKind.i64.bits a0 &&& BitVec.ofInt IntKind.i64.bits (7 : Int)).toNat : Nat) : Int)) == (a0 % (8 : Int)), true), ((decide (a0 ≤ (1099511627776 : Int))), true), ((decide (a0 ≥ (-1099511627776 : Int))), true)]) (by kernel_rfl) (Zb (Zc (ZcH #[Value.agg #[vi 1, vi 1, vi a0, vq]] (a0)   N c25  98 rfl (by decide) (by decide))) <| Zb (Zc (Zs #[Value.agg #[vi 10, vq, vq, vq]]    N c24  92 rfl (by decide) (by decide))) <| Zb (Zc (ZM #[Value.agg #[vi 17, vq, vq, vq]]    N c23  87 rfl (by decide) (by decide))) <| Zb (Zc (ZaN #[Value.agg #[vi 12, vi 3, vq, vq]]    N c22  83 rfl (by decide) (by decide))) <| Zb (Zc (ZdE #[Value.agg #[vi 14, vi 6, vq, vi 2]]    N c21  79 rfl (by decide) (by decide))) <| Zb (Zc (Zar #[Value.agg #[vi 13, vi 2, vi 3, vq]]    N c20  75 rfl (by decide) (by decide))) <| Zb (Zc (Zap #[Value.agg #[vi 9, vi 5, vi 12, vq]]    N c19  71 rfl (by decide) (by decide))) <| Zb (Zc (ZA #[Value.agg #[vi 7, vi 5, vi 4, vi 1]]    N c18  67 rfl (by decide) (by decide))) <| Zb (Zc (Z4 #[Value.agg #[vi 13, vi 4, vi 3, vi 1]]    N c17  63 rfl (by decide) (by decide))) <| Zb (Zc (Zan #[Value.agg #[vi 9, vi 3, vi 21, vq]]    N c16  59 rfl (by decide) (by decide))) <| Zb (Zc (ZdC #[Value.agg #[vi 13, vi 3, vi 6, vq]]    N c15  55 rfl (by decide) (by decide))) <| Zb (Zc (ZdA #[Value.agg #[vi 3, vi 6, vi 3, vq]]    N c14  51 rfl (by decide) (by decide))) <| Zb (Zc (Zd8 #[Value.agg #[vi 8, vi 21, vq, vq]]    N c13  47 rfl (by decide) (by decide))) <| Zb (Zc (ZaN #[Value.agg #[vi 12, vi 3, vq, vq]]    N c12  43 rfl (by decide) (by decide))) <| Zb (Zc (Zal #[Value.agg #[vi 14, vq, vi (a0 % (8 : Int)), vi 2]] ((a0 % (8 : Int)))   N c11  39 rfl (by decide) (by decide))) <| Zb (Zc (Zar #[Value.agg #[vi 13, vi 2, vi 3, vq]]    N c10  35 rfl (by decide) (by decide))) <| Zb (Zc (Zap #[Value.agg #[vi 9, vi 5, vi 12, vq]]    N c9  31 rfl (by decide) (by decide))) <| Zb (Zc (ZA #[Value.agg #[vi 7, vi 5, vi 4, vi 1]]    N c8  27 rfl (by decide) (by decide))) <| Zb (Zc (Z4 #[Value.agg #[vi 13, vi 4, vi 3, vi 1]]    N c7  23 rfl (by decide) (by decide))) <| Zb (Zc (Zan #[Value.agg #[vi 9, vi 3, vi 21, vq]]    N c6  19 rfl (by decide) (by decide))) <| Zb (Zc (Zv #[Value.agg #[vi 13, vi 3, vq, vi (a0 % (8 : Int))]] ((a0 % (8 : Int)))   N c5  15 rfl (by decide) (by decide))) <| Zb (Zc (Z1 #[Value.agg #[vi 15, vq, vq, vq]]    N c4  11 rfl (by decide) (by decide))) <| Zb (Zc (Zx #[Value.agg #[vi 1, vi 1, vi a0, vq]] (a0)   N c3  7 rfl (by decide) (by decide))) <| Zb (Zc (Zs #[Value.agg #[vi 10, vq, vq, vq]]    N c2  3 rfl (by decide) (by decide))) <| Zb (beq_iff_eq.2 (ZS _)) <| oY <| oY Zf) rfl (by decide) (by rfl) rr trivial (Zh _ rfl)
            | r1 =>
             exact Zi Zj (r := (.r1 : ZH)) (fu := 4000) (orc := (Zl [(0, true), (1, true)] [(0, (a0 % (8 : Int)))] [] [] [(4, (Zr     3)), (8, (Zw (a0)    7)), (12, (Z0     11)), (16, (Zu ((a0 % (8 : Int)))    15)), (20, (Zam     19)), (24, (Z3     23)), (28, (Z9     27)), (32, (Zao     31)), (36, (Zaq     35)), (40, (ZeN ((a0 % (8 : Int)))    39))])) (live := []) (u := Value.tuple #[vn, vq]) (bl := []) (ob := [(dP (Zdy #[Value.agg #[vi 14, vq, vi (a0 % (8 : Int)), vi 2]] ((a0 % (8 : Int)))    39), true), (dP (ZX #[Value.agg #[vi 13, vi 2, vi 3, vq]]     35), true), (dP (ZW #[Value.agg #[vi 9, vi 5, vi 12, vq]]     31), true), (dP (Z7 #[Value.agg #[vi 7, vi 5, vi 4, vi 1]]     27), true), (dP (Z2 #[Value.agg #[vi 13, vi 4, vi 3, vi 1]]     23), true), (dP (ZV #[Value.agg #[vi 9, vi 3, vi 21, vq]]     19), true), (dP (Zq #[Value.agg #[vi 13, vi 3, vq, vi (a0 % (8 : Int))]] ((a0 % (8 : Int)))    15), true), (dP (Zy #[Value.agg #[vi 15, vq, vq, vq]]     11), true), (dP (Zt #[Value.agg #[vi 1, vi 1, vi a0, vq]] (a0)    7), true), (dP (Zp #[Value.agg #[vi 10, vq, vq, vq]]     3), true), ((IntKind.i64.wrap (((BitVec.ofInt IntKind.i64.bits a0 &&& BitVec.ofInt IntKind.i64.bits (7 : Int)).toNat : Nat) : Int)) == (a0 % (8 : Int)), true), ((decide (a0 ≤ (1099511627776 : Int))), true), ((decide (a0 ≥ (-1099511627776 : Int))), true)]) (by kernel_rfl) (Zb (Zc (ZeO #[Value.agg #[vi 14, vq, vi (a0 % (8 : Int)), vi 2]] ((a0 % (8 : Int)))   N c11  39 rfl (by decide) (by decide))) <| Zb (Zc (Zar #[Value.agg #[vi 13, vi 2, vi 3, vq]]    N c10  35 rfl (by decide) (by decide))) <| Zb (Zc (Zap #[Value.agg #[vi 9, vi 5, vi 12, vq]]    N c9  31 rfl (by decide) (by decide))) <| Zb (Zc (ZA #[Value.agg #[vi 7, vi 5, vi 4, vi 1]]    N c8  27 rfl (by decide) (by decide))) <| Zb (Zc (Z4 #[Value.agg #[vi 13, vi 4, vi 3, vi 1]]    N c7  23 rfl (by decide) (by decide))) <| Zb (Zc (Zan #[Value.agg #[vi 9, vi 3, vi 21, vq]]    N c6  19 rfl (by decide) (by decide))) <| Zb (Zc (Zv #[Value.agg #[vi 13, vi 3, vq, vi (a0 % (8 : Int))]] ((a0 % (8 : Int)))   N c5  15 rfl (by decide) (by decide))) <| Zb (Zc (Z1 #[Value.agg #[vi 15, vq, vq, vq]]    N c4  11 rfl (by decide) (by decide))) <| Zb (Zc (Zx #[Value.agg #[vi 1, vi 1, vi a0, vq]] (a0)   N c3  7 rfl (by decide) (by decide))) <| Zb (Zc (Zs #[Value.agg #[vi 10, vq, vq, vq]]    N c2  3 rfl (by decide) (by decide))) <| Zb (beq_iff_eq.2 (ZS _)) <| oY <| oY Zf) rfl (by decide) (by rfl) rr trivial (Zh _ rfl)
      | r1 =>
       exact Zi Zj (r := (.r1 : ZH)) (fu := 4000) (orc := (Zl [(0, true), (1, true)] [(0, (a0 % (8 : Int)))] [] [] [(4, (Zr     3)), (8, (Zw (a0)    7)), (12, (Z0     11)), (16, (Zb2 ((a0 % (8 : Int)))    15))])) (live := []) (u := Value.tuple #[vn, vq]) (bl := []) (ob := [(dP (Zbp #[Value.agg #[vi 13, vi 3, vq, vi (a0 % (8 : Int))]] ((a0 % (8 : Int)))    15), true), (dP (Zy #[Value.agg #[vi 15, vq, vq, vq]]     11), true), (dP (Zt #[Value.agg #[vi 1, vi 1, vi a0, vq]] (a0)    7), true), (dP (Zp #[Value.agg #[vi 10, vq, vq, vq]]     3), true), ((IntKind.i64.wrap (((BitVec.ofInt IntKind.i64.bits a0 &&& BitVec.ofInt IntKind.i64.bits (7 : Int)).toNat : Nat) : Int)) == (a0 % (8 : Int)), true), ((decide (a0 ≤ (1099511627776 : Int))), true), ((decide (a0 ≥ (-1099511627776 : Int))), true)]) (by kernel_rfl) (Zb (Zc (Zb3 #[Value.agg #[vi 13, vi 3, vq, vi (a0 % (8 : Int))]] ((a0 % (8 : Int)))   N c5  15 rfl (by decide) (by decide))) <| Zb (Zc (Z1 #[Value.agg #[vi 15, vq, vq, vq]]    N c4  11 rfl (by decide) (by decide))) <| Zb (Zc (Zx #[Value.agg #[vi 1, vi 1, vi a0, vq]] (a0)   N c3  7 rfl (by decide) (by decide))) <| Zb (Zc (Zs #[Value.agg #[vi 10, vq, vq, vq]]    N c2  3 rfl (by decide) (by decide))) <| Zb (beq_iff_eq.2 (ZS _)) <| oY <| oY Zf) rfl (by decide) (by rfl) rr trivial (Zh _ rfl)
    | r1 =>
     exact Zi Zj (r := (.r1 : ZH)) (fu := 4000) (orc := (Zl [(0, true), (1, true)] [(0, (a0 % (8 : Int)))] [] [] [(4, (Zr     3)), (8, (ZcG (a0)    7))])) (live := []) (u := Value.tuple #[vn, vq]) (bl := []) (ob := [(dP (ZbU #[Value.agg #[vi 1, vi 1, vi a0, vq]] (a0)    7), true), (dP (Zp #[Value.agg #[vi 10, vq, vq, vq]]     3), true), ((IntKind.i64.wrap (((BitVec.ofInt IntKind.i64.bits a0 &&& BitVec.ofInt IntKind.i64.bits (7 : Int)).toNat : Nat) : Int)) == (a0 % (8 : Int)), true), ((decide (a0 ≤ (1099511627776 : Int))), true), ((decide (a0 ≥ (-1099511627776 : Int))), true)]) (by kernel_rfl) (Zb (Zc (ZcH #[Value.agg #[vi 1, vi 1, vi a0, vq]] (a0)   N c3  7 rfl (by decide) (by decide))) <| Zb (Zc (Zs #[Value.agg #[vi 10, vq, vq, vq]]    N c2  3 rfl (by decide) (by decide))) <| Zb (beq_iff_eq.2 (ZS _)) <| oY <| oY Zf) rfl (by decide) (by rfl) rr trivial (Zh _ rfl)
  ·
   exact Zi Zj (r := (.r2 : ZH)) (fu := 4000) (orc := (Zl [(0, true), (1, false)] [] [] [] [])) (live := []) (u := Value.tuple #[vn, vi 240]) (bl := []) (ob := [((decide (a0 ≤ (1099511627776 : Int))), false), ((decide (a0 ≥ (-1099511627776 : Int))), true)]) (by kernel_rfl) (oN <| oY Zf) rfl (by decide) (by rfl) rr trivial (Zh _ rfl)
 ·
  exact Zi Zj (r := (.r2 : ZH)) (fu := 4000) (orc := (Zl [(0, false)] [] [] [] [])) (live := []) (u := Value.tuple #[vn, vi 240]) (bl := []) (ob := [((decide (a0 ≥ (-1099511627776 : Int))), false)]) (by kernel_rfl) (oN Zf) rfl (by decide) (by rfl) rr trivial (Zh _ rfl)

theorem Zja (a0 : Int) (N : Nat) (r : ZH) (h : Zbj a0 N = some r) : LSpec Tryz.prog 8 #[vi a0] [] (Zm0 a0 r) (Zlo a0 r) :=
 (Zrz a0 N) r h

noncomputable def Zgc (a0 : Int) (n : Nat) : ZB := .call [] (Value.tuple #[vs n 0 22 22, vq]) [(n, some (.cells [vi 10, vq, vq, vq, vi 1, vi 1, vi a0, vq, vi 15, vq, vq, vq, vi 13, vi 3, vq, vi (a0 % (8 : Int)), vi 9, vi 3, vi 21, vq, vi 13, vi 4, vi 3, vi 1, vi 7, vi 5, vi 4, vi 1, vi 9, vi 5, vi 12, vq, vi 13, vi 2, vi 3, vq, vi 14, vq, vi (a0 % (8 : Int)), vi 2, vi 12, vi 3, vq, vq, vi 8, vi 21, vq, vq, vi 3, vi 6, vi 3, vq, vi 13, vi 3, vi 6, vq, vi 9, vi 3, vi 21, vq, vi 13, vi 4, vi 3, vi 1, vi 7, vi 5, vi 4, vi 1, vi 9, vi 5, vi 12, vq, vi 13, vi 2, vi 3, vq, vi 14, vi 6, vq, vi 2, vi 12, vi 3, vq, vq, vi 17, vq, vq, vq] 43))] 1
def ZeL (A : Array Value) (a0 : Int) (n : Nat) : Prop := Zk Tryz.prog 8 A [] (Value.tuple #[vs n 0 22 22, vq]) [(n, some (.cells [vi 10, vq, vq, vq, vi 1, vi 1, vi a0, vq, vi 15, vq, vq, vq, vi 13, vi 3, vq, vi (a0 % (8 : Int)), vi 9, vi 3, vi 21, vq, vi 13, vi 4, vi 3, vi 1, vi 7, vi 5, vi 4, vi 1, vi 9, vi 5, vi 12, vq, vi 13, vi 2, vi 3, vq, vi 14, vq, vi (a0 % (8 : Int)), vi 2, vi 12, vi 3, vq, vq, vi 8, vi 21, vq, vq, vi 3, vi 6, vi 3, vq, vi 13, vi 3, vi 6, vq, vi 9, vi 3, vi 21, vq, vi 13, vi 4, vi 3, vi 1, vi 7, vi 5, vi 4, vi 1, vi 9, vi 5, vi 12, vq, vi 13, vi 2, vi 3, vq, vi 14, vi 6, vq, vi 2, vi 12, vi 3, vq, vq, vi 17, vq, vq, vq] 43))] n 1

theorem Zgd (A : Array Value) (a0 : Int) (N : Nat) (h : Zbj a0 N = some (.r0)) (n : Nat) (hA : A = #[vi a0]) (hnd : ([] : List Nat).Nodup) (hlt : ∀ k ∈ ([] : List Nat), k < n) : ZeL A a0  n :=
 Zn hA (LSpec.callL (show LSpec Tryz.prog 8 #[vi a0] [] (Value.tuple #[vs 0 0 22 22, vq]) [some (.cells [vi 10, vq, vq, vq, vi 1, vi 1, vi a0, vq, vi 15, vq, vq, vq, vi 13, vi 3, vq, vi (a0 % (8 : Int)), vi 9, vi 3, vi 21, vq, vi 13, vi 4, vi 3, vi 1, vi 7, vi 5, vi 4, vi 1, vi 9, vi 5, vi 12, vq, vi 13, vi 2, vi 3, vq, vi 14, vq, vi (a0 % (8 : Int)), vi 2, vi 12, vi 3, vq, vq, vi 8, vi 21, vq, vq, vi 3, vi 6, vi 3, vq, vi 13, vi 3, vi 6, vq, vi 9, vi 3, vi 21, vq, vi 13, vi 4, vi 3, vi 1, vi 7, vi 5, vi 4, vi 1, vi 9, vi 5, vi 12, vq, vi 13, vi 2, vi 3, vq, vi 14, vi 6, vq, vi 2, vi 12, vi 3, vq, vq, vi 17, vq, vq, vq] 43)] from Zja a0 N _ h) [] n [0] rfl hnd hlt (show 0 ≤ 1 from by decide) (show ∀ j ∈ ([0] : List Nat), j < 1 from by decide) (by rfl) trivial (by rfl) ⟨rfl, trivial⟩ ⟨(by decide), trivial⟩ rfl rfl rfl rfl (Za (ZdH rfl (ZkT rfl)) rfl))

noncomputable def Zlp (a0 : Int) (n : Nat) : ZB := .call [] (Value.tuple #[vn, vi 240]) [] 0
def ZhD (A : Array Value) (a0 : Int) (n : Nat) : Prop := Zk Tryz.prog 8 A [] (Value.tuple #[vn, vi 240]) [] n 0

theorem Zlq (A : Array Value) (a0 : Int) (N : Nat) (h : Zbj a0 N = some (.r2)) (n : Nat) (hA : A = #[vi a0]) (hnd : ([] : List Nat).Nodup) (hlt : ∀ k ∈ ([] : List Nat), k < n) : ZhD A a0  n :=
 Zn hA (LSpec.callL (show LSpec Tryz.prog 8 #[vi a0] [] (Value.tuple #[vn, vi 240]) [] from Zja a0 N _ h) [] n [] rfl hnd hlt (show 0 ≤ 0 from by decide) (show ∀ j ∈ ([] : List Nat), j < 0 from by decide) (by rfl) trivial (by rfl) trivial trivial rfl rfl rfl rfl rfl)

noncomputable def Zlr (a0 : Int) : ZaQ → Value
 | .r0 w1 w2 => Value.tuple #[vs 0 0 22 22, vq]
 | .r1 => Value.tuple #[vn, vi 240]
noncomputable def Zk2 (a0 : Int) : ZaQ → List (Option AObj)
 | .r0 w1 w2 => [some (.cells [vi 10, vq, vq, vq, vi 1, vi 1, vi a0, vq, vi 15, vq, vq, vq, vi 13, vi 3, vq, vi w1, vi 9, vi 3, vi 21, vq, vi 13, vi 4, vi 3, vi 1, vi 7, vi 5, vi 4, vi 1, vi 9, vi 5, vi 12, vq, vi 13, vi 2, vi 3, vq, vi 14, vq, vi w2, vi 2, vi 12, vi 3, vq, vq, vi 8, vi 21, vq, vq, vi 3, vi 6, vi 3, vq, vi 13, vi 3, vi 6, vq, vi 9, vi 3, vi 21, vq, vi 13, vi 4, vi 3, vi 1, vi 7, vi 5, vi 4, vi 1, vi 9, vi 5, vi 12, vq, vi 13, vi 2, vi 3, vq, vi 14, vi 6, vq, vi 2, vi 12, vi 3, vq, vq, vi 17, vq, vq, vq] 43)]
 | .r1 => []

theorem ZqR (a0 : Int) (N : Nat) : Gx Tryz.prog 9 [] #[vi a0] (Zlr a0) (Zk2 a0) (Zbo a0 N) := by
 unfold Zbo
 refine ZR (fun g0 => ?_) (fun g0 => ?_)
 ·
  refine ZR (fun g1 => ?_) (fun g1 => ?_)
  ·
   refine ZR (fun g2 => ?_) (fun g2 => ?_)
   ·
    exact Zi Zj (r := (.r0 ((((a0 % (8 : Int)) + (8 : Int)) % (8 : Int))) ((((a0 % (8 : Int)) + (8 : Int)) % (8 : Int))) : ZaQ)) (fu := 4000) (orc := (Zl [(0, true), (1, true)] [(0, (a0 % (8 : Int))), (1, ((a0 % (8 : Int)) + (8 : Int))), (2, (((a0 % (8 : Int)) + (8 : Int)) % (8 : Int)))] [] [] [])) (live := [22]) (u := Value.tuple #[vs 22 0 22 22, vq]) (bl := [some (.cells [vi 10, vq, vq, vq, vi 1, vi 1, vi a0, vq, vi 15, vq, vq, vq, vi 13, vi 3, vq, vi (((a0 % (8 : Int)) + (8 : Int)) % (8 : Int)), vi 9, vi 3, vi 21, vq, vi 13, vi 4, vi 3, vi 1, vi 7, vi 5, vi 4, vi 1, vi 9, vi 5, vi 12, vq, vi 13, vi 2, vi 3, vq, vi 14, vq, vi (((a0 % (8 : Int)) + (8 : Int)) % (8 : Int)), vi 2, vi 12, vi 3, vq, vq, vi 8, vi 21, vq, vq, vi 3, vi 6, vi 3, vq, vi 13, vi 3, vi 6, vq, vi 9, vi 3, vi 21, vq, vi 13, vi 4, vi 3, vi 1, vi 7, vi 5, vi 4, vi 1, vi 9, vi 5, vi 12, vq, vi 13, vi 2, vi 3, vq, vi 14, vi 6, vq, vi 2, vi 12, vi 3, vq, vq, vi 17, vq, vq, vq] 43)]) (ob := [((Int.tmod ((a0 % (8 : Int)) + (8 : Int)) (8 : Int)) == (((a0 % (8 : Int)) + (8 : Int)) % (8 : Int)), true), ((IntKind.i64.wrap ((a0 % (8 : Int)) + (8 : Int))) == ((a0 % (8 : Int)) + (8 : Int)), true), ((Int.tmod a0 (8 : Int)) == (a0 % (8 : Int)), true), ((decide (a0 ≤ (1099511627776 : Int))), true), ((decide (a0 ≥ (-1099511627776 : Int))), true)]) (by kernel_rfl) (Zb (beq_iff_eq.2 (ZbH (by omega))) <| Zb (beq_iff_eq.2 ((wrap_i64 ltA).trans (by first | rfl | omega))) <| Zb (beq_iff_eq.2 (ZbH (by omega))) <| oY <| oY Zf) rfl (by decide) (by rfl) rr ⟨⟨rfl, ⟨[], by rfl⟩, by rfl⟩, trivial⟩ (Zh _ rfl)
   ·
    exact Zi Zj (r := (.r0 (((((0 : Int) - (((0 : Int) - a0) % (8 : Int))) + (8 : Int)) % (8 : Int))) (((((0 : Int) - (((0 : Int) - a0) % (8 : Int))) + (8 : Int)) % (8 : Int))) : ZaQ)) (fu := 4000) (orc := (Zl [(0, true), (1, true)] [(0, ((0 : Int) - (((0 : Int) - a0) % (8 : Int)))), (1, (((0 : Int) - (((0 : Int) - a0) % (8 : Int))) + (8 : Int))), (2, ((((0 : Int) - (((0 : Int) - a0) % (8 : Int))) + (8 : Int)) % (8 : Int)))] [] [] [])) (live := [22]) (u := Value.tuple #[vs 22 0 22 22, vq]) (bl := [some (.cells [vi 10, vq, vq, vq, vi 1, vi 1, vi a0, vq, vi 15, vq, vq, vq, vi 13, vi 3, vq, vi ((((0 : Int) - (((0 : Int) - a0) % (8 : Int))) + (8 : Int)) % (8 : Int)), vi 9, vi 3, vi 21, vq, vi 13, vi 4, vi 3, vi 1, vi 7, vi 5, vi 4, vi 1, vi 9, vi 5, vi 12, vq, vi 13, vi 2, vi 3, vq, vi 14, vq, vi ((((0 : Int) - (((0 : Int) - a0) % (8 : Int))) + (8 : Int)) % (8 : Int)), vi 2, vi 12, vi 3, vq, vq, vi 8, vi 21, vq, vq, vi 3, vi 6, vi 3, vq, vi 13, vi 3, vi 6, vq, vi 9, vi 3, vi 21, vq, vi 13, vi 4, vi 3, vi 1, vi 7, vi 5, vi 4, vi 1, vi 9, vi 5, vi 12, vq, vi 13, vi 2, vi 3, vq, vi 14, vi 6, vq, vi 2, vi 12, vi 3, vq, vq, vi 17, vq, vq, vq] 43)]) (ob := [((Int.tmod (((0 : Int) - (((0 : Int) - a0) % (8 : Int))) + (8 : Int)) (8 : Int)) == ((((0 : Int) - (((0 : Int) - a0) % (8 : Int))) + (8 : Int)) % (8 : Int)), true), ((IntKind.i64.wrap (((0 : Int) - (((0 : Int) - a0) % (8 : Int))) + (8 : Int))) == (((0 : Int) - (((0 : Int) - a0) % (8 : Int))) + (8 : Int)), true), ((Int.tmod a0 (8 : Int)) == ((0 : Int) - (((0 : Int) - a0) % (8 : Int))), true), ((decide (a0 ≤ (1099511627776 : Int))), true), ((decide (a0 ≥ (-1099511627776 : Int))), true)]) (by kernel_rfl) (Zb (beq_iff_eq.2 (ZbH (by omega))) <| Zb (beq_iff_eq.2 ((wrap_i64 ltA).trans (by first | rfl | omega))) <| Zb (beq_iff_eq.2 (Zik (by omega) (by decide))) <| oY <| oY Zf) rfl (by decide) (by rfl) rr ⟨⟨rfl, ⟨[], by rfl⟩, by rfl⟩, trivial⟩ (Zh _ rfl)
  ·
   exact Zi Zj (r := (.r1 : ZaQ)) (fu := 4000) (orc := (Zl [(0, true), (1, false)] [] [] [] [])) (live := []) (u := Value.tuple #[vn, vi 240]) (bl := []) (ob := [((decide (a0 ≤ (1099511627776 : Int))), false), ((decide (a0 ≥ (-1099511627776 : Int))), true)]) (by kernel_rfl) (oN <| oY Zf) rfl (by decide) (by rfl) rr trivial (Zh _ rfl)
 ·
  exact Zi Zj (r := (.r1 : ZaQ)) (fu := 4000) (orc := (Zl [(0, false)] [] [] [] [])) (live := []) (u := Value.tuple #[vn, vi 240]) (bl := []) (ob := [((decide (a0 ≥ (-1099511627776 : Int))), false)]) (by kernel_rfl) (oN Zf) rfl (by decide) (by rfl) rr trivial (Zh _ rfl)

theorem Zi0 (a0 : Int) (N : Nat) (r : ZaQ) (h : Zbo a0 N = some r) : LSpec Tryz.prog 9 #[vi a0] [] (Zlr a0 r) (Zk2 a0 r) :=
 (ZqR a0 N) r h

noncomputable def Zf0 (a0 w1 w2 : Int) (n : Nat) : ZB := .call [] (Value.tuple #[vs n 0 22 22, vq]) [(n, some (.cells [vi 10, vq, vq, vq, vi 1, vi 1, vi a0, vq, vi 15, vq, vq, vq, vi 13, vi 3, vq, vi w1, vi 9, vi 3, vi 21, vq, vi 13, vi 4, vi 3, vi 1, vi 7, vi 5, vi 4, vi 1, vi 9, vi 5, vi 12, vq, vi 13, vi 2, vi 3, vq, vi 14, vq, vi w2, vi 2, vi 12, vi 3, vq, vq, vi 8, vi 21, vq, vq, vi 3, vi 6, vi 3, vq, vi 13, vi 3, vi 6, vq, vi 9, vi 3, vi 21, vq, vi 13, vi 4, vi 3, vi 1, vi 7, vi 5, vi 4, vi 1, vi 9, vi 5, vi 12, vq, vi 13, vi 2, vi 3, vq, vi 14, vi 6, vq, vi 2, vi 12, vi 3, vq, vq, vi 17, vq, vq, vq] 43))] 1
def Ze2 (A : Array Value) (a0 w1 w2 : Int) (n : Nat) : Prop := Zk Tryz.prog 9 A [] (Value.tuple #[vs n 0 22 22, vq]) [(n, some (.cells [vi 10, vq, vq, vq, vi 1, vi 1, vi a0, vq, vi 15, vq, vq, vq, vi 13, vi 3, vq, vi w1, vi 9, vi 3, vi 21, vq, vi 13, vi 4, vi 3, vi 1, vi 7, vi 5, vi 4, vi 1, vi 9, vi 5, vi 12, vq, vi 13, vi 2, vi 3, vq, vi 14, vq, vi w2, vi 2, vi 12, vi 3, vq, vq, vi 8, vi 21, vq, vq, vi 3, vi 6, vi 3, vq, vi 13, vi 3, vi 6, vq, vi 9, vi 3, vi 21, vq, vi 13, vi 4, vi 3, vi 1, vi 7, vi 5, vi 4, vi 1, vi 9, vi 5, vi 12, vq, vi 13, vi 2, vi 3, vq, vi 14, vi 6, vq, vi 2, vi 12, vi 3, vq, vq, vi 17, vq, vq, vq] 43))] n 1

theorem Zf1 (A : Array Value) (a0 w1 w2 : Int) (N : Nat) (h : Zbo a0 N = some (.r0 w1 w2)) (n : Nat) (hA : A = #[vi a0]) (hnd : ([] : List Nat).Nodup) (hlt : ∀ k ∈ ([] : List Nat), k < n) : Ze2 A a0 w1 w2  n :=
 Zn hA (LSpec.callL (show LSpec Tryz.prog 9 #[vi a0] [] (Value.tuple #[vs 0 0 22 22, vq]) [some (.cells [vi 10, vq, vq, vq, vi 1, vi 1, vi a0, vq, vi 15, vq, vq, vq, vi 13, vi 3, vq, vi w1, vi 9, vi 3, vi 21, vq, vi 13, vi 4, vi 3, vi 1, vi 7, vi 5, vi 4, vi 1, vi 9, vi 5, vi 12, vq, vi 13, vi 2, vi 3, vq, vi 14, vq, vi w2, vi 2, vi 12, vi 3, vq, vq, vi 8, vi 21, vq, vq, vi 3, vi 6, vi 3, vq, vi 13, vi 3, vi 6, vq, vi 9, vi 3, vi 21, vq, vi 13, vi 4, vi 3, vi 1, vi 7, vi 5, vi 4, vi 1, vi 9, vi 5, vi 12, vq, vi 13, vi 2, vi 3, vq, vi 14, vi 6, vq, vi 2, vi 12, vi 3, vq, vq, vi 17, vq, vq, vq] 43)] from Zi0 a0 N _ h) [] n [0] rfl hnd hlt (show 0 ≤ 1 from by decide) (show ∀ j ∈ ([0] : List Nat), j < 1 from by decide) (by rfl) trivial (by rfl) ⟨rfl, trivial⟩ ⟨(by decide), trivial⟩ rfl rfl rfl rfl (Za (ZdH rfl (ZkT rfl)) rfl))

noncomputable def Zk3 (a0 : Int) (n : Nat) : ZB := .call [] (Value.tuple #[vn, vi 240]) [] 0
def Zhl (A : Array Value) (a0 : Int) (n : Nat) : Prop := Zk Tryz.prog 9 A [] (Value.tuple #[vn, vi 240]) [] n 0

theorem Zk4 (A : Array Value) (a0 : Int) (N : Nat) (h : Zbo a0 N = some (.r1)) (n : Nat) (hA : A = #[vi a0]) (hnd : ([] : List Nat).Nodup) (hlt : ∀ k ∈ ([] : List Nat), k < n) : Zhl A a0  n :=
 Zn hA (LSpec.callL (show LSpec Tryz.prog 9 #[vi a0] [] (Value.tuple #[vn, vi 240]) [] from Zi0 a0 N _ h) [] n [] rfl hnd hlt (show 0 ≤ 0 from by decide) (show ∀ j ∈ ([] : List Nat), j < 0 from by decide) (by rfl) trivial (by rfl) trivial trivial rfl rfl rfl rfl rfl)

noncomputable def Zok (a0 a1 a2 a3 a4 a5 a6 a7 a8 a9 : Int) : Zau → Value
 | .r0 => vf
 | .r1 => vT
noncomputable def Zm1 (a0 a1 a2 a3 a4 a5 a6 a7 a8 a9 : Int) : Zau → List (Option AObj)
 | .r0 => [some (.cells [vi 10, vq, vq, vq, vi 1, vi 1, vi a0, vq, vi 1, vi 6, vi a1, vq, vi 15, vq, vq, vq, vi 13, vi 3, vq, vi a2, vi 9, vi 3, vi 13, vq, vi 13, vi 4, vi 3, vi 1, vi 7, vi 5, vi 4, vi 1, vi 9, vi 5, vi 11, vq, vi 14, vi 3, vi 2, vi 6, vi 8, vi 19, vq, vq, vi 13, vi 3, vi 3, vq, vi 8, vi 5, vq, vq, vi 11, vi 2, vi 3, vi 1, vi 14, vi 2, vi 1, vi 1, vi 14, vi 2, vi 2, vi 6, vi 13, vi 3, vq, vi a3, vi 14, vi 2, vq, vi 3, vi 14, vq, vi a4, vi 2, vi 17, vq, vq, vq] 43), some (.cells [vi 10, vq, vq, vq, vi 1, vi 1, vi a5, vq, vi 1, vi 6, vi a6, vq, vi 15, vq, vq, vq, vi 13, vi 3, vq, vi a7, vi 9, vi 3, vi 13, vq, vi 13, vi 4, vi 3, vi 1, vi 7, vi 5, vi 4, vi 1, vi 9, vi 5, vi 11, vq, vi 14, vi 3, vi 2, vi 6, vi 8, vi 19, vq, vq, vi 13, vi 3, vi 3, vq, vi 8, vi 5, vq, vq, vi 11, vi 2, vi 3, vi 1, vi 14, vi 2, vi 1, vi 1, vi 14, vi 2, vi 2, vi 6, vi 13, vi 3, vq, vi a8, vi 14, vi 2, vq, vi 3, vi 14, vq, vi a9, vi 2, vi 17, vq, vq, vq] 43)]
 | .r1 => [some (.cells [vi 10, vq, vq, vq, vi 1, vi 1, vi a0, vq, vi 1, vi 6, vi a1, vq, vi 15, vq, vq, vq, vi 13, vi 3, vq, vi a2, vi 9, vi 3, vi 13, vq, vi 13, vi 4, vi 3, vi 1, vi 7, vi 5, vi 4, vi 1, vi 9, vi 5, vi 11, vq, vi 14, vi 3, vi 2, vi 6, vi 8, vi 19, vq, vq, vi 13, vi 3, vi 3, vq, vi 8, vi 5, vq, vq, vi 11, vi 2, vi 3, vi 1, vi 14, vi 2, vi 1, vi 1, vi 14, vi 2, vi 2, vi 6, vi 13, vi 3, vq, vi a3, vi 14, vi 2, vq, vi 3, vi 14, vq, vi a4, vi 2, vi 17, vq, vq, vq] 43), some (.cells [vi 10, vq, vq, vq, vi 1, vi 1, vi a5, vq, vi 1, vi 6, vi a6, vq, vi 15, vq, vq, vq, vi 13, vi 3, vq, vi a7, vi 9, vi 3, vi 13, vq, vi 13, vi 4, vi 3, vi 1, vi 7, vi 5, vi 4, vi 1, vi 9, vi 5, vi 11, vq, vi 14, vi 3, vi 2, vi 6, vi 8, vi 19, vq, vq, vi 13, vi 3, vi 3, vq, vi 8, vi 5, vq, vq, vi 11, vi 2, vi 3, vi 1, vi 14, vi 2, vi 1, vi 1, vi 14, vi 2, vi 2, vi 6, vi 13, vi 3, vq, vi a8, vi 14, vi 2, vq, vi 3, vi 14, vq, vi a9, vi 2, vi 17, vq, vq, vq] 43)]

theorem Zsm (a0 a1 a2 a3 a4 a5 a6 a7 a8 a9 : Int) (N : Nat) : Gx Tryz.prog 10 [.cells [vi 10, vq, vq, vq, vi 1, vi 1, vi a0, vq, vi 1, vi 6, vi a1, vq, vi 15, vq, vq, vq, vi 13, vi 3, vq, vi a2, vi 9, vi 3, vi 13, vq, vi 13, vi 4, vi 3, vi 1, vi 7, vi 5, vi 4, vi 1, vi 9, vi 5, vi 11, vq, vi 14, vi 3, vi 2, vi 6, vi 8, vi 19, vq, vq, vi 13, vi 3, vi 3, vq, vi 8, vi 5, vq, vq, vi 11, vi 2, vi 3, vi 1, vi 14, vi 2, vi 1, vi 1, vi 14, vi 2, vi 2, vi 6, vi 13, vi 3, vq, vi a3, vi 14, vi 2, vq, vi 3, vi 14, vq, vi a4, vi 2, vi 17, vq, vq, vq] 43, .cells [vi 10, vq, vq, vq, vi 1, vi 1, vi a5, vq, vi 1, vi 6, vi a6, vq, vi 15, vq, vq, vq, vi 13, vi 3, vq, vi a7, vi 9, vi 3, vi 13, vq, vi 13, vi 4, vi 3, vi 1, vi 7, vi 5, vi 4, vi 1, vi 9, vi 5, vi 11, vq, vi 14, vi 3, vi 2, vi 6, vi 8, vi 19, vq, vq, vi 13, vi 3, vi 3, vq, vi 8, vi 5, vq, vq, vi 11, vi 2, vi 3, vi 1, vi 14, vi 2, vi 1, vi 1, vi 14, vi 2, vi 2, vi 6, vi 13, vi 3, vq, vi a8, vi 14, vi 2, vq, vi 3, vi 14, vq, vi a9, vi 2, vi 17, vq, vq, vq] 43] #[vs 0 0 20 20, vs 1 0 20 20] (Zok a0 a1 a2 a3 a4 a5 a6 a7 a8 a9) (Zm1 a0 a1 a2 a3 a4 a5 a6 a7 a8 a9) (Zfg a0 a1 a2 a3 a4 a5 a6 a7 a8 a9 N) := by
 unfold Zfg
 refine ZR (fun g0 => ?_) (fun g0 => ?_)
 ·
  exact Zi Zj (r := (.r0 : Zau)) (fu := 4000) (orc := (Zl [(4, true)] [] [] [] [])) (live := [0, 1]) (u := vf) (bl := [some (.cells [vi 10, vq, vq, vq, vi 1, vi 1, vi a0, vq, vi 1, vi 6, vi a1, vq, vi 15, vq, vq, vq, vi 13, vi 3, vq, vi a2, vi 9, vi 3, vi 13, vq, vi 13, vi 4, vi 3, vi 1, vi 7, vi 5, vi 4, vi 1, vi 9, vi 5, vi 11, vq, vi 14, vi 3, vi 2, vi 6, vi 8, vi 19, vq, vq, vi 13, vi 3, vi 3, vq, vi 8, vi 5, vq, vq, vi 11, vi 2, vi 3, vi 1, vi 14, vi 2, vi 1, vi 1, vi 14, vi 2, vi 2, vi 6, vi 13, vi 3, vq, vi a3, vi 14, vi 2, vq, vi 3, vi 14, vq, vi a4, vi 2, vi 17, vq, vq, vq] 43), some (.cells [vi 10, vq, vq, vq, vi 1, vi 1, vi a5, vq, vi 1, vi 6, vi a6, vq, vi 15, vq, vq, vq, vi 13, vi 3, vq, vi a7, vi 9, vi 3, vi 13, vq, vi 13, vi 4, vi 3, vi 1, vi 7, vi 5, vi 4, vi 1, vi 9, vi 5, vi 11, vq, vi 14, vi 3, vi 2, vi 6, vi 8, vi 19, vq, vq, vi 13, vi 3, vi 3, vq, vi 8, vi 5, vq, vq, vi 11, vi 2, vi 3, vi 1, vi 14, vi 2, vi 1, vi 1, vi 14, vi 2, vi 2, vi 6, vi 13, vi 3, vq, vi a8, vi 14, vi 2, vq, vi 3, vi 14, vq, vi a9, vi 2, vi 17, vq, vq, vq] 43)]) (ob := [((!(((1 : Int) == (1 : Int)) && (((1 : Int) == (1 : Int)) && ((a0 == a5) && (((0 : Int) == (0 : Int)) && true))))), true)]) (by kernel_rfl) (Zb (by rw [Bool.not_eq_true']; exact Bool.eq_false_iff.2 (by simp only [ne_eq, Bool.and_true, Bool.and_eq_true, beq_iff_eq]; first | omega | (intro hh; simp_all; done) | (intro hh; grind))) Zf) rfl (by decide) (by rfl) rr ⟨⟨rfl, ⟨[], by rfl⟩, by rfl⟩, ⟨⟨rfl, ⟨[], by rfl⟩, by rfl⟩, trivial⟩⟩ (Zh _ rfl)
 ·
  refine ZR (fun g1 => ?_) (fun g1 => ?_)
  ·
   exact Zi Zj (r := (.r0 : Zau)) (fu := 4000) (orc := (Zl [(4, false), (6, true)] [] [] [] [])) (live := [0, 1]) (u := vf) (bl := [some (.cells [vi 10, vq, vq, vq, vi 1, vi 1, vi a0, vq, vi 1, vi 6, vi a1, vq, vi 15, vq, vq, vq, vi 13, vi 3, vq, vi a2, vi 9, vi 3, vi 13, vq, vi 13, vi 4, vi 3, vi 1, vi 7, vi 5, vi 4, vi 1, vi 9, vi 5, vi 11, vq, vi 14, vi 3, vi 2, vi 6, vi 8, vi 19, vq, vq, vi 13, vi 3, vi 3, vq, vi 8, vi 5, vq, vq, vi 11, vi 2, vi 3, vi 1, vi 14, vi 2, vi 1, vi 1, vi 14, vi 2, vi 2, vi 6, vi 13, vi 3, vq, vi a3, vi 14, vi 2, vq, vi 3, vi 14, vq, vi a4, vi 2, vi 17, vq, vq, vq] 43), some (.cells [vi 10, vq, vq, vq, vi 1, vi 1, vi a5, vq, vi 1, vi 6, vi a6, vq, vi 15, vq, vq, vq, vi 13, vi 3, vq, vi a7, vi 9, vi 3, vi 13, vq, vi 13, vi 4, vi 3, vi 1, vi 7, vi 5, vi 4, vi 1, vi 9, vi 5, vi 11, vq, vi 14, vi 3, vi 2, vi 6, vi 8, vi 19, vq, vq, vi 13, vi 3, vi 3, vq, vi 8, vi 5, vq, vq, vi 11, vi 2, vi 3, vi 1, vi 14, vi 2, vi 1, vi 1, vi 14, vi 2, vi 2, vi 6, vi 13, vi 3, vq, vi a8, vi 14, vi 2, vq, vi 3, vi 14, vq, vi a9, vi 2, vi 17, vq, vq, vq] 43)]) (ob := [((!(((1 : Int) == (1 : Int)) && (((6 : Int) == (6 : Int)) && ((a1 == a6) && (((0 : Int) == (0 : Int)) && true))))), true), ((!(((1 : Int) == (1 : Int)) && (((1 : Int) == (1 : Int)) && ((a0 == a5) && (((0 : Int) == (0 : Int)) && true))))), false)]) (by kernel_rfl) (Zb (by rw [Bool.not_eq_true']; exact Bool.eq_false_iff.2 (by simp only [ne_eq, Bool.and_true, Bool.and_eq_true, beq_iff_eq]; first | omega | (intro hh; simp_all; done) | (intro hh; grind))) <| Zb (by rw [Bool.not_eq_false']; first | (simp only [beq_self_eq_true, Bool.and_self]; done) | (simp only [Bool.and_true, Bool.and_eq_true, beq_iff_eq] <;> first | omega | (simp_all; done) | grind)) Zf) rfl (by decide) (by rfl) rr ⟨⟨rfl, ⟨[], by rfl⟩, by rfl⟩, ⟨⟨rfl, ⟨[], by rfl⟩, by rfl⟩, trivial⟩⟩ (Zh _ rfl)
  ·
   refine ZR (fun g2 => ?_) (fun g2 => ?_)
   ·
    exact Zi Zj (r := (.r0 : Zau)) (fu := 4000) (orc := (Zl [(4, false), (6, false), (10, true)] [] [] [] [])) (live := [0, 1]) (u := vf) (bl := [some (.cells [vi 10, vq, vq, vq, vi 1, vi 1, vi a0, vq, vi 1, vi 6, vi a1, vq, vi 15, vq, vq, vq, vi 13, vi 3, vq, vi a2, vi 9, vi 3, vi 13, vq, vi 13, vi 4, vi 3, vi 1, vi 7, vi 5, vi 4, vi 1, vi 9, vi 5, vi 11, vq, vi 14, vi 3, vi 2, vi 6, vi 8, vi 19, vq, vq, vi 13, vi 3, vi 3, vq, vi 8, vi 5, vq, vq, vi 11, vi 2, vi 3, vi 1, vi 14, vi 2, vi 1, vi 1, vi 14, vi 2, vi 2, vi 6, vi 13, vi 3, vq, vi a3, vi 14, vi 2, vq, vi 3, vi 14, vq, vi a4, vi 2, vi 17, vq, vq, vq] 43), some (.cells [vi 10, vq, vq, vq, vi 1, vi 1, vi a5, vq, vi 1, vi 6, vi a6, vq, vi 15, vq, vq, vq, vi 13, vi 3, vq, vi a7, vi 9, vi 3, vi 13, vq, vi 13, vi 4, vi 3, vi 1, vi 7, vi 5, vi 4, vi 1, vi 9, vi 5, vi 11, vq, vi 14, vi 3, vi 2, vi 6, vi 8, vi 19, vq, vq, vi 13, vi 3, vi 3, vq, vi 8, vi 5, vq, vq, vi 11, vi 2, vi 3, vi 1, vi 14, vi 2, vi 1, vi 1, vi 14, vi 2, vi 2, vi 6, vi 13, vi 3, vq, vi a8, vi 14, vi 2, vq, vi 3, vi 14, vq, vi a9, vi 2, vi 17, vq, vq, vq] 43)]) (ob := [((!(((13 : Int) == (13 : Int)) && (((3 : Int) == (3 : Int)) && (((0 : Int) == (0 : Int)) && ((a2 == a7) && true))))), true), ((!(((1 : Int) == (1 : Int)) && (((6 : Int) == (6 : Int)) && ((a1 == a6) && (((0 : Int) == (0 : Int)) && true))))), false), ((!(((1 : Int) == (1 : Int)) && (((1 : Int) == (1 : Int)) && ((a0 == a5) && (((0 : Int) == (0 : Int)) && true))))), false)]) (by kernel_rfl) (Zb (by rw [Bool.not_eq_true']; exact Bool.eq_false_iff.2 (by simp only [ne_eq, Bool.and_true, Bool.and_eq_true, beq_iff_eq]; first | omega | (intro hh; simp_all; done) | (intro hh; grind))) <| Zb (by rw [Bool.not_eq_false']; first | (simp only [beq_self_eq_true, Bool.and_self]; done) | (simp only [Bool.and_true, Bool.and_eq_true, beq_iff_eq] <;> first | omega | (simp_all; done) | grind)) <| Zb (by rw [Bool.not_eq_false']; first | (simp only [beq_self_eq_true, Bool.and_self]; done) | (simp only [Bool.and_true, Bool.and_eq_true, beq_iff_eq] <;> first | omega | (simp_all; done) | grind)) Zf) rfl (by decide) (by rfl) rr ⟨⟨rfl, ⟨[], by rfl⟩, by rfl⟩, ⟨⟨rfl, ⟨[], by rfl⟩, by rfl⟩, trivial⟩⟩ (Zh _ rfl)
   ·
    refine ZR (fun g3 => ?_) (fun g3 => ?_)
    ·
     exact Zi Zj (r := (.r0 : Zau)) (fu := 4000) (orc := (Zl [(4, false), (6, false), (10, false), (34, true)] [] [] [] [])) (live := [0, 1]) (u := vf) (bl := [some (.cells [vi 10, vq, vq, vq, vi 1, vi 1, vi a0, vq, vi 1, vi 6, vi a1, vq, vi 15, vq, vq, vq, vi 13, vi 3, vq, vi a2, vi 9, vi 3, vi 13, vq, vi 13, vi 4, vi 3, vi 1, vi 7, vi 5, vi 4, vi 1, vi 9, vi 5, vi 11, vq, vi 14, vi 3, vi 2, vi 6, vi 8, vi 19, vq, vq, vi 13, vi 3, vi 3, vq, vi 8, vi 5, vq, vq, vi 11, vi 2, vi 3, vi 1, vi 14, vi 2, vi 1, vi 1, vi 14, vi 2, vi 2, vi 6, vi 13, vi 3, vq, vi a3, vi 14, vi 2, vq, vi 3, vi 14, vq, vi a4, vi 2, vi 17, vq, vq, vq] 43), some (.cells [vi 10, vq, vq, vq, vi 1, vi 1, vi a5, vq, vi 1, vi 6, vi a6, vq, vi 15, vq, vq, vq, vi 13, vi 3, vq, vi a7, vi 9, vi 3, vi 13, vq, vi 13, vi 4, vi 3, vi 1, vi 7, vi 5, vi 4, vi 1, vi 9, vi 5, vi 11, vq, vi 14, vi 3, vi 2, vi 6, vi 8, vi 19, vq, vq, vi 13, vi 3, vi 3, vq, vi 8, vi 5, vq, vq, vi 11, vi 2, vi 3, vi 1, vi 14, vi 2, vi 1, vi 1, vi 14, vi 2, vi 2, vi 6, vi 13, vi 3, vq, vi a8, vi 14, vi 2, vq, vi 3, vi 14, vq, vi a9, vi 2, vi 17, vq, vq, vq] 43)]) (ob := [((!(((13 : Int) == (13 : Int)) && (((3 : Int) == (3 : Int)) && (((0 : Int) == (0 : Int)) && ((a3 == a8) && true))))), true), ((!(((13 : Int) == (13 : Int)) && (((3 : Int) == (3 : Int)) && (((0 : Int) == (0 : Int)) && ((a2 == a7) && true))))), false), ((!(((1 : Int) == (1 : Int)) && (((6 : Int) == (6 : Int)) && ((a1 == a6) && (((0 : Int) == (0 : Int)) && true))))), false), ((!(((1 : Int) == (1 : Int)) && (((1 : Int) == (1 : Int)) && ((a0 == a5) && (((0 : Int) == (0 : Int)) && true))))), false)]) (by kernel_rfl) (Zb (by rw [Bool.not_eq_true']; exact Bool.eq_false_iff.2 (by simp only [ne_eq, Bool.and_true, Bool.and_eq_true, beq_iff_eq]; first | omega | (intro hh; simp_all; done) | (intro hh; grind))) <| Zb (by rw [Bool.not_eq_false']; first | (simp only [beq_self_eq_true, Bool.and_self]; done) | (simp only [Bool.and_true, Bool.and_eq_true, beq_iff_eq] <;> first | omega | (simp_all; done) | grind)) <| Zb (by rw [Bool.not_eq_false']; first | (simp only [beq_self_eq_true, Bool.and_self]; done) | (simp only [Bool.and_true, Bool.and_eq_true, beq_iff_eq] <;> first | omega | (simp_all; done) | grind)) <| Zb (by rw [Bool.not_eq_false']; first | (simp only [beq_self_eq_true, Bool.and_self]; done) | (simp only [Bool.and_true, Bool.and_eq_true, beq_iff_eq] <;> first | omega | (simp_all; done) | grind)) Zf) rfl (by decide) (by rfl) rr ⟨⟨rfl, ⟨[], by rfl⟩, by rfl⟩, ⟨⟨rfl, ⟨[], by rfl⟩, by rfl⟩, trivial⟩⟩ (Zh _ rfl)
    ·
     refine ZR (fun g4 => ?_) (fun g4 => ?_)
     ·
      exact Zi Zj (r := (.r0 : Zau)) (fu := 4000) (orc := (Zl [(4, false), (6, false), (10, false), (34, false), (38, true)] [] [] [] [])) (live := [0, 1]) (u := vf) (bl := [some (.cells [vi 10, vq, vq, vq, vi 1, vi 1, vi a0, vq, vi 1, vi 6, vi a1, vq, vi 15, vq, vq, vq, vi 13, vi 3, vq, vi a2, vi 9, vi 3, vi 13, vq, vi 13, vi 4, vi 3, vi 1, vi 7, vi 5, vi 4, vi 1, vi 9, vi 5, vi 11, vq, vi 14, vi 3, vi 2, vi 6, vi 8, vi 19, vq, vq, vi 13, vi 3, vi 3, vq, vi 8, vi 5, vq, vq, vi 11, vi 2, vi 3, vi 1, vi 14, vi 2, vi 1, vi 1, vi 14, vi 2, vi 2, vi 6, vi 13, vi 3, vq, vi a3, vi 14, vi 2, vq, vi 3, vi 14, vq, vi a4, vi 2, vi 17, vq, vq, vq] 43), some (.cells [vi 10, vq, vq, vq, vi 1, vi 1, vi a5, vq, vi 1, vi 6, vi a6, vq, vi 15, vq, vq, vq, vi 13, vi 3, vq, vi a7, vi 9, vi 3, vi 13, vq, vi 13, vi 4, vi 3, vi 1, vi 7, vi 5, vi 4, vi 1, vi 9, vi 5, vi 11, vq, vi 14, vi 3, vi 2, vi 6, vi 8, vi 19, vq, vq, vi 13, vi 3, vi 3, vq, vi 8, vi 5, vq, vq, vi 11, vi 2, vi 3, vi 1, vi 14, vi 2, vi 1, vi 1, vi 14, vi 2, vi 2, vi 6, vi 13, vi 3, vq, vi a8, vi 14, vi 2, vq, vi 3, vi 14, vq, vi a9, vi 2, vi 17, vq, vq, vq] 43)]) (ob := [((!(((14 : Int) == (14 : Int)) && (((0 : Int) == (0 : Int)) && ((a4 == a9) && (((2 : Int) == (2 : Int)) && true))))), true), ((!(((13 : Int) == (13 : Int)) && (((3 : Int) == (3 : Int)) && (((0 : Int) == (0 : Int)) && ((a3 == a8) && true))))), false), ((!(((13 : Int) == (13 : Int)) && (((3 : Int) == (3 : Int)) && (((0 : Int) == (0 : Int)) && ((a2 == a7) && true))))), false), ((!(((1 : Int) == (1 : Int)) && (((6 : Int) == (6 : Int)) && ((a1 == a6) && (((0 : Int) == (0 : Int)) && true))))), false), ((!(((1 : Int) == (1 : Int)) && (((1 : Int) == (1 : Int)) && ((a0 == a5) && (((0 : Int) == (0 : Int)) && true))))), false)]) (by kernel_rfl) (Zb (by rw [Bool.not_eq_true']; exact Bool.eq_false_iff.2 (by simp only [ne_eq, Bool.and_true, Bool.and_eq_true, beq_iff_eq]; first | omega | (intro hh; simp_all; done) | (intro hh; grind))) <| Zb (by rw [Bool.not_eq_false']; first | (simp only [beq_self_eq_true, Bool.and_self]; done) | (simp only [Bool.and_true, Bool.and_eq_true, beq_iff_eq] <;> first | omega | (simp_all; done) | grind)) <| Zb (by rw [Bool.not_eq_false']; first | (simp only [beq_self_eq_true, Bool.and_self]; done) | (simp only [Bool.and_true, Bool.and_eq_true, beq_iff_eq] <;> first | omega | (simp_all; done) | grind)) <| Zb (by rw [Bool.not_eq_false']; first | (simp only [beq_self_eq_true, Bool.and_self]; done) | (simp only [Bool.and_true, Bool.and_eq_true, beq_iff_eq] <;> first | omega | (simp_all; done) | grind)) <| Zb (by rw [Bool.not_eq_false']; first | (simp only [beq_self_eq_true, Bool.and_self]; done) | (simp only [Bool.and_true, Bool.and_eq_true, beq_iff_eq] <;> first | omega | (simp_all; done) | grind)) Zf) rfl (by decide) (by rfl) rr ⟨⟨rfl, ⟨[], by rfl⟩, by rfl⟩, ⟨⟨rfl, ⟨[], by rfl⟩, by rfl⟩, trivial⟩⟩ (Zh _ rfl)
     ·
      exact Zi Zj (r := (.r1 : Zau)) (fu := 4000) (orc := (Zl [(4, false), (6, false), (10, false), (34, false), (38, false)] [] [] [] [])) (live := [0, 1]) (u := vT) (bl := [some (.cells [vi 10, vq, vq, vq, vi 1, vi 1, vi a0, vq, vi 1, vi 6, vi a1, vq, vi 15, vq, vq, vq, vi 13, vi 3, vq, vi a2, vi 9, vi 3, vi 13, vq, vi 13, vi 4, vi 3, vi 1, vi 7, vi 5, vi 4, vi 1, vi 9, vi 5, vi 11, vq, vi 14, vi 3, vi 2, vi 6, vi 8, vi 19, vq, vq, vi 13, vi 3, vi 3, vq, vi 8, vi 5, vq, vq, vi 11, vi 2, vi 3, vi 1, vi 14, vi 2, vi 1, vi 1, vi 14, vi 2, vi 2, vi 6, vi 13, vi 3, vq, vi a3, vi 14, vi 2, vq, vi 3, vi 14, vq, vi a4, vi 2, vi 17, vq, vq, vq] 43), some (.cells [vi 10, vq, vq, vq, vi 1, vi 1, vi a5, vq, vi 1, vi 6, vi a6, vq, vi 15, vq, vq, vq, vi 13, vi 3, vq, vi a7, vi 9, vi 3, vi 13, vq, vi 13, vi 4, vi 3, vi 1, vi 7, vi 5, vi 4, vi 1, vi 9, vi 5, vi 11, vq, vi 14, vi 3, vi 2, vi 6, vi 8, vi 19, vq, vq, vi 13, vi 3, vi 3, vq, vi 8, vi 5, vq, vq, vi 11, vi 2, vi 3, vi 1, vi 14, vi 2, vi 1, vi 1, vi 14, vi 2, vi 2, vi 6, vi 13, vi 3, vq, vi a8, vi 14, vi 2, vq, vi 3, vi 14, vq, vi a9, vi 2, vi 17, vq, vq, vq] 43)]) (ob := [((!(((14 : Int) == (14 : Int)) && (((0 : Int) == (0 : Int)) && ((a4 == a9) && (((2 : Int) == (2 : Int)) && true))))), false), ((!(((13 : Int) == (13 : Int)) && (((3 : Int) == (3 : Int)) && (((0 : Int) == (0 : Int)) && ((a3 == a8) && true))))), false), ((!(((13 : Int) == (13 : Int)) && (((3 : Int) == (3 : Int)) && (((0 : Int) == (0 : Int)) && ((a2 == a7) && true))))), false), ((!(((1 : Int) == (1 : Int)) && (((6 : Int) == (6 : Int)) && ((a1 == a6) && (((0 : Int) == (0 : Int)) && true))))), false), ((!(((1 : Int) == (1 : Int)) && (((1 : Int) == (1 : Int)) && ((a0 == a5) && (((0 : Int) == (0 : Int)) && true))))), false)]) (by kernel_rfl) (Zb (by rw [Bool.not_eq_false']; first | (simp only [beq_self_eq_true, Bool.and_self]; done) | (simp only [Bool.and_true, Bool.and_eq_true, beq_iff_eq] <;> first | omega | (simp_all; done) | grind)) <| Zb (by rw [Bool.not_eq_false']; first | (simp only [beq_self_eq_true, Bool.and_self]; done) | (simp only [Bool.and_true, Bool.and_eq_true, beq_iff_eq] <;> first | omega | (simp_all; done) | grind)) <| Zb (by rw [Bool.not_eq_false']; first | (simp only [beq_self_eq_true, Bool.and_self]; done) | (simp only [Bool.and_true, Bool.and_eq_true, beq_iff_eq] <;> first | omega | (simp_all; done) | grind)) <| Zb (by rw [Bool.not_eq_false']; first | (simp only [beq_self_eq_true, Bool.and_self]; done) | (simp only [Bool.and_true, Bool.and_eq_true, beq_iff_eq] <;> first | omega | (simp_all; done) | grind)) <| Zb (by rw [Bool.not_eq_false']; first | (simp only [beq_self_eq_true, Bool.and_self]; done) | (simp only [Bool.and_true, Bool.and_eq_true, beq_iff_eq] <;> first | omega | (simp_all; done) | grind)) Zf) rfl (by decide) (by rfl) rr ⟨⟨rfl, ⟨[], by rfl⟩, by rfl⟩, ⟨⟨rfl, ⟨[], by rfl⟩, by rfl⟩, trivial⟩⟩ (Zh _ rfl)

theorem ZqS (a0 a1 a2 a3 a4 a5 a6 a7 a8 a9 : Int) (N : Nat) (r : Zau) (h : Zfg a0 a1 a2 a3 a4 a5 a6 a7 a8 a9 N = some r) : LSpec Tryz.prog 10 #[vs 0 0 20 20, vs 1 0 20 20] [.cells [vi 10, vq, vq, vq, vi 1, vi 1, vi a0, vq, vi 1, vi 6, vi a1, vq, vi 15, vq, vq, vq, vi 13, vi 3, vq, vi a2, vi 9, vi 3, vi 13, vq, vi 13, vi 4, vi 3, vi 1, vi 7, vi 5, vi 4, vi 1, vi 9, vi 5, vi 11, vq, vi 14, vi 3, vi 2, vi 6, vi 8, vi 19, vq, vq, vi 13, vi 3, vi 3, vq, vi 8, vi 5, vq, vq, vi 11, vi 2, vi 3, vi 1, vi 14, vi 2, vi 1, vi 1, vi 14, vi 2, vi 2, vi 6, vi 13, vi 3, vq, vi a3, vi 14, vi 2, vq, vi 3, vi 14, vq, vi a4, vi 2, vi 17, vq, vq, vq] 43, .cells [vi 10, vq, vq, vq, vi 1, vi 1, vi a5, vq, vi 1, vi 6, vi a6, vq, vi 15, vq, vq, vq, vi 13, vi 3, vq, vi a7, vi 9, vi 3, vi 13, vq, vi 13, vi 4, vi 3, vi 1, vi 7, vi 5, vi 4, vi 1, vi 9, vi 5, vi 11, vq, vi 14, vi 3, vi 2, vi 6, vi 8, vi 19, vq, vq, vi 13, vi 3, vi 3, vq, vi 8, vi 5, vq, vq, vi 11, vi 2, vi 3, vi 1, vi 14, vi 2, vi 1, vi 1, vi 14, vi 2, vi 2, vi 6, vi 13, vi 3, vq, vi a8, vi 14, vi 2, vq, vi 3, vi 14, vq, vi a9, vi 2, vi 17, vq, vq, vq] 43] (Zok a0 a1 a2 a3 a4 a5 a6 a7 a8 a9 r) (Zm1 a0 a1 a2 a3 a4 a5 a6 a7 a8 a9 r) :=
 (Zsm a0 a1 a2 a3 a4 a5 a6 a7 a8 a9 N) r h

noncomputable def Zm2 (a0 a1 a2 a3 a4 a5 a6 a7 a8 a9 : Int) (k0 k1 n : Nat) : ZB := .call [(k0, .cells [vi 10, vq, vq, vq, vi 1, vi 1, vi a0, vq, vi 1, vi 6, vi a1, vq, vi 15, vq, vq, vq, vi 13, vi 3, vq, vi a2, vi 9, vi 3, vi 13, vq, vi 13, vi 4, vi 3, vi 1, vi 7, vi 5, vi 4, vi 1, vi 9, vi 5, vi 11, vq, vi 14, vi 3, vi 2, vi 6, vi 8, vi 19, vq, vq, vi 13, vi 3, vi 3, vq, vi 8, vi 5, vq, vq, vi 11, vi 2, vi 3, vi 1, vi 14, vi 2, vi 1, vi 1, vi 14, vi 2, vi 2, vi 6, vi 13, vi 3, vq, vi a3, vi 14, vi 2, vq, vi 3, vi 14, vq, vi a4, vi 2, vi 17, vq, vq, vq] 43), (k1, .cells [vi 10, vq, vq, vq, vi 1, vi 1, vi a5, vq, vi 1, vi 6, vi a6, vq, vi 15, vq, vq, vq, vi 13, vi 3, vq, vi a7, vi 9, vi 3, vi 13, vq, vi 13, vi 4, vi 3, vi 1, vi 7, vi 5, vi 4, vi 1, vi 9, vi 5, vi 11, vq, vi 14, vi 3, vi 2, vi 6, vi 8, vi 19, vq, vq, vi 13, vi 3, vi 3, vq, vi 8, vi 5, vq, vq, vi 11, vi 2, vi 3, vi 1, vi 14, vi 2, vi 1, vi 1, vi 14, vi 2, vi 2, vi 6, vi 13, vi 3, vq, vi a8, vi 14, vi 2, vq, vi 3, vi 14, vq, vi a9, vi 2, vi 17, vq, vq, vq] 43)] (vT) [] 0
def Zi1 (A : Array Value) (a0 a1 a2 a3 a4 a5 a6 a7 a8 a9 : Int) (k0 k1 n : Nat) : Prop := Zk Tryz.prog 10 A [(k0, .cells [vi 10, vq, vq, vq, vi 1, vi 1, vi a0, vq, vi 1, vi 6, vi a1, vq, vi 15, vq, vq, vq, vi 13, vi 3, vq, vi a2, vi 9, vi 3, vi 13, vq, vi 13, vi 4, vi 3, vi 1, vi 7, vi 5, vi 4, vi 1, vi 9, vi 5, vi 11, vq, vi 14, vi 3, vi 2, vi 6, vi 8, vi 19, vq, vq, vi 13, vi 3, vi 3, vq, vi 8, vi 5, vq, vq, vi 11, vi 2, vi 3, vi 1, vi 14, vi 2, vi 1, vi 1, vi 14, vi 2, vi 2, vi 6, vi 13, vi 3, vq, vi a3, vi 14, vi 2, vq, vi 3, vi 14, vq, vi a4, vi 2, vi 17, vq, vq, vq] 43), (k1, .cells [vi 10, vq, vq, vq, vi 1, vi 1, vi a5, vq, vi 1, vi 6, vi a6, vq, vi 15, vq, vq, vq, vi 13, vi 3, vq, vi a7, vi 9, vi 3, vi 13, vq, vi 13, vi 4, vi 3, vi 1, vi 7, vi 5, vi 4, vi 1, vi 9, vi 5, vi 11, vq, vi 14, vi 3, vi 2, vi 6, vi 8, vi 19, vq, vq, vi 13, vi 3, vi 3, vq, vi 8, vi 5, vq, vq, vi 11, vi 2, vi 3, vi 1, vi 14, vi 2, vi 1, vi 1, vi 14, vi 2, vi 2, vi 6, vi 13, vi 3, vq, vi a8, vi 14, vi 2, vq, vi 3, vi 14, vq, vi a9, vi 2, vi 17, vq, vq, vq] 43)] (vT) [] n 0

theorem Zm3 (A : Array Value) (a0 a1 a2 a3 a4 a5 a6 a7 a8 a9 : Int) (N : Nat) (h : Zfg a0 a1 a2 a3 a4 a5 a6 a7 a8 a9 N = some (.r1)) (k0 k1 n : Nat) (hA : A = #[vs k0 0 20 20, vs k1 0 20 20]) (hnd : ([k0, k1] : List Nat).Nodup) (hlt : ∀ k ∈ ([k0, k1] : List Nat), k < n) : Zi1 A a0 a1 a2 a3 a4 a5 a6 a7 a8 a9 k0 k1 n :=
 Zn hA (LSpec.callL (show LSpec Tryz.prog 10 #[vs 0 0 20 20, vs 1 0 20 20] [.cells [vi 10, vq, vq, vq, vi 1, vi 1, vi a0, vq, vi 1, vi 6, vi a1, vq, vi 15, vq, vq, vq, vi 13, vi 3, vq, vi a2, vi 9, vi 3, vi 13, vq, vi 13, vi 4, vi 3, vi 1, vi 7, vi 5, vi 4, vi 1, vi 9, vi 5, vi 11, vq, vi 14, vi 3, vi 2, vi 6, vi 8, vi 19, vq, vq, vi 13, vi 3, vi 3, vq, vi 8, vi 5, vq, vq, vi 11, vi 2, vi 3, vi 1, vi 14, vi 2, vi 1, vi 1, vi 14, vi 2, vi 2, vi 6, vi 13, vi 3, vq, vi a3, vi 14, vi 2, vq, vi 3, vi 14, vq, vi a4, vi 2, vi 17, vq, vq, vq] 43, .cells [vi 10, vq, vq, vq, vi 1, vi 1, vi a5, vq, vi 1, vi 6, vi a6, vq, vi 15, vq, vq, vq, vi 13, vi 3, vq, vi a7, vi 9, vi 3, vi 13, vq, vi 13, vi 4, vi 3, vi 1, vi 7, vi 5, vi 4, vi 1, vi 9, vi 5, vi 11, vq, vi 14, vi 3, vi 2, vi 6, vi 8, vi 19, vq, vq, vi 13, vi 3, vi 3, vq, vi 8, vi 5, vq, vq, vi 11, vi 2, vi 3, vi 1, vi 14, vi 2, vi 1, vi 1, vi 14, vi 2, vi 2, vi 6, vi 13, vi 3, vq, vi a8, vi 14, vi 2, vq, vi 3, vi 14, vq, vi a9, vi 2, vi 17, vq, vq, vq] 43] (vT) [some (.cells [vi 10, vq, vq, vq, vi 1, vi 1, vi a0, vq, vi 1, vi 6, vi a1, vq, vi 15, vq, vq, vq, vi 13, vi 3, vq, vi a2, vi 9, vi 3, vi 13, vq, vi 13, vi 4, vi 3, vi 1, vi 7, vi 5, vi 4, vi 1, vi 9, vi 5, vi 11, vq, vi 14, vi 3, vi 2, vi 6, vi 8, vi 19, vq, vq, vi 13, vi 3, vi 3, vq, vi 8, vi 5, vq, vq, vi 11, vi 2, vi 3, vi 1, vi 14, vi 2, vi 1, vi 1, vi 14, vi 2, vi 2, vi 6, vi 13, vi 3, vq, vi a3, vi 14, vi 2, vq, vi 3, vi 14, vq, vi a4, vi 2, vi 17, vq, vq, vq] 43), some (.cells [vi 10, vq, vq, vq, vi 1, vi 1, vi a5, vq, vi 1, vi 6, vi a6, vq, vi 15, vq, vq, vq, vi 13, vi 3, vq, vi a7, vi 9, vi 3, vi 13, vq, vi 13, vi 4, vi 3, vi 1, vi 7, vi 5, vi 4, vi 1, vi 9, vi 5, vi 11, vq, vi 14, vi 3, vi 2, vi 6, vi 8, vi 19, vq, vq, vi 13, vi 3, vi 3, vq, vi 8, vi 5, vq, vq, vi 11, vi 2, vi 3, vi 1, vi 14, vi 2, vi 1, vi 1, vi 14, vi 2, vi 2, vi 6, vi 13, vi 3, vq, vi a8, vi 14, vi 2, vq, vi 3, vi 14, vq, vi a9, vi 2, vi 17, vq, vq, vq] 43)] from ZqS a0 a1 a2 a3 a4 a5 a6 a7 a8 a9 N _ h) [k0, k1] n [] rfl hnd hlt (show 2 ≤ 2 from by decide) (show ∀ j ∈ ([] : List Nat), j < 2 from by decide) (by rfl) ⟨rfl, ⟨rfl, trivial⟩⟩ (by rfl) ⟨rfl, ⟨rfl, trivial⟩⟩ ⟨.inr rfl, ⟨.inr rfl, trivial⟩⟩ rfl rfl rfl (Za (ZdH rfl rfl) (Za (ZdH rfl rfl) rfl)) rfl)

noncomputable def Zls (a0 a1 a2 a3 : Int) : Zbu → Value
 | .r0 => vf
 | .r1 => vT
noncomputable def Zk5 (a0 a1 a2 a3 : Int) : Zbu → List (Option AObj)
 | .r0 => [some (.cells [vi 10, vq, vq, vq, vi 1, vi 1, vi a0, vq, vi 1, vi 7, vq, vq, vi 1, vi 6, vq, vq, vi 15, vq, vq, vq, vi 13, vi 3, vq, vi a1, vi 9, vi 3, vi 14, vq, vi 13, vi 4, vi 3, vi 1, vi 7, vi 7, vi 4, vi 1, vi 9, vi 7, vi 12, vq, vi 13, vi 6, vi 3, vi 2, vi 8, vi 14, vq, vq, vi 13, vi 3, vi 3, vq, vi 8, vi 6, vq, vq, vi 17, vq, vq, vq, vi 19, vi 7, vq, vq, vi 19, vi 6, vq, vq] 43), some (.cells [vi 10, vq, vq, vq, vi 1, vi 1, vi a2, vq, vi 1, vi 7, vq, vq, vi 1, vi 6, vq, vq, vi 15, vq, vq, vq, vi 13, vi 3, vq, vi a3, vi 9, vi 3, vi 14, vq, vi 13, vi 4, vi 3, vi 1, vi 7, vi 7, vi 4, vi 1, vi 9, vi 7, vi 12, vq, vi 13, vi 6, vi 3, vi 2, vi 8, vi 14, vq, vq, vi 13, vi 3, vi 3, vq, vi 8, vi 6, vq, vq, vi 17, vq, vq, vq, vi 19, vi 7, vq, vq, vi 19, vi 6, vq, vq] 43)]
 | .r1 => [some (.cells [vi 10, vq, vq, vq, vi 1, vi 1, vi a0, vq, vi 1, vi 7, vq, vq, vi 1, vi 6, vq, vq, vi 15, vq, vq, vq, vi 13, vi 3, vq, vi a1, vi 9, vi 3, vi 14, vq, vi 13, vi 4, vi 3, vi 1, vi 7, vi 7, vi 4, vi 1, vi 9, vi 7, vi 12, vq, vi 13, vi 6, vi 3, vi 2, vi 8, vi 14, vq, vq, vi 13, vi 3, vi 3, vq, vi 8, vi 6, vq, vq, vi 17, vq, vq, vq, vi 19, vi 7, vq, vq, vi 19, vi 6, vq, vq] 43), some (.cells [vi 10, vq, vq, vq, vi 1, vi 1, vi a2, vq, vi 1, vi 7, vq, vq, vi 1, vi 6, vq, vq, vi 15, vq, vq, vq, vi 13, vi 3, vq, vi a3, vi 9, vi 3, vi 14, vq, vi 13, vi 4, vi 3, vi 1, vi 7, vi 7, vi 4, vi 1, vi 9, vi 7, vi 12, vq, vi 13, vi 6, vi 3, vi 2, vi 8, vi 14, vq, vq, vi 13, vi 3, vi 3, vq, vi 8, vi 6, vq, vq, vi 17, vq, vq, vq, vi 19, vi 7, vq, vq, vi 19, vi 6, vq, vq] 43)]

theorem ZqT (a0 a1 a2 a3 : Int) (N : Nat) : Gx Tryz.prog 10 [.cells [vi 10, vq, vq, vq, vi 1, vi 1, vi a0, vq, vi 1, vi 7, vq, vq, vi 1, vi 6, vq, vq, vi 15, vq, vq, vq, vi 13, vi 3, vq, vi a1, vi 9, vi 3, vi 14, vq, vi 13, vi 4, vi 3, vi 1, vi 7, vi 7, vi 4, vi 1, vi 9, vi 7, vi 12, vq, vi 13, vi 6, vi 3, vi 2, vi 8, vi 14, vq, vq, vi 13, vi 3, vi 3, vq, vi 8, vi 6, vq, vq, vi 17, vq, vq, vq, vi 19, vi 7, vq, vq, vi 19, vi 6, vq, vq] 43, .cells [vi 10, vq, vq, vq, vi 1, vi 1, vi a2, vq, vi 1, vi 7, vq, vq, vi 1, vi 6, vq, vq, vi 15, vq, vq, vq, vi 13, vi 3, vq, vi a3, vi 9, vi 3, vi 14, vq, vi 13, vi 4, vi 3, vi 1, vi 7, vi 7, vi 4, vi 1, vi 9, vi 7, vi 12, vq, vi 13, vi 6, vi 3, vi 2, vi 8, vi 14, vq, vq, vi 13, vi 3, vi 3, vq, vi 8, vi 6, vq, vq, vi 17, vq, vq, vq, vi 19, vi 7, vq, vq, vi 19, vi 6, vq, vq] 43] #[vs 0 0 17 17, vs 1 0 17 17] (Zls a0 a1 a2 a3) (Zk5 a0 a1 a2 a3) (ZcN a0 a1 a2 a3 N) := by
 unfold ZcN
 refine ZR (fun g0 => ?_) (fun g0 => ?_)
 ·
  exact Zi Zj (r := (.r0 : Zbu)) (fu := 4000) (orc := (Zl [(4, true)] [] [] [] [])) (live := [0, 1]) (u := vf) (bl := [some (.cells [vi 10, vq, vq, vq, vi 1, vi 1, vi a0, vq, vi 1, vi 7, vq, vq, vi 1, vi 6, vq, vq, vi 15, vq, vq, vq, vi 13, vi 3, vq, vi a1, vi 9, vi 3, vi 14, vq, vi 13, vi 4, vi 3, vi 1, vi 7, vi 7, vi 4, vi 1, vi 9, vi 7, vi 12, vq, vi 13, vi 6, vi 3, vi 2, vi 8, vi 14, vq, vq, vi 13, vi 3, vi 3, vq, vi 8, vi 6, vq, vq, vi 17, vq, vq, vq, vi 19, vi 7, vq, vq, vi 19, vi 6, vq, vq] 43), some (.cells [vi 10, vq, vq, vq, vi 1, vi 1, vi a2, vq, vi 1, vi 7, vq, vq, vi 1, vi 6, vq, vq, vi 15, vq, vq, vq, vi 13, vi 3, vq, vi a3, vi 9, vi 3, vi 14, vq, vi 13, vi 4, vi 3, vi 1, vi 7, vi 7, vi 4, vi 1, vi 9, vi 7, vi 12, vq, vi 13, vi 6, vi 3, vi 2, vi 8, vi 14, vq, vq, vi 13, vi 3, vi 3, vq, vi 8, vi 6, vq, vq, vi 17, vq, vq, vq, vi 19, vi 7, vq, vq, vi 19, vi 6, vq, vq] 43)]) (ob := [((!(((1 : Int) == (1 : Int)) && (((1 : Int) == (1 : Int)) && ((a0 == a2) && (((0 : Int) == (0 : Int)) && true))))), true)]) (by kernel_rfl) (Zb (by rw [Bool.not_eq_true']; exact Bool.eq_false_iff.2 (by simp only [ne_eq, Bool.and_true, Bool.and_eq_true, beq_iff_eq]; first | omega | (intro hh; simp_all; done) | (intro hh; grind))) Zf) rfl (by decide) (by rfl) rr ⟨⟨rfl, ⟨[], by rfl⟩, by rfl⟩, ⟨⟨rfl, ⟨[], by rfl⟩, by rfl⟩, trivial⟩⟩ (Zh _ rfl)
 ·
  refine ZR (fun g1 => ?_) (fun g1 => ?_)
  ·
   exact Zi Zj (r := (.r0 : Zbu)) (fu := 4000) (orc := (Zl [(4, false), (12, true)] [] [] [] [])) (live := [0, 1]) (u := vf) (bl := [some (.cells [vi 10, vq, vq, vq, vi 1, vi 1, vi a0, vq, vi 1, vi 7, vq, vq, vi 1, vi 6, vq, vq, vi 15, vq, vq, vq, vi 13, vi 3, vq, vi a1, vi 9, vi 3, vi 14, vq, vi 13, vi 4, vi 3, vi 1, vi 7, vi 7, vi 4, vi 1, vi 9, vi 7, vi 12, vq, vi 13, vi 6, vi 3, vi 2, vi 8, vi 14, vq, vq, vi 13, vi 3, vi 3, vq, vi 8, vi 6, vq, vq, vi 17, vq, vq, vq, vi 19, vi 7, vq, vq, vi 19, vi 6, vq, vq] 43), some (.cells [vi 10, vq, vq, vq, vi 1, vi 1, vi a2, vq, vi 1, vi 7, vq, vq, vi 1, vi 6, vq, vq, vi 15, vq, vq, vq, vi 13, vi 3, vq, vi a3, vi 9, vi 3, vi 14, vq, vi 13, vi 4, vi 3, vi 1, vi 7, vi 7, vi 4, vi 1, vi 9, vi 7, vi 12, vq, vi 13, vi 6, vi 3, vi 2, vi 8, vi 14, vq, vq, vi 13, vi 3, vi 3, vq, vi 8, vi 6, vq, vq, vi 17, vq, vq, vq, vi 19, vi 7, vq, vq, vi 19, vi 6, vq, vq] 43)]) (ob := [((!(((13 : Int) == (13 : Int)) && (((3 : Int) == (3 : Int)) && (((0 : Int) == (0 : Int)) && ((a1 == a3) && true))))), true), ((!(((1 : Int) == (1 : Int)) && (((1 : Int) == (1 : Int)) && ((a0 == a2) && (((0 : Int) == (0 : Int)) && true))))), false)]) (by kernel_rfl) (Zb (by rw [Bool.not_eq_true']; exact Bool.eq_false_iff.2 (by simp only [ne_eq, Bool.and_true, Bool.and_eq_true, beq_iff_eq]; first | omega | (intro hh; simp_all; done) | (intro hh; grind))) <| Zb (by rw [Bool.not_eq_false']; first | (simp only [beq_self_eq_true, Bool.and_self]; done) | (simp only [Bool.and_true, Bool.and_eq_true, beq_iff_eq] <;> first | omega | (simp_all; done) | grind)) Zf) rfl (by decide) (by rfl) rr ⟨⟨rfl, ⟨[], by rfl⟩, by rfl⟩, ⟨⟨rfl, ⟨[], by rfl⟩, by rfl⟩, trivial⟩⟩ (Zh _ rfl)
  ·
   exact Zi Zj (r := (.r1 : Zbu)) (fu := 4000) (orc := (Zl [(4, false), (12, false)] [] [] [] [])) (live := [0, 1]) (u := vT) (bl := [some (.cells [vi 10, vq, vq, vq, vi 1, vi 1, vi a0, vq, vi 1, vi 7, vq, vq, vi 1, vi 6, vq, vq, vi 15, vq, vq, vq, vi 13, vi 3, vq, vi a1, vi 9, vi 3, vi 14, vq, vi 13, vi 4, vi 3, vi 1, vi 7, vi 7, vi 4, vi 1, vi 9, vi 7, vi 12, vq, vi 13, vi 6, vi 3, vi 2, vi 8, vi 14, vq, vq, vi 13, vi 3, vi 3, vq, vi 8, vi 6, vq, vq, vi 17, vq, vq, vq, vi 19, vi 7, vq, vq, vi 19, vi 6, vq, vq] 43), some (.cells [vi 10, vq, vq, vq, vi 1, vi 1, vi a2, vq, vi 1, vi 7, vq, vq, vi 1, vi 6, vq, vq, vi 15, vq, vq, vq, vi 13, vi 3, vq, vi a3, vi 9, vi 3, vi 14, vq, vi 13, vi 4, vi 3, vi 1, vi 7, vi 7, vi 4, vi 1, vi 9, vi 7, vi 12, vq, vi 13, vi 6, vi 3, vi 2, vi 8, vi 14, vq, vq, vi 13, vi 3, vi 3, vq, vi 8, vi 6, vq, vq, vi 17, vq, vq, vq, vi 19, vi 7, vq, vq, vi 19, vi 6, vq, vq] 43)]) (ob := [((!(((13 : Int) == (13 : Int)) && (((3 : Int) == (3 : Int)) && (((0 : Int) == (0 : Int)) && ((a1 == a3) && true))))), false), ((!(((1 : Int) == (1 : Int)) && (((1 : Int) == (1 : Int)) && ((a0 == a2) && (((0 : Int) == (0 : Int)) && true))))), false)]) (by kernel_rfl) (Zb (by rw [Bool.not_eq_false']; first | (simp only [beq_self_eq_true, Bool.and_self]; done) | (simp only [Bool.and_true, Bool.and_eq_true, beq_iff_eq] <;> first | omega | (simp_all; done) | grind)) <| Zb (by rw [Bool.not_eq_false']; first | (simp only [beq_self_eq_true, Bool.and_self]; done) | (simp only [Bool.and_true, Bool.and_eq_true, beq_iff_eq] <;> first | omega | (simp_all; done) | grind)) Zf) rfl (by decide) (by rfl) rr ⟨⟨rfl, ⟨[], by rfl⟩, by rfl⟩, ⟨⟨rfl, ⟨[], by rfl⟩, by rfl⟩, trivial⟩⟩ (Zh _ rfl)

theorem Zpj (a0 a1 a2 a3 : Int) (N : Nat) (r : Zbu) (h : ZcN a0 a1 a2 a3 N = some r) : LSpec Tryz.prog 10 #[vs 0 0 17 17, vs 1 0 17 17] [.cells [vi 10, vq, vq, vq, vi 1, vi 1, vi a0, vq, vi 1, vi 7, vq, vq, vi 1, vi 6, vq, vq, vi 15, vq, vq, vq, vi 13, vi 3, vq, vi a1, vi 9, vi 3, vi 14, vq, vi 13, vi 4, vi 3, vi 1, vi 7, vi 7, vi 4, vi 1, vi 9, vi 7, vi 12, vq, vi 13, vi 6, vi 3, vi 2, vi 8, vi 14, vq, vq, vi 13, vi 3, vi 3, vq, vi 8, vi 6, vq, vq, vi 17, vq, vq, vq, vi 19, vi 7, vq, vq, vi 19, vi 6, vq, vq] 43, .cells [vi 10, vq, vq, vq, vi 1, vi 1, vi a2, vq, vi 1, vi 7, vq, vq, vi 1, vi 6, vq, vq, vi 15, vq, vq, vq, vi 13, vi 3, vq, vi a3, vi 9, vi 3, vi 14, vq, vi 13, vi 4, vi 3, vi 1, vi 7, vi 7, vi 4, vi 1, vi 9, vi 7, vi 12, vq, vi 13, vi 6, vi 3, vi 2, vi 8, vi 14, vq, vq, vi 13, vi 3, vi 3, vq, vi 8, vi 6, vq, vq, vi 17, vq, vq, vq, vi 19, vi 7, vq, vq, vi 19, vi 6, vq, vq] 43] (Zls a0 a1 a2 a3 r) (Zk5 a0 a1 a2 a3 r) :=
 (ZqT a0 a1 a2 a3 N) r h

noncomputable def Zf2 (a0 a1 a2 a3 : Int) (k0 k1 n : Nat) : ZB := .call [(k0, .cells [vi 10, vq, vq, vq, vi 1, vi 1, vi a0, vq, vi 1, vi 7, vq, vq, vi 1, vi 6, vq, vq, vi 15, vq, vq, vq, vi 13, vi 3, vq, vi a1, vi 9, vi 3, vi 14, vq, vi 13, vi 4, vi 3, vi 1, vi 7, vi 7, vi 4, vi 1, vi 9, vi 7, vi 12, vq, vi 13, vi 6, vi 3, vi 2, vi 8, vi 14, vq, vq, vi 13, vi 3, vi 3, vq, vi 8, vi 6, vq, vq, vi 17, vq, vq, vq, vi 19, vi 7, vq, vq, vi 19, vi 6, vq, vq] 43), (k1, .cells [vi 10, vq, vq, vq, vi 1, vi 1, vi a2, vq, vi 1, vi 7, vq, vq, vi 1, vi 6, vq, vq, vi 15, vq, vq, vq, vi 13, vi 3, vq, vi a3, vi 9, vi 3, vi 14, vq, vi 13, vi 4, vi 3, vi 1, vi 7, vi 7, vi 4, vi 1, vi 9, vi 7, vi 12, vq, vi 13, vi 6, vi 3, vi 2, vi 8, vi 14, vq, vq, vi 13, vi 3, vi 3, vq, vi 8, vi 6, vq, vq, vi 17, vq, vq, vq, vi 19, vi 7, vq, vq, vi 19, vi 6, vq, vq] 43)] (vT) [] 0
def Ze3 (A : Array Value) (a0 a1 a2 a3 : Int) (k0 k1 n : Nat) : Prop := Zk Tryz.prog 10 A [(k0, .cells [vi 10, vq, vq, vq, vi 1, vi 1, vi a0, vq, vi 1, vi 7, vq, vq, vi 1, vi 6, vq, vq, vi 15, vq, vq, vq, vi 13, vi 3, vq, vi a1, vi 9, vi 3, vi 14, vq, vi 13, vi 4, vi 3, vi 1, vi 7, vi 7, vi 4, vi 1, vi 9, vi 7, vi 12, vq, vi 13, vi 6, vi 3, vi 2, vi 8, vi 14, vq, vq, vi 13, vi 3, vi 3, vq, vi 8, vi 6, vq, vq, vi 17, vq, vq, vq, vi 19, vi 7, vq, vq, vi 19, vi 6, vq, vq] 43), (k1, .cells [vi 10, vq, vq, vq, vi 1, vi 1, vi a2, vq, vi 1, vi 7, vq, vq, vi 1, vi 6, vq, vq, vi 15, vq, vq, vq, vi 13, vi 3, vq, vi a3, vi 9, vi 3, vi 14, vq, vi 13, vi 4, vi 3, vi 1, vi 7, vi 7, vi 4, vi 1, vi 9, vi 7, vi 12, vq, vi 13, vi 6, vi 3, vi 2, vi 8, vi 14, vq, vq, vi 13, vi 3, vi 3, vq, vi 8, vi 6, vq, vq, vi 17, vq, vq, vq, vi 19, vi 7, vq, vq, vi 19, vi 6, vq, vq] 43)] (vT) [] n 0

theorem Zf3 (A : Array Value) (a0 a1 a2 a3 : Int) (N : Nat) (h : ZcN a0 a1 a2 a3 N = some (.r1)) (k0 k1 n : Nat) (hA : A = #[vs k0 0 17 17, vs k1 0 17 17]) (hnd : ([k0, k1] : List Nat).Nodup) (hlt : ∀ k ∈ ([k0, k1] : List Nat), k < n) : Ze3 A a0 a1 a2 a3 k0 k1 n :=
 Zn hA (LSpec.callL (show LSpec Tryz.prog 10 #[vs 0 0 17 17, vs 1 0 17 17] [.cells [vi 10, vq, vq, vq, vi 1, vi 1, vi a0, vq, vi 1, vi 7, vq, vq, vi 1, vi 6, vq, vq, vi 15, vq, vq, vq, vi 13, vi 3, vq, vi a1, vi 9, vi 3, vi 14, vq, vi 13, vi 4, vi 3, vi 1, vi 7, vi 7, vi 4, vi 1, vi 9, vi 7, vi 12, vq, vi 13, vi 6, vi 3, vi 2, vi 8, vi 14, vq, vq, vi 13, vi 3, vi 3, vq, vi 8, vi 6, vq, vq, vi 17, vq, vq, vq, vi 19, vi 7, vq, vq, vi 19, vi 6, vq, vq] 43, .cells [vi 10, vq, vq, vq, vi 1, vi 1, vi a2, vq, vi 1, vi 7, vq, vq, vi 1, vi 6, vq, vq, vi 15, vq, vq, vq, vi 13, vi 3, vq, vi a3, vi 9, vi 3, vi 14, vq, vi 13, vi 4, vi 3, vi 1, vi 7, vi 7, vi 4, vi 1, vi 9, vi 7, vi 12, vq, vi 13, vi 6, vi 3, vi 2, vi 8, vi 14, vq, vq, vi 13, vi 3, vi 3, vq, vi 8, vi 6, vq, vq, vi 17, vq, vq, vq, vi 19, vi 7, vq, vq, vi 19, vi 6, vq, vq] 43] (vT) [some (.cells [vi 10, vq, vq, vq, vi 1, vi 1, vi a0, vq, vi 1, vi 7, vq, vq, vi 1, vi 6, vq, vq, vi 15, vq, vq, vq, vi 13, vi 3, vq, vi a1, vi 9, vi 3, vi 14, vq, vi 13, vi 4, vi 3, vi 1, vi 7, vi 7, vi 4, vi 1, vi 9, vi 7, vi 12, vq, vi 13, vi 6, vi 3, vi 2, vi 8, vi 14, vq, vq, vi 13, vi 3, vi 3, vq, vi 8, vi 6, vq, vq, vi 17, vq, vq, vq, vi 19, vi 7, vq, vq, vi 19, vi 6, vq, vq] 43), some (.cells [vi 10, vq, vq, vq, vi 1, vi 1, vi a2, vq, vi 1, vi 7, vq, vq, vi 1, vi 6, vq, vq, vi 15, vq, vq, vq, vi 13, vi 3, vq, vi a3, vi 9, vi 3, vi 14, vq, vi 13, vi 4, vi 3, vi 1, vi 7, vi 7, vi 4, vi 1, vi 9, vi 7, vi 12, vq, vi 13, vi 6, vi 3, vi 2, vi 8, vi 14, vq, vq, vi 13, vi 3, vi 3, vq, vi 8, vi 6, vq, vq, vi 17, vq, vq, vq, vi 19, vi 7, vq, vq, vi 19, vi 6, vq, vq] 43)] from Zpj a0 a1 a2 a3 N _ h) [k0, k1] n [] rfl hnd hlt (show 2 ≤ 2 from by decide) (show ∀ j ∈ ([] : List Nat), j < 2 from by decide) (by rfl) ⟨rfl, ⟨rfl, trivial⟩⟩ (by rfl) ⟨rfl, ⟨rfl, trivial⟩⟩ ⟨.inr rfl, ⟨.inr rfl, trivial⟩⟩ rfl rfl rfl (Za (ZdH rfl rfl) (Za (ZdH rfl rfl) rfl)) rfl)

noncomputable def Zlt (a0 a1 a2 a3 a4 a5 : Int) : ZaR → Value
 | .r0 => vf
 | .r1 => vT
noncomputable def Zk6 (a0 a1 a2 a3 a4 a5 : Int) : ZaR → List (Option AObj)
 | .r0 => [some (.cells [vi 10, vq, vq, vq, vi 1, vi 1, vi a0, vq, vi 15, vq, vq, vq, vi 13, vi 3, vq, vi a1, vi 9, vi 3, vi 21, vq, vi 13, vi 4, vi 3, vi 1, vi 7, vi 5, vi 4, vi 1, vi 9, vi 5, vi 12, vq, vi 13, vi 2, vi 3, vq, vi 14, vq, vi a2, vi 2, vi 12, vi 3, vq, vq, vi 8, vi 21, vq, vq, vi 3, vi 6, vi 3, vq, vi 13, vi 3, vi 6, vq, vi 9, vi 3, vi 21, vq, vi 13, vi 4, vi 3, vi 1, vi 7, vi 5, vi 4, vi 1, vi 9, vi 5, vi 12, vq, vi 13, vi 2, vi 3, vq, vi 14, vi 6, vq, vi 2, vi 12, vi 3, vq, vq, vi 17, vq, vq, vq] 43), some (.cells [vi 10, vq, vq, vq, vi 1, vi 1, vi a3, vq, vi 15, vq, vq, vq, vi 13, vi 3, vq, vi a4, vi 9, vi 3, vi 21, vq, vi 13, vi 4, vi 3, vi 1, vi 7, vi 5, vi 4, vi 1, vi 9, vi 5, vi 12, vq, vi 13, vi 2, vi 3, vq, vi 14, vq, vi a5, vi 2, vi 12, vi 3, vq, vq, vi 8, vi 21, vq, vq, vi 3, vi 6, vi 3, vq, vi 13, vi 3, vi 6, vq, vi 9, vi 3, vi 21, vq, vi 13, vi 4, vi 3, vi 1, vi 7, vi 5, vi 4, vi 1, vi 9, vi 5, vi 12, vq, vi 13, vi 2, vi 3, vq, vi 14, vi 6, vq, vi 2, vi 12, vi 3, vq, vq, vi 17, vq, vq, vq] 43)]
 | .r1 => [some (.cells [vi 10, vq, vq, vq, vi 1, vi 1, vi a0, vq, vi 15, vq, vq, vq, vi 13, vi 3, vq, vi a1, vi 9, vi 3, vi 21, vq, vi 13, vi 4, vi 3, vi 1, vi 7, vi 5, vi 4, vi 1, vi 9, vi 5, vi 12, vq, vi 13, vi 2, vi 3, vq, vi 14, vq, vi a2, vi 2, vi 12, vi 3, vq, vq, vi 8, vi 21, vq, vq, vi 3, vi 6, vi 3, vq, vi 13, vi 3, vi 6, vq, vi 9, vi 3, vi 21, vq, vi 13, vi 4, vi 3, vi 1, vi 7, vi 5, vi 4, vi 1, vi 9, vi 5, vi 12, vq, vi 13, vi 2, vi 3, vq, vi 14, vi 6, vq, vi 2, vi 12, vi 3, vq, vq, vi 17, vq, vq, vq] 43), some (.cells [vi 10, vq, vq, vq, vi 1, vi 1, vi a3, vq, vi 15, vq, vq, vq, vi 13, vi 3, vq, vi a4, vi 9, vi 3, vi 21, vq, vi 13, vi 4, vi 3, vi 1, vi 7, vi 5, vi 4, vi 1, vi 9, vi 5, vi 12, vq, vi 13, vi 2, vi 3, vq, vi 14, vq, vi a5, vi 2, vi 12, vi 3, vq, vq, vi 8, vi 21, vq, vq, vi 3, vi 6, vi 3, vq, vi 13, vi 3, vi 6, vq, vi 9, vi 3, vi 21, vq, vi 13, vi 4, vi 3, vi 1, vi 7, vi 5, vi 4, vi 1, vi 9, vi 5, vi 12, vq, vi 13, vi 2, vi 3, vq, vi 14, vi 6, vq, vi 2, vi 12, vi 3, vq, vq, vi 17, vq, vq, vq] 43)]

theorem ZqU (a0 a1 a2 a3 a4 a5 : Int) (N : Nat) : Gx Tryz.prog 10 [.cells [vi 10, vq, vq, vq, vi 1, vi 1, vi a0, vq, vi 15, vq, vq, vq, vi 13, vi 3, vq, vi a1, vi 9, vi 3, vi 21, vq, vi 13, vi 4, vi 3, vi 1, vi 7, vi 5, vi 4, vi 1, vi 9, vi 5, vi 12, vq, vi 13, vi 2, vi 3, vq, vi 14, vq, vi a2, vi 2, vi 12, vi 3, vq, vq, vi 8, vi 21, vq, vq, vi 3, vi 6, vi 3, vq, vi 13, vi 3, vi 6, vq, vi 9, vi 3, vi 21, vq, vi 13, vi 4, vi 3, vi 1, vi 7, vi 5, vi 4, vi 1, vi 9, vi 5, vi 12, vq, vi 13, vi 2, vi 3, vq, vi 14, vi 6, vq, vi 2, vi 12, vi 3, vq, vq, vi 17, vq, vq, vq] 43, .cells [vi 10, vq, vq, vq, vi 1, vi 1, vi a3, vq, vi 15, vq, vq, vq, vi 13, vi 3, vq, vi a4, vi 9, vi 3, vi 21, vq, vi 13, vi 4, vi 3, vi 1, vi 7, vi 5, vi 4, vi 1, vi 9, vi 5, vi 12, vq, vi 13, vi 2, vi 3, vq, vi 14, vq, vi a5, vi 2, vi 12, vi 3, vq, vq, vi 8, vi 21, vq, vq, vi 3, vi 6, vi 3, vq, vi 13, vi 3, vi 6, vq, vi 9, vi 3, vi 21, vq, vi 13, vi 4, vi 3, vi 1, vi 7, vi 5, vi 4, vi 1, vi 9, vi 5, vi 12, vq, vi 13, vi 2, vi 3, vq, vi 14, vi 6, vq, vi 2, vi 12, vi 3, vq, vq, vi 17, vq, vq, vq] 43] #[vs 0 0 22 22, vs 1 0 22 22] (Zlt a0 a1 a2 a3 a4 a5) (Zk6 a0 a1 a2 a3 a4 a5) (ZcO a0 a1 a2 a3 a4 a5 N) := by
 unfold ZcO
 refine ZR (fun g0 => ?_) (fun g0 => ?_)
 ·
  exact Zi Zj (r := (.r0 : ZaR)) (fu := 4000) (orc := (Zl [(4, true)] [] [] [] [])) (live := [0, 1]) (u := vf) (bl := [some (.cells [vi 10, vq, vq, vq, vi 1, vi 1, vi a0, vq, vi 15, vq, vq, vq, vi 13, vi 3, vq, vi a1, vi 9, vi 3, vi 21, vq, vi 13, vi 4, vi 3, vi 1, vi 7, vi 5, vi 4, vi 1, vi 9, vi 5, vi 12, vq, vi 13, vi 2, vi 3, vq, vi 14, vq, vi a2, vi 2, vi 12, vi 3, vq, vq, vi 8, vi 21, vq, vq, vi 3, vi 6, vi 3, vq, vi 13, vi 3, vi 6, vq, vi 9, vi 3, vi 21, vq, vi 13, vi 4, vi 3, vi 1, vi 7, vi 5, vi 4, vi 1, vi 9, vi 5, vi 12, vq, vi 13, vi 2, vi 3, vq, vi 14, vi 6, vq, vi 2, vi 12, vi 3, vq, vq, vi 17, vq, vq, vq] 43), some (.cells [vi 10, vq, vq, vq, vi 1, vi 1, vi a3, vq, vi 15, vq, vq, vq, vi 13, vi 3, vq, vi a4, vi 9, vi 3, vi 21, vq, vi 13, vi 4, vi 3, vi 1, vi 7, vi 5, vi 4, vi 1, vi 9, vi 5, vi 12, vq, vi 13, vi 2, vi 3, vq, vi 14, vq, vi a5, vi 2, vi 12, vi 3, vq, vq, vi 8, vi 21, vq, vq, vi 3, vi 6, vi 3, vq, vi 13, vi 3, vi 6, vq, vi 9, vi 3, vi 21, vq, vi 13, vi 4, vi 3, vi 1, vi 7, vi 5, vi 4, vi 1, vi 9, vi 5, vi 12, vq, vi 13, vi 2, vi 3, vq, vi 14, vi 6, vq, vi 2, vi 12, vi 3, vq, vq, vi 17, vq, vq, vq] 43)]) (ob := [((!(((1 : Int) == (1 : Int)) && (((1 : Int) == (1 : Int)) && ((a0 == a3) && (((0 : Int) == (0 : Int)) && true))))), true)]) (by kernel_rfl) (Zb (by rw [Bool.not_eq_true']; exact Bool.eq_false_iff.2 (by simp only [ne_eq, Bool.and_true, Bool.and_eq_true, beq_iff_eq]; first | omega | (intro hh; simp_all; done) | (intro hh; grind))) Zf) rfl (by decide) (by rfl) rr ⟨⟨rfl, ⟨[], by rfl⟩, by rfl⟩, ⟨⟨rfl, ⟨[], by rfl⟩, by rfl⟩, trivial⟩⟩ (Zh _ rfl)
 ·
  refine ZR (fun g1 => ?_) (fun g1 => ?_)
  ·
   exact Zi Zj (r := (.r0 : ZaR)) (fu := 4000) (orc := (Zl [(4, false), (8, true)] [] [] [] [])) (live := [0, 1]) (u := vf) (bl := [some (.cells [vi 10, vq, vq, vq, vi 1, vi 1, vi a0, vq, vi 15, vq, vq, vq, vi 13, vi 3, vq, vi a1, vi 9, vi 3, vi 21, vq, vi 13, vi 4, vi 3, vi 1, vi 7, vi 5, vi 4, vi 1, vi 9, vi 5, vi 12, vq, vi 13, vi 2, vi 3, vq, vi 14, vq, vi a2, vi 2, vi 12, vi 3, vq, vq, vi 8, vi 21, vq, vq, vi 3, vi 6, vi 3, vq, vi 13, vi 3, vi 6, vq, vi 9, vi 3, vi 21, vq, vi 13, vi 4, vi 3, vi 1, vi 7, vi 5, vi 4, vi 1, vi 9, vi 5, vi 12, vq, vi 13, vi 2, vi 3, vq, vi 14, vi 6, vq, vi 2, vi 12, vi 3, vq, vq, vi 17, vq, vq, vq] 43), some (.cells [vi 10, vq, vq, vq, vi 1, vi 1, vi a3, vq, vi 15, vq, vq, vq, vi 13, vi 3, vq, vi a4, vi 9, vi 3, vi 21, vq, vi 13, vi 4, vi 3, vi 1, vi 7, vi 5, vi 4, vi 1, vi 9, vi 5, vi 12, vq, vi 13, vi 2, vi 3, vq, vi 14, vq, vi a5, vi 2, vi 12, vi 3, vq, vq, vi 8, vi 21, vq, vq, vi 3, vi 6, vi 3, vq, vi 13, vi 3, vi 6, vq, vi 9, vi 3, vi 21, vq, vi 13, vi 4, vi 3, vi 1, vi 7, vi 5, vi 4, vi 1, vi 9, vi 5, vi 12, vq, vi 13, vi 2, vi 3, vq, vi 14, vi 6, vq, vi 2, vi 12, vi 3, vq, vq, vi 17, vq, vq, vq] 43)]) (ob := [((!(((13 : Int) == (13 : Int)) && (((3 : Int) == (3 : Int)) && (((0 : Int) == (0 : Int)) && ((a1 == a4) && true))))), true), ((!(((1 : Int) == (1 : Int)) && (((1 : Int) == (1 : Int)) && ((a0 == a3) && (((0 : Int) == (0 : Int)) && true))))), false)]) (by kernel_rfl) (Zb (by rw [Bool.not_eq_true']; exact Bool.eq_false_iff.2 (by simp only [ne_eq, Bool.and_true, Bool.and_eq_true, beq_iff_eq]; first | omega | (intro hh; simp_all; done) | (intro hh; grind))) <| Zb (by rw [Bool.not_eq_false']; first | (simp only [beq_self_eq_true, Bool.and_self]; done) | (simp only [Bool.and_true, Bool.and_eq_true, beq_iff_eq] <;> first | omega | (simp_all; done) | grind)) Zf) rfl (by decide) (by rfl) rr ⟨⟨rfl, ⟨[], by rfl⟩, by rfl⟩, ⟨⟨rfl, ⟨[], by rfl⟩, by rfl⟩, trivial⟩⟩ (Zh _ rfl)
  ·
   refine ZR (fun g2 => ?_) (fun g2 => ?_)
   ·
    exact Zi Zj (r := (.r0 : ZaR)) (fu := 4000) (orc := (Zl [(4, false), (8, false), (20, true)] [] [] [] [])) (live := [0, 1]) (u := vf) (bl := [some (.cells [vi 10, vq, vq, vq, vi 1, vi 1, vi a0, vq, vi 15, vq, vq, vq, vi 13, vi 3, vq, vi a1, vi 9, vi 3, vi 21, vq, vi 13, vi 4, vi 3, vi 1, vi 7, vi 5, vi 4, vi 1, vi 9, vi 5, vi 12, vq, vi 13, vi 2, vi 3, vq, vi 14, vq, vi a2, vi 2, vi 12, vi 3, vq, vq, vi 8, vi 21, vq, vq, vi 3, vi 6, vi 3, vq, vi 13, vi 3, vi 6, vq, vi 9, vi 3, vi 21, vq, vi 13, vi 4, vi 3, vi 1, vi 7, vi 5, vi 4, vi 1, vi 9, vi 5, vi 12, vq, vi 13, vi 2, vi 3, vq, vi 14, vi 6, vq, vi 2, vi 12, vi 3, vq, vq, vi 17, vq, vq, vq] 43), some (.cells [vi 10, vq, vq, vq, vi 1, vi 1, vi a3, vq, vi 15, vq, vq, vq, vi 13, vi 3, vq, vi a4, vi 9, vi 3, vi 21, vq, vi 13, vi 4, vi 3, vi 1, vi 7, vi 5, vi 4, vi 1, vi 9, vi 5, vi 12, vq, vi 13, vi 2, vi 3, vq, vi 14, vq, vi a5, vi 2, vi 12, vi 3, vq, vq, vi 8, vi 21, vq, vq, vi 3, vi 6, vi 3, vq, vi 13, vi 3, vi 6, vq, vi 9, vi 3, vi 21, vq, vi 13, vi 4, vi 3, vi 1, vi 7, vi 5, vi 4, vi 1, vi 9, vi 5, vi 12, vq, vi 13, vi 2, vi 3, vq, vi 14, vi 6, vq, vi 2, vi 12, vi 3, vq, vq, vi 17, vq, vq, vq] 43)]) (ob := [((!(((14 : Int) == (14 : Int)) && (((0 : Int) == (0 : Int)) && ((a2 == a5) && (((2 : Int) == (2 : Int)) && true))))), true), ((!(((13 : Int) == (13 : Int)) && (((3 : Int) == (3 : Int)) && (((0 : Int) == (0 : Int)) && ((a1 == a4) && true))))), false), ((!(((1 : Int) == (1 : Int)) && (((1 : Int) == (1 : Int)) && ((a0 == a3) && (((0 : Int) == (0 : Int)) && true))))), false)]) (by kernel_rfl) (Zb (by rw [Bool.not_eq_true']; exact Bool.eq_false_iff.2 (by simp only [ne_eq, Bool.and_true, Bool.and_eq_true, beq_iff_eq]; first | omega | (intro hh; simp_all; done) | (intro hh; grind))) <| Zb (by rw [Bool.not_eq_false']; first | (simp only [beq_self_eq_true, Bool.and_self]; done) | (simp only [Bool.and_true, Bool.and_eq_true, beq_iff_eq] <;> first | omega | (simp_all; done) | grind)) <| Zb (by rw [Bool.not_eq_false']; first | (simp only [beq_self_eq_true, Bool.and_self]; done) | (simp only [Bool.and_true, Bool.and_eq_true, beq_iff_eq] <;> first | omega | (simp_all; done) | grind)) Zf) rfl (by decide) (by rfl) rr ⟨⟨rfl, ⟨[], by rfl⟩, by rfl⟩, ⟨⟨rfl, ⟨[], by rfl⟩, by rfl⟩, trivial⟩⟩ (Zh _ rfl)
   ·
    exact Zi Zj (r := (.r1 : ZaR)) (fu := 4000) (orc := (Zl [(4, false), (8, false), (20, false)] [] [] [] [])) (live := [0, 1]) (u := vT) (bl := [some (.cells [vi 10, vq, vq, vq, vi 1, vi 1, vi a0, vq, vi 15, vq, vq, vq, vi 13, vi 3, vq, vi a1, vi 9, vi 3, vi 21, vq, vi 13, vi 4, vi 3, vi 1, vi 7, vi 5, vi 4, vi 1, vi 9, vi 5, vi 12, vq, vi 13, vi 2, vi 3, vq, vi 14, vq, vi a2, vi 2, vi 12, vi 3, vq, vq, vi 8, vi 21, vq, vq, vi 3, vi 6, vi 3, vq, vi 13, vi 3, vi 6, vq, vi 9, vi 3, vi 21, vq, vi 13, vi 4, vi 3, vi 1, vi 7, vi 5, vi 4, vi 1, vi 9, vi 5, vi 12, vq, vi 13, vi 2, vi 3, vq, vi 14, vi 6, vq, vi 2, vi 12, vi 3, vq, vq, vi 17, vq, vq, vq] 43), some (.cells [vi 10, vq, vq, vq, vi 1, vi 1, vi a3, vq, vi 15, vq, vq, vq, vi 13, vi 3, vq, vi a4, vi 9, vi 3, vi 21, vq, vi 13, vi 4, vi 3, vi 1, vi 7, vi 5, vi 4, vi 1, vi 9, vi 5, vi 12, vq, vi 13, vi 2, vi 3, vq, vi 14, vq, vi a5, vi 2, vi 12, vi 3, vq, vq, vi 8, vi 21, vq, vq, vi 3, vi 6, vi 3, vq, vi 13, vi 3, vi 6, vq, vi 9, vi 3, vi 21, vq, vi 13, vi 4, vi 3, vi 1, vi 7, vi 5, vi 4, vi 1, vi 9, vi 5, vi 12, vq, vi 13, vi 2, vi 3, vq, vi 14, vi 6, vq, vi 2, vi 12, vi 3, vq, vq, vi 17, vq, vq, vq] 43)]) (ob := [((!(((14 : Int) == (14 : Int)) && (((0 : Int) == (0 : Int)) && ((a2 == a5) && (((2 : Int) == (2 : Int)) && true))))), false), ((!(((13 : Int) == (13 : Int)) && (((3 : Int) == (3 : Int)) && (((0 : Int) == (0 : Int)) && ((a1 == a4) && true))))), false), ((!(((1 : Int) == (1 : Int)) && (((1 : Int) == (1 : Int)) && ((a0 == a3) && (((0 : Int) == (0 : Int)) && true))))), false)]) (by kernel_rfl) (Zb (by rw [Bool.not_eq_false']; first | (simp only [beq_self_eq_true, Bool.and_self]; done) | (simp only [Bool.and_true, Bool.and_eq_true, beq_iff_eq] <;> first | omega | (simp_all; done) | grind)) <| Zb (by rw [Bool.not_eq_false']; first | (simp only [beq_self_eq_true, Bool.and_self]; done) | (simp only [Bool.and_true, Bool.and_eq_true, beq_iff_eq] <;> first | omega | (simp_all; done) | grind)) <| Zb (by rw [Bool.not_eq_false']; first | (simp only [beq_self_eq_true, Bool.and_self]; done) | (simp only [Bool.and_true, Bool.and_eq_true, beq_iff_eq] <;> first | omega | (simp_all; done) | grind)) Zf) rfl (by decide) (by rfl) rr ⟨⟨rfl, ⟨[], by rfl⟩, by rfl⟩, ⟨⟨rfl, ⟨[], by rfl⟩, by rfl⟩, trivial⟩⟩ (Zh _ rfl)

theorem Zpk (a0 a1 a2 a3 a4 a5 : Int) (N : Nat) (r : ZaR) (h : ZcO a0 a1 a2 a3 a4 a5 N = some r) : LSpec Tryz.prog 10 #[vs 0 0 22 22, vs 1 0 22 22] [.cells [vi 10, vq, vq, vq, vi 1, vi 1, vi a0, vq, vi 15, vq, vq, vq, vi 13, vi 3, vq, vi a1, vi 9, vi 3, vi 21, vq, vi 13, vi 4, vi 3, vi 1, vi 7, vi 5, vi 4, vi 1, vi 9, vi 5, vi 12, vq, vi 13, vi 2, vi 3, vq, vi 14, vq, vi a2, vi 2, vi 12, vi 3, vq, vq, vi 8, vi 21, vq, vq, vi 3, vi 6, vi 3, vq, vi 13, vi 3, vi 6, vq, vi 9, vi 3, vi 21, vq, vi 13, vi 4, vi 3, vi 1, vi 7, vi 5, vi 4, vi 1, vi 9, vi 5, vi 12, vq, vi 13, vi 2, vi 3, vq, vi 14, vi 6, vq, vi 2, vi 12, vi 3, vq, vq, vi 17, vq, vq, vq] 43, .cells [vi 10, vq, vq, vq, vi 1, vi 1, vi a3, vq, vi 15, vq, vq, vq, vi 13, vi 3, vq, vi a4, vi 9, vi 3, vi 21, vq, vi 13, vi 4, vi 3, vi 1, vi 7, vi 5, vi 4, vi 1, vi 9, vi 5, vi 12, vq, vi 13, vi 2, vi 3, vq, vi 14, vq, vi a5, vi 2, vi 12, vi 3, vq, vq, vi 8, vi 21, vq, vq, vi 3, vi 6, vi 3, vq, vi 13, vi 3, vi 6, vq, vi 9, vi 3, vi 21, vq, vi 13, vi 4, vi 3, vi 1, vi 7, vi 5, vi 4, vi 1, vi 9, vi 5, vi 12, vq, vi 13, vi 2, vi 3, vq, vi 14, vi 6, vq, vi 2, vi 12, vi 3, vq, vq, vi 17, vq, vq, vq] 43] (Zlt a0 a1 a2 a3 a4 a5 r) (Zk6 a0 a1 a2 a3 a4 a5 r) :=
 (ZqU a0 a1 a2 a3 a4 a5 N) r h

noncomputable def Zf4 (a0 a1 a2 a3 a4 a5 : Int) (k0 k1 n : Nat) : ZB := .call [(k0, .cells [vi 10, vq, vq, vq, vi 1, vi 1, vi a0, vq, vi 15, vq, vq, vq, vi 13, vi 3, vq, vi a1, vi 9, vi 3, vi 21, vq, vi 13, vi 4, vi 3, vi 1, vi 7, vi 5, vi 4, vi 1, vi 9, vi 5, vi 12, vq, vi 13, vi 2, vi 3, vq, vi 14, vq, vi a2, vi 2, vi 12, vi 3, vq, vq, vi 8, vi 21, vq, vq, vi 3, vi 6, vi 3, vq, vi 13, vi 3, vi 6, vq, vi 9, vi 3, vi 21, vq, vi 13, vi 4, vi 3, vi 1, vi 7, vi 5, vi 4, vi 1, vi 9, vi 5, vi 12, vq, vi 13, vi 2, vi 3, vq, vi 14, vi 6, vq, vi 2, vi 12, vi 3, vq, vq, vi 17, vq, vq, vq] 43), (k1, .cells [vi 10, vq, vq, vq, vi 1, vi 1, vi a3, vq, vi 15, vq, vq, vq, vi 13, vi 3, vq, vi a4, vi 9, vi 3, vi 21, vq, vi 13, vi 4, vi 3, vi 1, vi 7, vi 5, vi 4, vi 1, vi 9, vi 5, vi 12, vq, vi 13, vi 2, vi 3, vq, vi 14, vq, vi a5, vi 2, vi 12, vi 3, vq, vq, vi 8, vi 21, vq, vq, vi 3, vi 6, vi 3, vq, vi 13, vi 3, vi 6, vq, vi 9, vi 3, vi 21, vq, vi 13, vi 4, vi 3, vi 1, vi 7, vi 5, vi 4, vi 1, vi 9, vi 5, vi 12, vq, vi 13, vi 2, vi 3, vq, vi 14, vi 6, vq, vi 2, vi 12, vi 3, vq, vq, vi 17, vq, vq, vq] 43)] (vT) [] 0
def Ze4 (A : Array Value) (a0 a1 a2 a3 a4 a5 : Int) (k0 k1 n : Nat) : Prop := Zk Tryz.prog 10 A [(k0, .cells [vi 10, vq, vq, vq, vi 1, vi 1, vi a0, vq, vi 15, vq, vq, vq, vi 13, vi 3, vq, vi a1, vi 9, vi 3, vi 21, vq, vi 13, vi 4, vi 3, vi 1, vi 7, vi 5, vi 4, vi 1, vi 9, vi 5, vi 12, vq, vi 13, vi 2, vi 3, vq, vi 14, vq, vi a2, vi 2, vi 12, vi 3, vq, vq, vi 8, vi 21, vq, vq, vi 3, vi 6, vi 3, vq, vi 13, vi 3, vi 6, vq, vi 9, vi 3, vi 21, vq, vi 13, vi 4, vi 3, vi 1, vi 7, vi 5, vi 4, vi 1, vi 9, vi 5, vi 12, vq, vi 13, vi 2, vi 3, vq, vi 14, vi 6, vq, vi 2, vi 12, vi 3, vq, vq, vi 17, vq, vq, vq] 43), (k1, .cells [vi 10, vq, vq, vq, vi 1, vi 1, vi a3, vq, vi 15, vq, vq, vq, vi 13, vi 3, vq, vi a4, vi 9, vi 3, vi 21, vq, vi 13, vi 4, vi 3, vi 1, vi 7, vi 5, vi 4, vi 1, vi 9, vi 5, vi 12, vq, vi 13, vi 2, vi 3, vq, vi 14, vq, vi a5, vi 2, vi 12, vi 3, vq, vq, vi 8, vi 21, vq, vq, vi 3, vi 6, vi 3, vq, vi 13, vi 3, vi 6, vq, vi 9, vi 3, vi 21, vq, vi 13, vi 4, vi 3, vi 1, vi 7, vi 5, vi 4, vi 1, vi 9, vi 5, vi 12, vq, vi 13, vi 2, vi 3, vq, vi 14, vi 6, vq, vi 2, vi 12, vi 3, vq, vq, vi 17, vq, vq, vq] 43)] (vT) [] n 0

theorem Zf5 (A : Array Value) (a0 a1 a2 a3 a4 a5 : Int) (N : Nat) (h : ZcO a0 a1 a2 a3 a4 a5 N = some (.r1)) (k0 k1 n : Nat) (hA : A = #[vs k0 0 22 22, vs k1 0 22 22]) (hnd : ([k0, k1] : List Nat).Nodup) (hlt : ∀ k ∈ ([k0, k1] : List Nat), k < n) : Ze4 A a0 a1 a2 a3 a4 a5 k0 k1 n :=
 Zn hA (LSpec.callL (show LSpec Tryz.prog 10 #[vs 0 0 22 22, vs 1 0 22 22] [.cells [vi 10, vq, vq, vq, vi 1, vi 1, vi a0, vq, vi 15, vq, vq, vq, vi 13, vi 3, vq, vi a1, vi 9, vi 3, vi 21, vq, vi 13, vi 4, vi 3, vi 1, vi 7, vi 5, vi 4, vi 1, vi 9, vi 5, vi 12, vq, vi 13, vi 2, vi 3, vq, vi 14, vq, vi a2, vi 2, vi 12, vi 3, vq, vq, vi 8, vi 21, vq, vq, vi 3, vi 6, vi 3, vq, vi 13, vi 3, vi 6, vq, vi 9, vi 3, vi 21, vq, vi 13, vi 4, vi 3, vi 1, vi 7, vi 5, vi 4, vi 1, vi 9, vi 5, vi 12, vq, vi 13, vi 2, vi 3, vq, vi 14, vi 6, vq, vi 2, vi 12, vi 3, vq, vq, vi 17, vq, vq, vq] 43, .cells [vi 10, vq, vq, vq, vi 1, vi 1, vi a3, vq, vi 15, vq, vq, vq, vi 13, vi 3, vq, vi a4, vi 9, vi 3, vi 21, vq, vi 13, vi 4, vi 3, vi 1, vi 7, vi 5, vi 4, vi 1, vi 9, vi 5, vi 12, vq, vi 13, vi 2, vi 3, vq, vi 14, vq, vi a5, vi 2, vi 12, vi 3, vq, vq, vi 8, vi 21, vq, vq, vi 3, vi 6, vi 3, vq, vi 13, vi 3, vi 6, vq, vi 9, vi 3, vi 21, vq, vi 13, vi 4, vi 3, vi 1, vi 7, vi 5, vi 4, vi 1, vi 9, vi 5, vi 12, vq, vi 13, vi 2, vi 3, vq, vi 14, vi 6, vq, vi 2, vi 12, vi 3, vq, vq, vi 17, vq, vq, vq] 43] (vT) [some (.cells [vi 10, vq, vq, vq, vi 1, vi 1, vi a0, vq, vi 15, vq, vq, vq, vi 13, vi 3, vq, vi a1, vi 9, vi 3, vi 21, vq, vi 13, vi 4, vi 3, vi 1, vi 7, vi 5, vi 4, vi 1, vi 9, vi 5, vi 12, vq, vi 13, vi 2, vi 3, vq, vi 14, vq, vi a2, vi 2, vi 12, vi 3, vq, vq, vi 8, vi 21, vq, vq, vi 3, vi 6, vi 3, vq, vi 13, vi 3, vi 6, vq, vi 9, vi 3, vi 21, vq, vi 13, vi 4, vi 3, vi 1, vi 7, vi 5, vi 4, vi 1, vi 9, vi 5, vi 12, vq, vi 13, vi 2, vi 3, vq, vi 14, vi 6, vq, vi 2, vi 12, vi 3, vq, vq, vi 17, vq, vq, vq] 43), some (.cells [vi 10, vq, vq, vq, vi 1, vi 1, vi a3, vq, vi 15, vq, vq, vq, vi 13, vi 3, vq, vi a4, vi 9, vi 3, vi 21, vq, vi 13, vi 4, vi 3, vi 1, vi 7, vi 5, vi 4, vi 1, vi 9, vi 5, vi 12, vq, vi 13, vi 2, vi 3, vq, vi 14, vq, vi a5, vi 2, vi 12, vi 3, vq, vq, vi 8, vi 21, vq, vq, vi 3, vi 6, vi 3, vq, vi 13, vi 3, vi 6, vq, vi 9, vi 3, vi 21, vq, vi 13, vi 4, vi 3, vi 1, vi 7, vi 5, vi 4, vi 1, vi 9, vi 5, vi 12, vq, vi 13, vi 2, vi 3, vq, vi 14, vi 6, vq, vi 2, vi 12, vi 3, vq, vq, vi 17, vq, vq, vq] 43)] from Zpk a0 a1 a2 a3 a4 a5 N _ h) [k0, k1] n [] rfl hnd hlt (show 2 ≤ 2 from by decide) (show ∀ j ∈ ([] : List Nat), j < 2 from by decide) (by rfl) ⟨rfl, ⟨rfl, trivial⟩⟩ (by rfl) ⟨rfl, ⟨rfl, trivial⟩⟩ ⟨.inr rfl, ⟨.inr rfl, trivial⟩⟩ rfl rfl rfl (Za (ZdH rfl rfl) (Za (ZdH rfl rfl) rfl)) rfl)

noncomputable def ZqV  : ZfA → Value
 | .r0 => vT
noncomputable def Zpy  : ZfA → List (Option AObj)
 | .r0 => []

theorem Zt7  (N : Nat) : Gx Tryz.prog 30 [] #[Value.agg #[vi 10, vq, vq, vq]] (ZqV ) (Zpy ) (Zfz  N) := by
 unfold Zfz
 exact Zi Zj (r := (.r0 : ZfA)) (fu := 4000) (orc := (Zl [] [] [] [] [])) (live := []) (u := vT) (bl := []) (ob := []) (by kernel_rfl) Zf rfl (by decide) (by rfl) rr trivial (Zh _ rfl)

theorem Zsn  (N : Nat) (r : ZfA) (h : Zfz  N = some r) : LSpec Tryz.prog 30 #[Value.agg #[vi 10, vq, vq, vq]] [] (ZqV  r) (Zpy  r) :=
 (Zt7  N) r h

noncomputable def Zbk  (n : Nat) : ZB := .call [] (vT) [] 0
def ZaW (A : Array Value)  (n : Nat) : Prop := Zk Tryz.prog 30 A [] (vT) [] n 0

theorem Zbl (A : Array Value)  (N : Nat) (h : Zfz  N = some (.r0)) (n : Nat) (hA : A = #[Value.agg #[vi 10, vq, vq, vq]]) (hnd : ([] : List Nat).Nodup) (hlt : ∀ k ∈ ([] : List Nat), k < n) : ZaW A   n :=
 Zn hA (LSpec.callL (show LSpec Tryz.prog 30 #[Value.agg #[vi 10, vq, vq, vq]] [] (vT) [] from Zsn  N _ h) [] n [] rfl hnd hlt (show 0 ≤ 0 from by decide) (show ∀ j ∈ ([] : List Nat), j < 0 from by decide) (by rfl) trivial (by rfl) trivial trivial rfl rfl rfl rfl rfl)

noncomputable def Zol (a0 : Int) : Zb7 → Value
 | .r0 => vT
 | .r1 => vf
noncomputable def Zm4 (a0 : Int) : Zb7 → List (Option AObj)
 | .r0 => []
 | .r1 => []

theorem Zso (a0 : Int) (N : Nat) : Gx Tryz.prog 30 [] #[Value.agg #[vi 1, vi 1, vi a0, vq]] (Zol a0) (Zm4 a0) (Zcl a0 N) := by
 unfold Zcl
 refine ZR (fun g0 => ?_) (fun g0 => ?_)
 ·
  refine ZR (fun g1 => ?_) (fun g1 => ?_)
  ·
   exact Zi Zj (r := (.r0 : Zb7)) (fu := 4000) (orc := (Zl [(6, true), (7, true)] [] [] [] [])) (live := []) (u := vT) (bl := []) (ob := [((decide (a0 ≤ (1099511627776 : Int))), true), ((decide (a0 ≥ (-1099511627776 : Int))), true)]) (by kernel_rfl) (oY <| oY Zf) rfl (by decide) (by rfl) rr trivial (Zh _ rfl)
  ·
   exact Zi Zj (r := (.r1 : Zb7)) (fu := 4000) (orc := (Zl [(6, true), (7, false)] [] [] [] [])) (live := []) (u := vf) (bl := []) (ob := [((decide (a0 ≤ (1099511627776 : Int))), false), ((decide (a0 ≥ (-1099511627776 : Int))), true)]) (by kernel_rfl) (oN <| oY Zf) rfl (by decide) (by rfl) rr trivial (Zh _ rfl)
 ·
  exact Zi Zj (r := (.r1 : Zb7)) (fu := 4000) (orc := (Zl [(6, false)] [] [] [] [])) (live := []) (u := vf) (bl := []) (ob := [((decide (a0 ≥ (-1099511627776 : Int))), false)]) (by kernel_rfl) (oN Zf) rfl (by decide) (by rfl) rr trivial (Zh _ rfl)

theorem Zke (a0 : Int) (N : Nat) (r : Zb7) (h : Zcl a0 N = some r) : LSpec Tryz.prog 30 #[Value.agg #[vi 1, vi 1, vi a0, vq]] [] (Zol a0 r) (Zm4 a0 r) :=
 (Zso a0 N) r h

noncomputable def Zby (a0 : Int) (n : Nat) : ZB := .call [] (vT) [] 0
def Zbq (A : Array Value) (a0 : Int) (n : Nat) : Prop := Zk Tryz.prog 30 A [] (vT) [] n 0

theorem Zbz (A : Array Value) (a0 : Int) (N : Nat) (h : Zcl a0 N = some (.r0)) (n : Nat) (hA : A = #[Value.agg #[vi 1, vi 1, vi a0, vq]]) (hnd : ([] : List Nat).Nodup) (hlt : ∀ k ∈ ([] : List Nat), k < n) : Zbq A a0  n :=
 Zn hA (LSpec.callL (show LSpec Tryz.prog 30 #[Value.agg #[vi 1, vi 1, vi a0, vq]] [] (vT) [] from Zke a0 N _ h) [] n [] rfl hnd hlt (show 0 ≤ 0 from by decide) (show ∀ j ∈ ([] : List Nat), j < 0 from by decide) (by rfl) trivial (by rfl) trivial trivial rfl rfl rfl rfl rfl)

noncomputable def Zi2 (a0 : Int) (n : Nat) : ZB := .call [] (vf) [] 0
def Zgz (A : Array Value) (a0 : Int) (n : Nat) : Prop := Zk Tryz.prog 30 A [] (vf) [] n 0

theorem Zi3 (A : Array Value) (a0 : Int) (N : Nat) (h : Zcl a0 N = some (.r1)) (n : Nat) (hA : A = #[Value.agg #[vi 1, vi 1, vi a0, vq]]) (hnd : ([] : List Nat).Nodup) (hlt : ∀ k ∈ ([] : List Nat), k < n) : Zgz A a0  n :=
 Zn hA (LSpec.callL (show LSpec Tryz.prog 30 #[Value.agg #[vi 1, vi 1, vi a0, vq]] [] (vf) [] from Zke a0 N _ h) [] n [] rfl hnd hlt (show 0 ≤ 0 from by decide) (show ∀ j ∈ ([] : List Nat), j < 0 from by decide) (by rfl) trivial (by rfl) trivial trivial rfl rfl rfl rfl rfl)

noncomputable def Zom (a0 : Int) : Zb8 → Value
 | .r0 => vT
 | .r1 => vf
noncomputable def Zm5 (a0 : Int) : Zb8 → List (Option AObj)
 | .r0 => []
 | .r1 => []

theorem Zsp (a0 : Int) (N : Nat) : Gx Tryz.prog 30 [] #[Value.agg #[vi 1, vi 6, vi a0, vq]] (Zom a0) (Zm5 a0) (Zex a0 N) := by
 unfold Zex
 refine ZR (fun g0 => ?_) (fun g0 => ?_)
 ·
  refine ZR (fun g1 => ?_) (fun g1 => ?_)
  ·
   exact Zi Zj (r := (.r0 : Zb8)) (fu := 4000) (orc := (Zl [(6, true), (7, true)] [] [] [] [])) (live := []) (u := vT) (bl := []) (ob := [((decide (a0 ≤ (1099511627776 : Int))), true), ((decide (a0 ≥ (-1099511627776 : Int))), true)]) (by kernel_rfl) (oY <| oY Zf) rfl (by decide) (by rfl) rr trivial (Zh _ rfl)
  ·
   exact Zi Zj (r := (.r1 : Zb8)) (fu := 4000) (orc := (Zl [(6, true), (7, false)] [] [] [] [])) (live := []) (u := vf) (bl := []) (ob := [((decide (a0 ≤ (1099511627776 : Int))), false), ((decide (a0 ≥ (-1099511627776 : Int))), true)]) (by kernel_rfl) (oN <| oY Zf) rfl (by decide) (by rfl) rr trivial (Zh _ rfl)
 ·
  exact Zi Zj (r := (.r1 : Zb8)) (fu := 4000) (orc := (Zl [(6, false)] [] [] [] [])) (live := []) (u := vf) (bl := []) (ob := [((decide (a0 ≥ (-1099511627776 : Int))), false)]) (by kernel_rfl) (oN Zf) rfl (by decide) (by rfl) rr trivial (Zh _ rfl)

theorem Zkf (a0 : Int) (N : Nat) (r : Zb8) (h : Zex a0 N = some r) : LSpec Tryz.prog 30 #[Value.agg #[vi 1, vi 6, vi a0, vq]] [] (Zom a0 r) (Zm5 a0 r) :=
 (Zsp a0 N) r h

noncomputable def Zg0 (a0 : Int) (n : Nat) : ZB := .call [] (vT) [] 0
def Zfo (A : Array Value) (a0 : Int) (n : Nat) : Prop := Zk Tryz.prog 30 A [] (vT) [] n 0

theorem Zg1 (A : Array Value) (a0 : Int) (N : Nat) (h : Zex a0 N = some (.r0)) (n : Nat) (hA : A = #[Value.agg #[vi 1, vi 6, vi a0, vq]]) (hnd : ([] : List Nat).Nodup) (hlt : ∀ k ∈ ([] : List Nat), k < n) : Zfo A a0  n :=
 Zn hA (LSpec.callL (show LSpec Tryz.prog 30 #[Value.agg #[vi 1, vi 6, vi a0, vq]] [] (vT) [] from Zkf a0 N _ h) [] n [] rfl hnd hlt (show 0 ≤ 0 from by decide) (show ∀ j ∈ ([] : List Nat), j < 0 from by decide) (by rfl) trivial (by rfl) trivial trivial rfl rfl rfl rfl rfl)

noncomputable def Ztj (a0 : Int) (n : Nat) : ZB := .call [] (vf) [] 0
def Zm6 (A : Array Value) (a0 : Int) (n : Nat) : Prop := Zk Tryz.prog 30 A [] (vf) [] n 0

theorem Ztk (A : Array Value) (a0 : Int) (N : Nat) (h : Zex a0 N = some (.r1)) (n : Nat) (hA : A = #[Value.agg #[vi 1, vi 6, vi a0, vq]]) (hnd : ([] : List Nat).Nodup) (hlt : ∀ k ∈ ([] : List Nat), k < n) : Zm6 A a0  n :=
 Zn hA (LSpec.callL (show LSpec Tryz.prog 30 #[Value.agg #[vi 1, vi 6, vi a0, vq]] [] (vf) [] from Zkf a0 N _ h) [] n [] rfl hnd hlt (show 0 ≤ 0 from by decide) (show ∀ j ∈ ([] : List Nat), j < 0 from by decide) (by rfl) trivial (by rfl) trivial trivial rfl rfl rfl rfl rfl)

noncomputable def Zon  : Ze9 → Value
 | .r0 => vT
noncomputable def Zm7  : Ze9 → List (Option AObj)
 | .r0 => []

theorem Zsq  (N : Nat) : Gx Tryz.prog 30 [] #[Value.agg #[vi 15, vq, vq, vq]] (Zon ) (Zm7 ) (Zey  N) := by
 unfold Zey
 exact Zi Zj (r := (.r0 : Ze9)) (fu := 4000) (orc := (Zl [] [] [] [] [])) (live := []) (u := vT) (bl := []) (ob := []) (by kernel_rfl) Zf rfl (by decide) (by rfl) rr trivial (Zh _ rfl)

theorem ZqW  (N : Nat) (r : Ze9) (h : Zey  N = some r) : LSpec Tryz.prog 30 #[Value.agg #[vi 15, vq, vq, vq]] [] (Zon  r) (Zm7  r) :=
 (Zsq  N) r h

noncomputable def ZbL  (n : Nat) : ZB := .call [] (vT) [] 0
def Zb0 (A : Array Value)  (n : Nat) : Prop := Zk Tryz.prog 30 A [] (vT) [] n 0

theorem ZbM (A : Array Value)  (N : Nat) (h : Zey  N = some (.r0)) (n : Nat) (hA : A = #[Value.agg #[vi 15, vq, vq, vq]]) (hnd : ([] : List Nat).Nodup) (hlt : ∀ k ∈ ([] : List Nat), k < n) : Zb0 A   n :=
 Zn hA (LSpec.callL (show LSpec Tryz.prog 30 #[Value.agg #[vi 15, vq, vq, vq]] [] (vT) [] from ZqW  N _ h) [] n [] rfl hnd hlt (show 0 ≤ 0 from by decide) (show ∀ j ∈ ([] : List Nat), j < 0 from by decide) (by rfl) trivial (by rfl) trivial trivial rfl rfl rfl rfl rfl)

noncomputable def Zoo (a0 : Int) : Zb9 → Value
 | .r0 => vT
 | .r1 => vf
noncomputable def Zm8 (a0 : Int) : Zb9 → List (Option AObj)
 | .r0 => []
 | .r1 => []

theorem Zsr (a0 : Int) (N : Nat) : Gx Tryz.prog 30 [] #[Value.agg #[vi 13, vi 3, vq, vi a0]] (Zoo a0) (Zm8 a0) (ZbV a0 N) := by
 unfold ZbV
 refine ZR (fun g0 => ?_) (fun g0 => ?_)
 ·
  refine ZR (fun g1 => ?_) (fun g1 => ?_)
  ·
   exact Zi Zj (r := (.r0 : Zb9)) (fu := 4000) (orc := (Zl [(24, true), (25, true)] [] [] [] [])) (live := []) (u := vT) (bl := []) (ob := [((decide (a0 < (16 : Int))), true), ((decide (a0 ≥ (0 : Int))), true)]) (by kernel_rfl) (oY <| oY Zf) rfl (by decide) (by rfl) rr trivial (Zh _ rfl)
  ·
   exact Zi Zj (r := (.r1 : Zb9)) (fu := 4000) (orc := (Zl [(24, true), (25, false)] [] [] [] [])) (live := []) (u := vf) (bl := []) (ob := [((decide (a0 < (16 : Int))), false), ((decide (a0 ≥ (0 : Int))), true)]) (by kernel_rfl) (oN <| oY Zf) rfl (by decide) (by rfl) rr trivial (Zh _ rfl)
 ·
  exact Zi Zj (r := (.r1 : Zb9)) (fu := 4000) (orc := (Zl [(24, false)] [] [] [] [])) (live := []) (u := vf) (bl := []) (ob := [((decide (a0 ≥ (0 : Int))), false)]) (by kernel_rfl) (oN Zf) rfl (by decide) (by rfl) rr trivial (Zh _ rfl)

theorem Zkg (a0 : Int) (N : Nat) (r : Zb9) (h : ZbV a0 N = some r) : LSpec Tryz.prog 30 #[Value.agg #[vi 13, vi 3, vq, vi a0]] [] (Zoo a0 r) (Zm8 a0 r) :=
 (Zsr a0 N) r h

noncomputable def ZbY (a0 : Int) (n : Nat) : ZB := .call [] (vT) [] 0
def ZbN (A : Array Value) (a0 : Int) (n : Nat) : Prop := Zk Tryz.prog 30 A [] (vT) [] n 0

theorem ZbZ (A : Array Value) (a0 : Int) (N : Nat) (h : ZbV a0 N = some (.r0)) (n : Nat) (hA : A = #[Value.agg #[vi 13, vi 3, vq, vi a0]]) (hnd : ([] : List Nat).Nodup) (hlt : ∀ k ∈ ([] : List Nat), k < n) : ZbN A a0  n :=
 Zn hA (LSpec.callL (show LSpec Tryz.prog 30 #[Value.agg #[vi 13, vi 3, vq, vi a0]] [] (vT) [] from Zkg a0 N _ h) [] n [] rfl hnd hlt (show 0 ≤ 0 from by decide) (show ∀ j ∈ ([] : List Nat), j < 0 from by decide) (by rfl) trivial (by rfl) trivial trivial rfl rfl rfl rfl rfl)

noncomputable def Zg2 (a0 : Int) (n : Nat) : ZB := .call [] (vf) [] 0
def Zfp (A : Array Value) (a0 : Int) (n : Nat) : Prop := Zk Tryz.prog 30 A [] (vf) [] n 0

theorem Zg3 (A : Array Value) (a0 : Int) (N : Nat) (h : ZbV a0 N = some (.r1)) (n : Nat) (hA : A = #[Value.agg #[vi 13, vi 3, vq, vi a0]]) (hnd : ([] : List Nat).Nodup) (hlt : ∀ k ∈ ([] : List Nat), k < n) : Zfp A a0  n :=
 Zn hA (LSpec.callL (show LSpec Tryz.prog 30 #[Value.agg #[vi 13, vi 3, vq, vi a0]] [] (vf) [] from Zkg a0 N _ h) [] n [] rfl hnd hlt (show 0 ≤ 0 from by decide) (show ∀ j ∈ ([] : List Nat), j < 0 from by decide) (by rfl) trivial (by rfl) trivial trivial rfl rfl rfl rfl rfl)

noncomputable def Zop  : ZeA → Value
 | .r0 => vT
noncomputable def Zm9  : ZeA → List (Option AObj)
 | .r0 => []

theorem Zss  (N : Nat) : Gx Tryz.prog 30 [] #[Value.agg #[vi 9, vi 3, vi 13, vq]] (Zop ) (Zm9 ) (Zgq  N) := by
 unfold Zgq
 exact Zi Zj (r := (.r0 : ZeA)) (fu := 4000) (orc := (Zl [] [] [] [] [])) (live := []) (u := vT) (bl := []) (ob := []) (by kernel_rfl) Zf rfl (by decide) (by rfl) rr trivial (Zh _ rfl)

theorem ZqX  (N : Nat) (r : ZeA) (h : Zgq  N = some r) : LSpec Tryz.prog 30 #[Value.agg #[vi 9, vi 3, vi 13, vq]] [] (Zop  r) (Zm9  r) :=
 (Zss  N) r h

noncomputable def Zi4  (n : Nat) : ZB := .call [] (vT) [] 0
def Zg4 (A : Array Value)  (n : Nat) : Prop := Zk Tryz.prog 30 A [] (vT) [] n 0

theorem Zi5 (A : Array Value)  (N : Nat) (h : Zgq  N = some (.r0)) (n : Nat) (hA : A = #[Value.agg #[vi 9, vi 3, vi 13, vq]]) (hnd : ([] : List Nat).Nodup) (hlt : ∀ k ∈ ([] : List Nat), k < n) : Zg4 A   n :=
 Zn hA (LSpec.callL (show LSpec Tryz.prog 30 #[Value.agg #[vi 9, vi 3, vi 13, vq]] [] (vT) [] from ZqX  N _ h) [] n [] rfl hnd hlt (show 0 ≤ 0 from by decide) (show ∀ j ∈ ([] : List Nat), j < 0 from by decide) (by rfl) trivial (by rfl) trivial trivial rfl rfl rfl rfl rfl)

noncomputable def Zoq  : ZeB → Value
 | .r0 => vT
noncomputable def ZmA  : ZeB → List (Option AObj)
 | .r0 => []

theorem Zst  (N : Nat) : Gx Tryz.prog 30 [] #[Value.agg #[vi 13, vi 4, vi 3, vi 1]] (Zoq ) (ZmA ) (Zdw  N) := by
 unfold Zdw
 exact Zi Zj (r := (.r0 : ZeB)) (fu := 4000) (orc := (Zl [] [] [] [] [])) (live := []) (u := vT) (bl := []) (ob := []) (by kernel_rfl) Zf rfl (by decide) (by rfl) rr trivial (Zh _ rfl)

theorem ZqY  (N : Nat) (r : ZeB) (h : Zdw  N = some r) : LSpec Tryz.prog 30 #[Value.agg #[vi 13, vi 4, vi 3, vi 1]] [] (Zoq  r) (ZmA  r) :=
 (Zst  N) r h

noncomputable def ZcP  (n : Nat) : ZB := .call [] (vT) [] 0
def Zca (A : Array Value)  (n : Nat) : Prop := Zk Tryz.prog 30 A [] (vT) [] n 0

theorem ZcQ (A : Array Value)  (N : Nat) (h : Zdw  N = some (.r0)) (n : Nat) (hA : A = #[Value.agg #[vi 13, vi 4, vi 3, vi 1]]) (hnd : ([] : List Nat).Nodup) (hlt : ∀ k ∈ ([] : List Nat), k < n) : Zca A   n :=
 Zn hA (LSpec.callL (show LSpec Tryz.prog 30 #[Value.agg #[vi 13, vi 4, vi 3, vi 1]] [] (vT) [] from ZqY  N _ h) [] n [] rfl hnd hlt (show 0 ≤ 0 from by decide) (show ∀ j ∈ ([] : List Nat), j < 0 from by decide) (by rfl) trivial (by rfl) trivial trivial rfl rfl rfl rfl rfl)

noncomputable def Zor  : ZeC → Value
 | .r0 => vT
noncomputable def ZmB  : ZeC → List (Option AObj)
 | .r0 => []

theorem Zsu  (N : Nat) : Gx Tryz.prog 30 [] #[Value.agg #[vi 7, vi 5, vi 4, vi 1]] (Zor ) (ZmB ) (Zez  N) := by
 unfold Zez
 exact Zi Zj (r := (.r0 : ZeC)) (fu := 4000) (orc := (Zl [] [] [] [] [])) (live := []) (u := vT) (bl := []) (ob := []) (by kernel_rfl) Zf rfl (by decide) (by rfl) rr trivial (Zh _ rfl)

theorem ZqZ  (N : Nat) (r : ZeC) (h : Zez  N = some r) : LSpec Tryz.prog 30 #[Value.agg #[vi 7, vi 5, vi 4, vi 1]] [] (Zor  r) (ZmB  r) :=
 (Zsu  N) r h

noncomputable def Zeu  (n : Nat) : ZB := .call [] (vT) [] 0
def ZcR (A : Array Value)  (n : Nat) : Prop := Zk Tryz.prog 30 A [] (vT) [] n 0

theorem Zev (A : Array Value)  (N : Nat) (h : Zez  N = some (.r0)) (n : Nat) (hA : A = #[Value.agg #[vi 7, vi 5, vi 4, vi 1]]) (hnd : ([] : List Nat).Nodup) (hlt : ∀ k ∈ ([] : List Nat), k < n) : ZcR A   n :=
 Zn hA (LSpec.callL (show LSpec Tryz.prog 30 #[Value.agg #[vi 7, vi 5, vi 4, vi 1]] [] (vT) [] from ZqZ  N _ h) [] n [] rfl hnd hlt (show 0 ≤ 0 from by decide) (show ∀ j ∈ ([] : List Nat), j < 0 from by decide) (by rfl) trivial (by rfl) trivial trivial rfl rfl rfl rfl rfl)

noncomputable def Zos  : ZeD → Value
 | .r0 => vT
noncomputable def ZmC  : ZeD → List (Option AObj)
 | .r0 => []

theorem Zsv  (N : Nat) : Gx Tryz.prog 30 [] #[Value.agg #[vi 9, vi 5, vi 11, vq]] (Zos ) (ZmC ) (Zgr  N) := by
 unfold Zgr
 exact Zi Zj (r := (.r0 : ZeD)) (fu := 4000) (orc := (Zl [] [] [] [] [])) (live := []) (u := vT) (bl := []) (ob := []) (by kernel_rfl) Zf rfl (by decide) (by rfl) rr trivial (Zh _ rfl)

theorem Zra  (N : Nat) (r : ZeD) (h : Zgr  N = some r) : LSpec Tryz.prog 30 #[Value.agg #[vi 9, vi 5, vi 11, vq]] [] (Zos  r) (ZmC  r) :=
 (Zsv  N) r h

noncomputable def Zi6  (n : Nat) : ZB := .call [] (vT) [] 0
def Zg5 (A : Array Value)  (n : Nat) : Prop := Zk Tryz.prog 30 A [] (vT) [] n 0

theorem Zi7 (A : Array Value)  (N : Nat) (h : Zgr  N = some (.r0)) (n : Nat) (hA : A = #[Value.agg #[vi 9, vi 5, vi 11, vq]]) (hnd : ([] : List Nat).Nodup) (hlt : ∀ k ∈ ([] : List Nat), k < n) : Zg5 A   n :=
 Zn hA (LSpec.callL (show LSpec Tryz.prog 30 #[Value.agg #[vi 9, vi 5, vi 11, vq]] [] (vT) [] from Zra  N _ h) [] n [] rfl hnd hlt (show 0 ≤ 0 from by decide) (show ∀ j ∈ ([] : List Nat), j < 0 from by decide) (by rfl) trivial (by rfl) trivial trivial rfl rfl rfl rfl rfl)

noncomputable def ZmD  : ZdT → Value
 | .r0 => vT
noncomputable def Zlu  : ZdT → List (Option AObj)
 | .r0 => []

theorem Zr0  (N : Nat) : Gx Tryz.prog 30 [] #[Value.agg #[vi 14, vi 3, vi 2, vi 6]] (ZmD ) (Zlu ) (ZfB  N) := by
 unfold ZfB
 exact Zi Zj (r := (.r0 : ZdT)) (fu := 4000) (orc := (Zl [] [] [] [] [])) (live := []) (u := vT) (bl := []) (ob := []) (by kernel_rfl) Zf rfl (by decide) (by rfl) rr trivial (Zh _ rfl)

theorem Zp8  (N : Nat) (r : ZdT) (h : ZfB  N = some r) : LSpec Tryz.prog 30 #[Value.agg #[vi 14, vi 3, vi 2, vi 6]] [] (ZmD  r) (Zlu  r) :=
 (Zr0  N) r h

noncomputable def ZhE  (n : Nat) : ZB := .call [] (vT) [] 0
def Zge (A : Array Value)  (n : Nat) : Prop := Zk Tryz.prog 30 A [] (vT) [] n 0

theorem ZhF (A : Array Value)  (N : Nat) (h : ZfB  N = some (.r0)) (n : Nat) (hA : A = #[Value.agg #[vi 14, vi 3, vi 2, vi 6]]) (hnd : ([] : List Nat).Nodup) (hlt : ∀ k ∈ ([] : List Nat), k < n) : Zge A   n :=
 Zn hA (LSpec.callL (show LSpec Tryz.prog 30 #[Value.agg #[vi 14, vi 3, vi 2, vi 6]] [] (vT) [] from Zp8  N _ h) [] n [] rfl hnd hlt (show 0 ≤ 0 from by decide) (show ∀ j ∈ ([] : List Nat), j < 0 from by decide) (by rfl) trivial (by rfl) trivial trivial rfl rfl rfl rfl rfl)

noncomputable def ZmE  : ZdU → Value
 | .r0 => vT
noncomputable def Zlv  : ZdU → List (Option AObj)
 | .r0 => []

theorem Zr1  (N : Nat) : Gx Tryz.prog 30 [] #[Value.agg #[vi 8, vi 19, vq, vq]] (ZmE ) (Zlv ) (ZfC  N) := by
 unfold ZfC
 exact Zi Zj (r := (.r0 : ZdU)) (fu := 4000) (orc := (Zl [] [] [] [] [])) (live := []) (u := vT) (bl := []) (ob := []) (by kernel_rfl) Zf rfl (by decide) (by rfl) rr trivial (Zh _ rfl)

theorem Zp9  (N : Nat) (r : ZdU) (h : ZfC  N = some r) : LSpec Tryz.prog 30 #[Value.agg #[vi 8, vi 19, vq, vq]] [] (ZmE  r) (Zlv  r) :=
 (Zr1  N) r h

noncomputable def ZhG  (n : Nat) : ZB := .call [] (vT) [] 0
def Zgf (A : Array Value)  (n : Nat) : Prop := Zk Tryz.prog 30 A [] (vT) [] n 0

theorem ZhH (A : Array Value)  (N : Nat) (h : ZfC  N = some (.r0)) (n : Nat) (hA : A = #[Value.agg #[vi 8, vi 19, vq, vq]]) (hnd : ([] : List Nat).Nodup) (hlt : ∀ k ∈ ([] : List Nat), k < n) : Zgf A   n :=
 Zn hA (LSpec.callL (show LSpec Tryz.prog 30 #[Value.agg #[vi 8, vi 19, vq, vq]] [] (vT) [] from Zp9  N _ h) [] n [] rfl hnd hlt (show 0 ≤ 0 from by decide) (show ∀ j ∈ ([] : List Nat), j < 0 from by decide) (by rfl) trivial (by rfl) trivial trivial rfl rfl rfl rfl rfl)

noncomputable def ZmF  : ZdV → Value
 | .r0 => vT
noncomputable def Zlw  : ZdV → List (Option AObj)
 | .r0 => []

theorem Zr2  (N : Nat) : Gx Tryz.prog 30 [] #[Value.agg #[vi 13, vi 3, vi 3, vq]] (ZmF ) (Zlw ) (ZeE  N) := by
 unfold ZeE
 exact Zi Zj (r := (.r0 : ZdV)) (fu := 4000) (orc := (Zl [] [] [] [] [])) (live := []) (u := vT) (bl := []) (ob := []) (by kernel_rfl) Zf rfl (by decide) (by rfl) rr trivial (Zh _ rfl)

theorem ZpA  (N : Nat) (r : ZdV) (h : ZeE  N = some r) : LSpec Tryz.prog 30 #[Value.agg #[vi 13, vi 3, vi 3, vq]] [] (ZmF  r) (Zlw  r) :=
 (Zr2  N) r h

noncomputable def Zgg  (n : Nat) : ZB := .call [] (vT) [] 0
def ZeM (A : Array Value)  (n : Nat) : Prop := Zk Tryz.prog 30 A [] (vT) [] n 0

theorem Zgh (A : Array Value)  (N : Nat) (h : ZeE  N = some (.r0)) (n : Nat) (hA : A = #[Value.agg #[vi 13, vi 3, vi 3, vq]]) (hnd : ([] : List Nat).Nodup) (hlt : ∀ k ∈ ([] : List Nat), k < n) : ZeM A   n :=
 Zn hA (LSpec.callL (show LSpec Tryz.prog 30 #[Value.agg #[vi 13, vi 3, vi 3, vq]] [] (vT) [] from ZpA  N _ h) [] n [] rfl hnd hlt (show 0 ≤ 0 from by decide) (show ∀ j ∈ ([] : List Nat), j < 0 from by decide) (by rfl) trivial (by rfl) trivial trivial rfl rfl rfl rfl rfl)

noncomputable def ZmG  : ZdW → Value
 | .r0 => vT
noncomputable def Zlx  : ZdW → List (Option AObj)
 | .r0 => []

theorem Zr3  (N : Nat) : Gx Tryz.prog 30 [] #[Value.agg #[vi 8, vi 5, vq, vq]] (ZmG ) (Zlx ) (ZfD  N) := by
 unfold ZfD
 exact Zi Zj (r := (.r0 : ZdW)) (fu := 4000) (orc := (Zl [] [] [] [] [])) (live := []) (u := vT) (bl := []) (ob := []) (by kernel_rfl) Zf rfl (by decide) (by rfl) rr trivial (Zh _ rfl)

theorem ZpB  (N : Nat) (r : ZdW) (h : ZfD  N = some r) : LSpec Tryz.prog 30 #[Value.agg #[vi 8, vi 5, vq, vq]] [] (ZmG  r) (Zlx  r) :=
 (Zr3  N) r h

noncomputable def ZhI  (n : Nat) : ZB := .call [] (vT) [] 0
def Zgi (A : Array Value)  (n : Nat) : Prop := Zk Tryz.prog 30 A [] (vT) [] n 0

theorem ZhJ (A : Array Value)  (N : Nat) (h : ZfD  N = some (.r0)) (n : Nat) (hA : A = #[Value.agg #[vi 8, vi 5, vq, vq]]) (hnd : ([] : List Nat).Nodup) (hlt : ∀ k ∈ ([] : List Nat), k < n) : Zgi A   n :=
 Zn hA (LSpec.callL (show LSpec Tryz.prog 30 #[Value.agg #[vi 8, vi 5, vq, vq]] [] (vT) [] from ZpB  N _ h) [] n [] rfl hnd hlt (show 0 ≤ 0 from by decide) (show ∀ j ∈ ([] : List Nat), j < 0 from by decide) (by rfl) trivial (by rfl) trivial trivial rfl rfl rfl rfl rfl)

noncomputable def ZmH  : ZdX → Value
 | .r0 => vT
noncomputable def Zly  : ZdX → List (Option AObj)
 | .r0 => []

theorem Zr4  (N : Nat) : Gx Tryz.prog 30 [] #[Value.agg #[vi 11, vi 2, vi 3, vi 1]] (ZmH ) (Zly ) (ZfE  N) := by
 unfold ZfE
 exact Zi Zj (r := (.r0 : ZdX)) (fu := 4000) (orc := (Zl [] [] [] [] [])) (live := []) (u := vT) (bl := []) (ob := []) (by kernel_rfl) Zf rfl (by decide) (by rfl) rr trivial (Zh _ rfl)

theorem ZpC  (N : Nat) (r : ZdX) (h : ZfE  N = some r) : LSpec Tryz.prog 30 #[Value.agg #[vi 11, vi 2, vi 3, vi 1]] [] (ZmH  r) (Zly  r) :=
 (Zr4  N) r h

noncomputable def ZhK  (n : Nat) : ZB := .call [] (vT) [] 0
def Zgj (A : Array Value)  (n : Nat) : Prop := Zk Tryz.prog 30 A [] (vT) [] n 0

theorem ZhL (A : Array Value)  (N : Nat) (h : ZfE  N = some (.r0)) (n : Nat) (hA : A = #[Value.agg #[vi 11, vi 2, vi 3, vi 1]]) (hnd : ([] : List Nat).Nodup) (hlt : ∀ k ∈ ([] : List Nat), k < n) : Zgj A   n :=
 Zn hA (LSpec.callL (show LSpec Tryz.prog 30 #[Value.agg #[vi 11, vi 2, vi 3, vi 1]] [] (vT) [] from ZpC  N _ h) [] n [] rfl hnd hlt (show 0 ≤ 0 from by decide) (show ∀ j ∈ ([] : List Nat), j < 0 from by decide) (by rfl) trivial (by rfl) trivial trivial rfl rfl rfl rfl rfl)

noncomputable def ZmI  : ZdY → Value
 | .r0 => vT
noncomputable def Zlz  : ZdY → List (Option AObj)
 | .r0 => []

theorem Zr5  (N : Nat) : Gx Tryz.prog 30 [] #[Value.agg #[vi 14, vi 2, vi 1, vi 1]] (ZmI ) (Zlz ) (ZfF  N) := by
 unfold ZfF
 exact Zi Zj (r := (.r0 : ZdY)) (fu := 4000) (orc := (Zl [] [] [] [] [])) (live := []) (u := vT) (bl := []) (ob := []) (by kernel_rfl) Zf rfl (by decide) (by rfl) rr trivial (Zh _ rfl)

theorem ZpD  (N : Nat) (r : ZdY) (h : ZfF  N = some r) : LSpec Tryz.prog 30 #[Value.agg #[vi 14, vi 2, vi 1, vi 1]] [] (ZmI  r) (Zlz  r) :=
 (Zr5  N) r h

noncomputable def ZhM  (n : Nat) : ZB := .call [] (vT) [] 0
def Zgk (A : Array Value)  (n : Nat) : Prop := Zk Tryz.prog 30 A [] (vT) [] n 0

theorem ZhN (A : Array Value)  (N : Nat) (h : ZfF  N = some (.r0)) (n : Nat) (hA : A = #[Value.agg #[vi 14, vi 2, vi 1, vi 1]]) (hnd : ([] : List Nat).Nodup) (hlt : ∀ k ∈ ([] : List Nat), k < n) : Zgk A   n :=
 Zn hA (LSpec.callL (show LSpec Tryz.prog 30 #[Value.agg #[vi 14, vi 2, vi 1, vi 1]] [] (vT) [] from ZpD  N _ h) [] n [] rfl hnd hlt (show 0 ≤ 0 from by decide) (show ∀ j ∈ ([] : List Nat), j < 0 from by decide) (by rfl) trivial (by rfl) trivial trivial rfl rfl rfl rfl rfl)

noncomputable def ZmJ  : ZdZ → Value
 | .r0 => vT
noncomputable def Zl0  : ZdZ → List (Option AObj)
 | .r0 => []

theorem Zr6  (N : Nat) : Gx Tryz.prog 30 [] #[Value.agg #[vi 14, vi 2, vi 2, vi 6]] (ZmJ ) (Zl0 ) (ZfG  N) := by
 unfold ZfG
 exact Zi Zj (r := (.r0 : ZdZ)) (fu := 4000) (orc := (Zl [] [] [] [] [])) (live := []) (u := vT) (bl := []) (ob := []) (by kernel_rfl) Zf rfl (by decide) (by rfl) rr trivial (Zh _ rfl)

end Ev
end Go.Proofs.YtaajdoclloamlaaGreat
/- Calls do what the plain functions say. -/
namespace Go.Proofs.YtaajdoclloamlaaGreat
open Go.RowKit
namespace Ev
set_option linter.unusedVariables false
set_option maxRecDepth 100000
theorem ZpE  (N : Nat) (r : ZdZ) (h : ZfG  N = some r) : LSpec Tryz.prog 30 #[Value.agg #[vi 14, vi 2, vi 2, vi 6]] [] (ZmJ  r) (Zl0  r) :=
 (Zr6  N) r h

noncomputable def ZhO  (n : Nat) : ZB := .call [] (vT) [] 0
def Zgl (A : Array Value)  (n : Nat) : Prop := Zk Tryz.prog 30 A [] (vT) [] n 0

theorem ZhP (A : Array Value)  (N : Nat) (h : ZfG  N = some (.r0)) (n : Nat) (hA : A = #[Value.agg #[vi 14, vi 2, vi 2, vi 6]]) (hnd : ([] : List Nat).Nodup) (hlt : ∀ k ∈ ([] : List Nat), k < n) : Zgl A   n :=
 Zn hA (LSpec.callL (show LSpec Tryz.prog 30 #[Value.agg #[vi 14, vi 2, vi 2, vi 6]] [] (vT) [] from ZpE  N _ h) [] n [] rfl hnd hlt (show 0 ≤ 0 from by decide) (show ∀ j ∈ ([] : List Nat), j < 0 from by decide) (by rfl) trivial (by rfl) trivial trivial rfl rfl rfl rfl rfl)

noncomputable def ZmK  : Zea → Value
 | .r0 => vT
noncomputable def Zl1  : Zea → List (Option AObj)
 | .r0 => []

theorem Zr7  (N : Nat) : Gx Tryz.prog 30 [] #[Value.agg #[vi 14, vi 2, vq, vi 3]] (ZmK ) (Zl1 ) (ZfH  N) := by
 unfold ZfH
 exact Zi Zj (r := (.r0 : Zea)) (fu := 4000) (orc := (Zl [] [] [] [] [])) (live := []) (u := vT) (bl := []) (ob := []) (by kernel_rfl) Zf rfl (by decide) (by rfl) rr trivial (Zh _ rfl)

theorem ZpF  (N : Nat) (r : Zea) (h : ZfH  N = some r) : LSpec Tryz.prog 30 #[Value.agg #[vi 14, vi 2, vq, vi 3]] [] (ZmK  r) (Zl1  r) :=
 (Zr7  N) r h

noncomputable def Zl2  (n : Nat) : ZB := .call [] (vT) [] 0
def ZhQ (A : Array Value)  (n : Nat) : Prop := Zk Tryz.prog 30 A [] (vT) [] n 0

theorem Zl3 (A : Array Value)  (N : Nat) (h : ZfH  N = some (.r0)) (n : Nat) (hA : A = #[Value.agg #[vi 14, vi 2, vq, vi 3]]) (hnd : ([] : List Nat).Nodup) (hlt : ∀ k ∈ ([] : List Nat), k < n) : ZhQ A   n :=
 Zn hA (LSpec.callL (show LSpec Tryz.prog 30 #[Value.agg #[vi 14, vi 2, vq, vi 3]] [] (vT) [] from ZpF  N _ h) [] n [] rfl hnd hlt (show 0 ≤ 0 from by decide) (show ∀ j ∈ ([] : List Nat), j < 0 from by decide) (by rfl) trivial (by rfl) trivial trivial rfl rfl rfl rfl rfl)

noncomputable def ZmL (a0 : Int) : Zbx → Value
 | .r0 => vT
 | .r1 => vf
noncomputable def Zl4 (a0 : Int) : Zbx → List (Option AObj)
 | .r0 => []
 | .r1 => []

theorem Zr8 (a0 : Int) (N : Nat) : Gx Tryz.prog 30 [] #[Value.agg #[vi 14, vq, vi a0, vi 2]] (ZmL a0) (Zl4 a0) (ZcE a0 N) := by
 unfold ZcE
 refine ZR (fun g0 => ?_) (fun g0 => ?_)
 ·
  refine ZR (fun g1 => ?_) (fun g1 => ?_)
  ·
   exact Zi Zj (r := (.r0 : Zbx)) (fu := 4000) (orc := (Zl [(22, true), (23, true)] [] [] [] [])) (live := []) (u := vT) (bl := []) (ob := [((decide (a0 < (16 : Int))), true), ((decide (a0 ≥ (0 : Int))), true)]) (by kernel_rfl) (oY <| oY Zf) rfl (by decide) (by rfl) rr trivial (Zh _ rfl)
  ·
   exact Zi Zj (r := (.r1 : Zbx)) (fu := 4000) (orc := (Zl [(22, true), (23, false)] [] [] [] [])) (live := []) (u := vf) (bl := []) (ob := [((decide (a0 < (16 : Int))), false), ((decide (a0 ≥ (0 : Int))), true)]) (by kernel_rfl) (oN <| oY Zf) rfl (by decide) (by rfl) rr trivial (Zh _ rfl)
 ·
  exact Zi Zj (r := (.r1 : Zbx)) (fu := 4000) (orc := (Zl [(22, false)] [] [] [] [])) (live := []) (u := vf) (bl := []) (ob := [((decide (a0 ≥ (0 : Int))), false)]) (by kernel_rfl) (oN Zf) rfl (by decide) (by rfl) rr trivial (Zh _ rfl)

theorem Zjb (a0 : Int) (N : Nat) (r : Zbx) (h : ZcE a0 N = some r) : LSpec Tryz.prog 30 #[Value.agg #[vi 14, vq, vi a0, vi 2]] [] (ZmL a0 r) (Zl4 a0 r) :=
 (Zr8 a0 N) r h

noncomputable def Zl5 (a0 : Int) (n : Nat) : ZB := .call [] (vT) [] 0
def ZhR (A : Array Value) (a0 : Int) (n : Nat) : Prop := Zk Tryz.prog 30 A [] (vT) [] n 0

theorem Zl6 (A : Array Value) (a0 : Int) (N : Nat) (h : ZcE a0 N = some (.r0)) (n : Nat) (hA : A = #[Value.agg #[vi 14, vq, vi a0, vi 2]]) (hnd : ([] : List Nat).Nodup) (hlt : ∀ k ∈ ([] : List Nat), k < n) : ZhR A a0  n :=
 Zn hA (LSpec.callL (show LSpec Tryz.prog 30 #[Value.agg #[vi 14, vq, vi a0, vi 2]] [] (vT) [] from Zjb a0 N _ h) [] n [] rfl hnd hlt (show 0 ≤ 0 from by decide) (show ∀ j ∈ ([] : List Nat), j < 0 from by decide) (by rfl) trivial (by rfl) trivial trivial rfl rfl rfl rfl rfl)

noncomputable def Zl7 (a0 : Int) (n : Nat) : ZB := .call [] (vf) [] 0
def ZhS (A : Array Value) (a0 : Int) (n : Nat) : Prop := Zk Tryz.prog 30 A [] (vf) [] n 0

theorem Zl8 (A : Array Value) (a0 : Int) (N : Nat) (h : ZcE a0 N = some (.r1)) (n : Nat) (hA : A = #[Value.agg #[vi 14, vq, vi a0, vi 2]]) (hnd : ([] : List Nat).Nodup) (hlt : ∀ k ∈ ([] : List Nat), k < n) : ZhS A a0  n :=
 Zn hA (LSpec.callL (show LSpec Tryz.prog 30 #[Value.agg #[vi 14, vq, vi a0, vi 2]] [] (vf) [] from Zjb a0 N _ h) [] n [] rfl hnd hlt (show 0 ≤ 0 from by decide) (show ∀ j ∈ ([] : List Nat), j < 0 from by decide) (by rfl) trivial (by rfl) trivial trivial rfl rfl rfl rfl rfl)

noncomputable def ZmM  : Zeb → Value
 | .r0 => vT
noncomputable def Zl9  : Zeb → List (Option AObj)
 | .r0 => []

theorem Zr9  (N : Nat) : Gx Tryz.prog 30 [] #[Value.agg #[vi 17, vq, vq, vq]] (ZmM ) (Zl9 ) (ZdK  N) := by
 unfold ZdK
 exact Zi Zj (r := (.r0 : Zeb)) (fu := 4000) (orc := (Zl [] [] [] [] [])) (live := []) (u := vT) (bl := []) (ob := []) (by kernel_rfl) Zf rfl (by decide) (by rfl) rr trivial (Zh _ rfl)

theorem ZpG  (N : Nat) (r : Zeb) (h : ZdK  N = some r) : LSpec Tryz.prog 30 #[Value.agg #[vi 17, vq, vq, vq]] [] (ZmM  r) (Zl9  r) :=
 (Zr9  N) r h

noncomputable def ZhT  (n : Nat) : ZB := .call [] (vT) [] 0
def Zgm (A : Array Value)  (n : Nat) : Prop := Zk Tryz.prog 30 A [] (vT) [] n 0

theorem ZhU (A : Array Value)  (N : Nat) (h : ZdK  N = some (.r0)) (n : Nat) (hA : A = #[Value.agg #[vi 17, vq, vq, vq]]) (hnd : ([] : List Nat).Nodup) (hlt : ∀ k ∈ ([] : List Nat), k < n) : Zgm A   n :=
 Zn hA (LSpec.callL (show LSpec Tryz.prog 30 #[Value.agg #[vi 17, vq, vq, vq]] [] (vT) [] from ZpG  N _ h) [] n [] rfl hnd hlt (show 0 ≤ 0 from by decide) (show ∀ j ∈ ([] : List Nat), j < 0 from by decide) (by rfl) trivial (by rfl) trivial trivial rfl rfl rfl rfl rfl)

noncomputable def ZmN (a0 a1 a2 a3 a4 : Int) : ZZ → Value
 | .r0 => vq
 | .r1 => vi 120
noncomputable def ZlA (a0 a1 a2 a3 a4 : Int) : ZZ → List (Option AObj)
 | .r0 => [some (.cells [vi 10, vq, vq, vq, vi 1, vi 1, vi a0, vq, vi 1, vi 6, vi a1, vq, vi 15, vq, vq, vq, vi 13, vi 3, vq, vi a2, vi 9, vi 3, vi 13, vq, vi 13, vi 4, vi 3, vi 1, vi 7, vi 5, vi 4, vi 1, vi 9, vi 5, vi 11, vq, vi 14, vi 3, vi 2, vi 6, vi 8, vi 19, vq, vq, vi 13, vi 3, vi 3, vq, vi 8, vi 5, vq, vq, vi 11, vi 2, vi 3, vi 1, vi 14, vi 2, vi 1, vi 1, vi 14, vi 2, vi 2, vi 6, vi 13, vi 3, vq, vi a3, vi 14, vi 2, vq, vi 3, vi 14, vq, vi a4, vi 2, vi 17, vq, vq, vq] 43)]
 | .r1 => [some (.cells [vi 10, vq, vq, vq, vi 1, vi 1, vi a0, vq, vi 1, vi 6, vi a1, vq, vi 15, vq, vq, vq, vi 13, vi 3, vq, vi a2, vi 9, vi 3, vi 13, vq, vi 13, vi 4, vi 3, vi 1, vi 7, vi 5, vi 4, vi 1, vi 9, vi 5, vi 11, vq, vi 14, vi 3, vi 2, vi 6, vi 8, vi 19, vq, vq, vi 13, vi 3, vi 3, vq, vi 8, vi 5, vq, vq, vi 11, vi 2, vi 3, vi 1, vi 14, vi 2, vi 1, vi 1, vi 14, vi 2, vi 2, vi 6, vi 13, vi 3, vq, vi a3, vi 14, vi 2, vq, vi 3, vi 14, vq, vi a4, vi 2, vi 17, vq, vq, vq] 43)]

theorem ZrA (a0 a1 a2 a3 a4 : Int) (N : Nat) : Gx Tryz.prog 13 [.cells [vi 10, vq, vq, vq, vi 1, vi 1, vi a0, vq, vi 1, vi 6, vi a1, vq, vi 15, vq, vq, vq, vi 13, vi 3, vq, vi a2, vi 9, vi 3, vi 13, vq, vi 13, vi 4, vi 3, vi 1, vi 7, vi 5, vi 4, vi 1, vi 9, vi 5, vi 11, vq, vi 14, vi 3, vi 2, vi 6, vi 8, vi 19, vq, vq, vi 13, vi 3, vi 3, vq, vi 8, vi 5, vq, vq, vi 11, vi 2, vi 3, vi 1, vi 14, vi 2, vi 1, vi 1, vi 14, vi 2, vi 2, vi 6, vi 13, vi 3, vq, vi a3, vi 14, vi 2, vq, vi 3, vi 14, vq, vi a4, vi 2, vi 17, vq, vq, vq] 43] #[vs 0 0 20 20] (ZmN a0 a1 a2 a3 a4) (ZlA a0 a1 a2 a3 a4) (ZdL a0 a1 a2 a3 a4 N) := by
 unfold ZdL
 refine Ze (fun z0 c0 => ?_)
 cases z0 with
 | r0 =>
  refine Ze (fun z1 c1 => ?_)
  cases z1 with
  | r0 =>
   refine Ze (fun z2 c2 => ?_)
   cases z2 with
   | r0 =>
    refine Ze (fun z3 c3 => ?_)
    cases z3 with
    | r0 =>
     refine Ze (fun z4 c4 => ?_)
     cases z4 with
     | r0 =>
      refine Ze (fun z5 c5 => ?_)
      cases z5 with
      | r0 =>
       refine Ze (fun z6 c6 => ?_)
       cases z6 with
       | r0 =>
        refine Ze (fun z7 c7 => ?_)
        cases z7 with
        | r0 =>
         refine Ze (fun z8 c8 => ?_)
         cases z8 with
         | r0 =>
          refine Ze (fun z9 c9 => ?_)
          cases z9 with
          | r0 =>
           refine Ze (fun z10 c10 => ?_)
           cases z10 with
           | r0 =>
            refine Ze (fun z11 c11 => ?_)
            cases z11 with
            | r0 =>
             refine Ze (fun z12 c12 => ?_)
             cases z12 with
             | r0 =>
              refine Ze (fun z13 c13 => ?_)
              cases z13 with
              | r0 =>
               refine Ze (fun z14 c14 => ?_)
               cases z14 with
               | r0 =>
                refine Ze (fun z15 c15 => ?_)
                cases z15 with
                | r0 =>
                 refine Ze (fun z16 c16 => ?_)
                 cases z16 with
                 | r0 =>
                  refine Ze (fun z17 c17 => ?_)
                  cases z17 with
                  | r0 =>
                   refine Ze (fun z18 c18 => ?_)
                   cases z18 with
                   | r0 =>
                    refine Ze (fun z19 c19 => ?_)
                    cases z19 with
                    | r0 =>
                     exact Zi Zj (r := (.r0 : ZZ)) (fu := 4000) (orc := (Zl [] [] [] [] [(0, (Zbk     2)), (1, (Zby (a0)    3)), (2, (Zg0 (a1)    4)), (5, (ZbL     8)), (6, (ZbY (a2)    9)), (7, (Zi4     10)), (8, (ZcP     11)), (9, (Zeu     12)), (10, (Zi6     13)), (11, (ZhE     14)), (12, (ZhG     15)), (13, (Zgg     16)), (14, (ZhI     17)), (15, (ZhK     18)), (16, (ZhM     19)), (17, (ZhO     20)), (18, (ZbY (a3)    21)), (19, (Zl2     22)), (20, (Zl5 (a4)    23)), (22, (ZhT     24))])) (live := [0]) (u := vq) (bl := [some (.cells [vi 10, vq, vq, vq, vi 1, vi 1, vi a0, vq, vi 1, vi 6, vi a1, vq, vi 15, vq, vq, vq, vi 13, vi 3, vq, vi a2, vi 9, vi 3, vi 13, vq, vi 13, vi 4, vi 3, vi 1, vi 7, vi 5, vi 4, vi 1, vi 9, vi 5, vi 11, vq, vi 14, vi 3, vi 2, vi 6, vi 8, vi 19, vq, vq, vi 13, vi 3, vi 3, vq, vi 8, vi 5, vq, vq, vi 11, vi 2, vi 3, vi 1, vi 14, vi 2, vi 1, vi 1, vi 14, vi 2, vi 2, vi 6, vi 13, vi 3, vq, vi a3, vi 14, vi 2, vq, vi 3, vi 14, vq, vi a4, vi 2, vi 17, vq, vq, vq] 43)]) (ob := [(dP (Zgm #[Value.agg #[vi 17, vq, vq, vq]]     24), true), (dP (ZhR #[Value.agg #[vi 14, vq, vi a4, vi 2]] (a4)    23), true), (dP (ZhQ #[Value.agg #[vi 14, vi 2, vq, vi 3]]     22), true), (dP (ZbN #[Value.agg #[vi 13, vi 3, vq, vi a3]] (a3)    21), true), (dP (Zgl #[Value.agg #[vi 14, vi 2, vi 2, vi 6]]     20), true), (dP (Zgk #[Value.agg #[vi 14, vi 2, vi 1, vi 1]]     19), true), (dP (Zgj #[Value.agg #[vi 11, vi 2, vi 3, vi 1]]     18), true), (dP (Zgi #[Value.agg #[vi 8, vi 5, vq, vq]]     17), true), (dP (ZeM #[Value.agg #[vi 13, vi 3, vi 3, vq]]     16), true), (dP (Zgf #[Value.agg #[vi 8, vi 19, vq, vq]]     15), true), (dP (Zge #[Value.agg #[vi 14, vi 3, vi 2, vi 6]]     14), true), (dP (Zg5 #[Value.agg #[vi 9, vi 5, vi 11, vq]]     13), true), (dP (ZcR #[Value.agg #[vi 7, vi 5, vi 4, vi 1]]     12), true), (dP (Zca #[Value.agg #[vi 13, vi 4, vi 3, vi 1]]     11), true), (dP (Zg4 #[Value.agg #[vi 9, vi 3, vi 13, vq]]     10), true), (dP (ZbN #[Value.agg #[vi 13, vi 3, vq, vi a2]] (a2)    9), true), (dP (Zb0 #[Value.agg #[vi 15, vq, vq, vq]]     8), true), (dP (Zfo #[Value.agg #[vi 1, vi 6, vi a1, vq]] (a1)    4), true), (dP (Zbq #[Value.agg #[vi 1, vi 1, vi a0, vq]] (a0)    3), true), (dP (ZaW #[Value.agg #[vi 10, vq, vq, vq]]     2), true)]) (by kernel_rfl) (Zb (Zc (ZhU #[Value.agg #[vi 17, vq, vq, vq]]    N c19  24 rfl (by decide) (by decide))) <| Zb (Zc (Zl6 #[Value.agg #[vi 14, vq, vi a4, vi 2]] (a4)   N c18  23 rfl (by decide) (by decide))) <| Zb (Zc (Zl3 #[Value.agg #[vi 14, vi 2, vq, vi 3]]    N c17  22 rfl (by decide) (by decide))) <| Zb (Zc (ZbZ #[Value.agg #[vi 13, vi 3, vq, vi a3]] (a3)   N c16  21 rfl (by decide) (by decide))) <| Zb (Zc (ZhP #[Value.agg #[vi 14, vi 2, vi 2, vi 6]]    N c15  20 rfl (by decide) (by decide))) <| Zb (Zc (ZhN #[Value.agg #[vi 14, vi 2, vi 1, vi 1]]    N c14  19 rfl (by decide) (by decide))) <| Zb (Zc (ZhL #[Value.agg #[vi 11, vi 2, vi 3, vi 1]]    N c13  18 rfl (by decide) (by decide))) <| Zb (Zc (ZhJ #[Value.agg #[vi 8, vi 5, vq, vq]]    N c12  17 rfl (by decide) (by decide))) <| Zb (Zc (Zgh #[Value.agg #[vi 13, vi 3, vi 3, vq]]    N c11  16 rfl (by decide) (by decide))) <| Zb (Zc (ZhH #[Value.agg #[vi 8, vi 19, vq, vq]]    N c10  15 rfl (by decide) (by decide))) <| Zb (Zc (ZhF #[Value.agg #[vi 14, vi 3, vi 2, vi 6]]    N c9  14 rfl (by decide) (by decide))) <| Zb (Zc (Zi7 #[Value.agg #[vi 9, vi 5, vi 11, vq]]    N c8  13 rfl (by decide) (by decide))) <| Zb (Zc (Zev #[Value.agg #[vi 7, vi 5, vi 4, vi 1]]    N c7  12 rfl (by decide) (by decide))) <| Zb (Zc (ZcQ #[Value.agg #[vi 13, vi 4, vi 3, vi 1]]    N c6  11 rfl (by decide) (by decide))) <| Zb (Zc (Zi5 #[Value.agg #[vi 9, vi 3, vi 13, vq]]    N c5  10 rfl (by decide) (by decide))) <| Zb (Zc (ZbZ #[Value.agg #[vi 13, vi 3, vq, vi a2]] (a2)   N c4  9 rfl (by decide) (by decide))) <| Zb (Zc (ZbM #[Value.agg #[vi 15, vq, vq, vq]]    N c3  8 rfl (by decide) (by decide))) <| Zb (Zc (Zg1 #[Value.agg #[vi 1, vi 6, vi a1, vq]] (a1)   N c2  4 rfl (by decide) (by decide))) <| Zb (Zc (Zbz #[Value.agg #[vi 1, vi 1, vi a0, vq]] (a0)   N c1  3 rfl (by decide) (by decide))) <| Zb (Zc (Zbl #[Value.agg #[vi 10, vq, vq, vq]]    N c0  2 rfl (by decide) (by decide))) Zf) rfl (by decide) (by rfl) rr ⟨⟨rfl, ⟨[], by rfl⟩, by rfl⟩, trivial⟩ (Zh _ rfl)
                   | r1 =>
                    exact Zi Zj (r := (.r1 : ZZ)) (fu := 4000) (orc := (Zl [(153, false)] [] [] [] [(0, (Zbk     2)), (1, (Zby (a0)    3)), (2, (Zg0 (a1)    4)), (5, (ZbL     8)), (6, (ZbY (a2)    9)), (7, (Zi4     10)), (8, (ZcP     11)), (9, (Zeu     12)), (10, (Zi6     13)), (11, (ZhE     14)), (12, (ZhG     15)), (13, (Zgg     16)), (14, (ZhI     17)), (15, (ZhK     18)), (16, (ZhM     19)), (17, (ZhO     20)), (18, (ZbY (a3)    21)), (19, (Zl2     22)), (20, (Zl7 (a4)    23))])) (live := [0]) (u := vi 120) (bl := [some (.cells [vi 10, vq, vq, vq, vi 1, vi 1, vi a0, vq, vi 1, vi 6, vi a1, vq, vi 15, vq, vq, vq, vi 13, vi 3, vq, vi a2, vi 9, vi 3, vi 13, vq, vi 13, vi 4, vi 3, vi 1, vi 7, vi 5, vi 4, vi 1, vi 9, vi 5, vi 11, vq, vi 14, vi 3, vi 2, vi 6, vi 8, vi 19, vq, vq, vi 13, vi 3, vi 3, vq, vi 8, vi 5, vq, vq, vi 11, vi 2, vi 3, vi 1, vi 14, vi 2, vi 1, vi 1, vi 14, vi 2, vi 2, vi 6, vi 13, vi 3, vq, vi a3, vi 14, vi 2, vq, vi 3, vi 14, vq, vi a4, vi 2, vi 17, vq, vq, vq] 43)]) (ob := [((((14 : Int) == (15 : Int)) && (((0 : Int) == (0 : Int)) && ((a4 == (0 : Int)) && (((2 : Int) == (0 : Int)) && true)))), false), (dP (ZhS #[Value.agg #[vi 14, vq, vi a4, vi 2]] (a4)    23), true), (dP (ZhQ #[Value.agg #[vi 14, vi 2, vq, vi 3]]     22), true), (dP (ZbN #[Value.agg #[vi 13, vi 3, vq, vi a3]] (a3)    21), true), (dP (Zgl #[Value.agg #[vi 14, vi 2, vi 2, vi 6]]     20), true), (dP (Zgk #[Value.agg #[vi 14, vi 2, vi 1, vi 1]]     19), true), (dP (Zgj #[Value.agg #[vi 11, vi 2, vi 3, vi 1]]     18), true), (dP (Zgi #[Value.agg #[vi 8, vi 5, vq, vq]]     17), true), (dP (ZeM #[Value.agg #[vi 13, vi 3, vi 3, vq]]     16), true), (dP (Zgf #[Value.agg #[vi 8, vi 19, vq, vq]]     15), true), (dP (Zge #[Value.agg #[vi 14, vi 3, vi 2, vi 6]]     14), true), (dP (Zg5 #[Value.agg #[vi 9, vi 5, vi 11, vq]]     13), true), (dP (ZcR #[Value.agg #[vi 7, vi 5, vi 4, vi 1]]     12), true), (dP (Zca #[Value.agg #[vi 13, vi 4, vi 3, vi 1]]     11), true), (dP (Zg4 #[Value.agg #[vi 9, vi 3, vi 13, vq]]     10), true), (dP (ZbN #[Value.agg #[vi 13, vi 3, vq, vi a2]] (a2)    9), true), (dP (Zb0 #[Value.agg #[vi 15, vq, vq, vq]]     8), true), (dP (Zfo #[Value.agg #[vi 1, vi 6, vi a1, vq]] (a1)    4), true), (dP (Zbq #[Value.agg #[vi 1, vi 1, vi a0, vq]] (a0)    3), true), (dP (ZaW #[Value.agg #[vi 10, vq, vq, vq]]     2), true)]) (by kernel_rfl) (Zb (Bool.eq_false_iff.2 (by simp only [ne_eq, Bool.and_true, Bool.and_eq_true, beq_iff_eq]; first | omega | (intro hh; simp_all; done) | (intro hh; grind))) <| Zb (Zc (Zl8 #[Value.agg #[vi 14, vq, vi a4, vi 2]] (a4)   N c18  23 rfl (by decide) (by decide))) <| Zb (Zc (Zl3 #[Value.agg #[vi 14, vi 2, vq, vi 3]]    N c17  22 rfl (by decide) (by decide))) <| Zb (Zc (ZbZ #[Value.agg #[vi 13, vi 3, vq, vi a3]] (a3)   N c16  21 rfl (by decide) (by decide))) <| Zb (Zc (ZhP #[Value.agg #[vi 14, vi 2, vi 2, vi 6]]    N c15  20 rfl (by decide) (by decide))) <| Zb (Zc (ZhN #[Value.agg #[vi 14, vi 2, vi 1, vi 1]]    N c14  19 rfl (by decide) (by decide))) <| Zb (Zc (ZhL #[Value.agg #[vi 11, vi 2, vi 3, vi 1]]    N c13  18 rfl (by decide) (by decide))) <| Zb (Zc (ZhJ #[Value.agg #[vi 8, vi 5, vq, vq]]    N c12  17 rfl (by decide) (by decide))) <| Zb (Zc (Zgh #[Value.agg #[vi 13, vi 3, vi 3, vq]]    N c11  16 rfl (by decide) (by decide))) <| Zb (Zc (ZhH #[Value.agg #[vi 8, vi 19, vq, vq]]    N c10  15 rfl (by decide) (by decide))) <| Zb (Zc (ZhF #[Value.agg #[vi 14, vi 3, vi 2, vi 6]]    N c9  14 rfl (by decide) (by decide))) <| Zb (Zc (Zi7 #[Value.agg #[vi 9, vi 5, vi 11, vq]]    N c8  13 rfl (by decide) (by decide))) <| Zb (Zc (Zev #[Value.agg #[vi 7, vi 5, vi 4, vi 1]]    N c7  12 rfl (by decide) (by decide))) <| Zb (Zc (ZcQ #[Value.agg #[vi 13, vi 4, vi 3, vi 1]]    N c6  11 rfl (by decide) (by decide))) <| Zb (Zc (Zi5 #[Value.agg #[vi 9, vi 3, vi 13, vq]]    N c5  10 rfl (by decide) (by decide))) <| Zb (Zc (ZbZ #[Value.agg #[vi 13, vi 3, vq, vi a2]] (a2)   N c4  9 rfl (by decide) (by decide))) <| Zb (Zc (ZbM #[Value.agg #[vi 15, vq, vq, vq]]    N c3  8 rfl (by decide) (by decide))) <| Zb (Zc (Zg1 #[Value.agg #[vi 1, vi 6, vi a1, vq]] (a1)   N c2  4 rfl (by decide) (by decide))) <| Zb (Zc (Zbz #[Value.agg #[vi 1, vi 1, vi a0, vq]] (a0)   N c1  3 rfl (by decide) (by decide))) <| Zb (Zc (Zbl #[Value.agg #[vi 10, vq, vq, vq]]    N c0  2 rfl (by decide) (by decide))) Zf) rfl (by decide) (by rfl) rr ⟨⟨rfl, ⟨[], by rfl⟩, by rfl⟩, trivial⟩ (Zh _ rfl)
                 | r1 =>
                  exact Zi Zj (r := (.r1 : ZZ)) (fu := 4000) (orc := (Zl [(137, false)] [] [] [] [(0, (Zbk     2)), (1, (Zby (a0)    3)), (2, (Zg0 (a1)    4)), (5, (ZbL     8)), (6, (ZbY (a2)    9)), (7, (Zi4     10)), (8, (ZcP     11)), (9, (Zeu     12)), (10, (Zi6     13)), (11, (ZhE     14)), (12, (ZhG     15)), (13, (Zgg     16)), (14, (ZhI     17)), (15, (ZhK     18)), (16, (ZhM     19)), (17, (ZhO     20)), (18, (Zg2 (a3)    21))])) (live := [0]) (u := vi 120) (bl := [some (.cells [vi 10, vq, vq, vq, vi 1, vi 1, vi a0, vq, vi 1, vi 6, vi a1, vq, vi 15, vq, vq, vq, vi 13, vi 3, vq, vi a2, vi 9, vi 3, vi 13, vq, vi 13, vi 4, vi 3, vi 1, vi 7, vi 5, vi 4, vi 1, vi 9, vi 5, vi 11, vq, vi 14, vi 3, vi 2, vi 6, vi 8, vi 19, vq, vq, vi 13, vi 3, vi 3, vq, vi 8, vi 5, vq, vq, vi 11, vi 2, vi 3, vi 1, vi 14, vi 2, vi 1, vi 1, vi 14, vi 2, vi 2, vi 6, vi 13, vi 3, vq, vi a3, vi 14, vi 2, vq, vi 3, vi 14, vq, vi a4, vi 2, vi 17, vq, vq, vq] 43)]) (ob := [((((13 : Int) == (15 : Int)) && (((3 : Int) == (0 : Int)) && (((0 : Int) == (0 : Int)) && ((a3 == (0 : Int)) && true)))), false), (dP (Zfp #[Value.agg #[vi 13, vi 3, vq, vi a3]] (a3)    21), true), (dP (Zgl #[Value.agg #[vi 14, vi 2, vi 2, vi 6]]     20), true), (dP (Zgk #[Value.agg #[vi 14, vi 2, vi 1, vi 1]]     19), true), (dP (Zgj #[Value.agg #[vi 11, vi 2, vi 3, vi 1]]     18), true), (dP (Zgi #[Value.agg #[vi 8, vi 5, vq, vq]]     17), true), (dP (ZeM #[Value.agg #[vi 13, vi 3, vi 3, vq]]     16), true), (dP (Zgf #[Value.agg #[vi 8, vi 19, vq, vq]]     15), true), (dP (Zge #[Value.agg #[vi 14, vi 3, vi 2, vi 6]]     14), true), (dP (Zg5 #[Value.agg #[vi 9, vi 5, vi 11, vq]]     13), true), (dP (ZcR #[Value.agg #[vi 7, vi 5, vi 4, vi 1]]     12), true), (dP (Zca #[Value.agg #[vi 13, vi 4, vi 3, vi 1]]     11), true), (dP (Zg4 #[Value.agg #[vi 9, vi 3, vi 13, vq]]     10), true), (dP (ZbN #[Value.agg #[vi 13, vi 3, vq, vi a2]] (a2)    9), true), (dP (Zb0 #[Value.agg #[vi 15, vq, vq, vq]]     8), true), (dP (Zfo #[Value.agg #[vi 1, vi 6, vi a1, vq]] (a1)    4), true), (dP (Zbq #[Value.agg #[vi 1, vi 1, vi a0, vq]] (a0)    3), true), (dP (ZaW #[Value.agg #[vi 10, vq, vq, vq]]     2), true)]) (by kernel_rfl) (Zb (Bool.eq_false_iff.2 (by simp only [ne_eq, Bool.and_true, Bool.and_eq_true, beq_iff_eq]; first | omega | (intro hh; simp_all; done) | (intro hh; grind))) <| Zb (Zc (Zg3 #[Value.agg #[vi 13, vi 3, vq, vi a3]] (a3)   N c16  21 rfl (by decide) (by decide))) <| Zb (Zc (ZhP #[Value.agg #[vi 14, vi 2, vi 2, vi 6]]    N c15  20 rfl (by decide) (by decide))) <| Zb (Zc (ZhN #[Value.agg #[vi 14, vi 2, vi 1, vi 1]]    N c14  19 rfl (by decide) (by decide))) <| Zb (Zc (ZhL #[Value.agg #[vi 11, vi 2, vi 3, vi 1]]    N c13  18 rfl (by decide) (by decide))) <| Zb (Zc (ZhJ #[Value.agg #[vi 8, vi 5, vq, vq]]    N c12  17 rfl (by decide) (by decide))) <| Zb (Zc (Zgh #[Value.agg #[vi 13, vi 3, vi 3, vq]]    N c11  16 rfl (by decide) (by decide))) <| Zb (Zc (ZhH #[Value.agg #[vi 8, vi 19, vq, vq]]    N c10  15 rfl (by decide) (by decide))) <| Zb (Zc (ZhF #[Value.agg #[vi 14, vi 3, vi 2, vi 6]]    N c9  14 rfl (by decide) (by decide))) <| Zb (Zc (Zi7 #[Value.agg #[vi 9, vi 5, vi 11, vq]]    N c8  13 rfl (by decide) (by decide))) <| Zb (Zc (Zev #[Value.agg #[vi 7, vi 5, vi 4, vi 1]]    N c7  12 rfl (by decide) (by decide))) <| Zb (Zc (ZcQ #[Value.agg #[vi 13, vi 4, vi 3, vi 1]]    N c6  11 rfl (by decide) (by decide))) <| Zb (Zc (Zi5 #[Value.agg #[vi 9, vi 3, vi 13, vq]]    N c5  10 rfl (by decide) (by decide))) <| Zb (Zc (ZbZ #[Value.agg #[vi 13, vi 3, vq, vi a2]] (a2)   N c4  9 rfl (by decide) (by decide))) <| Zb (Zc (ZbM #[Value.agg #[vi 15, vq, vq, vq]]    N c3  8 rfl (by decide) (by decide))) <| Zb (Zc (Zg1 #[Value.agg #[vi 1, vi 6, vi a1, vq]] (a1)   N c2  4 rfl (by decide) (by decide))) <| Zb (Zc (Zbz #[Value.agg #[vi 1, vi 1, vi a0, vq]] (a0)   N c1  3 rfl (by decide) (by decide))) <| Zb (Zc (Zbl #[Value.agg #[vi 10, vq, vq, vq]]    N c0  2 rfl (by decide) (by decide))) Zf) rfl (by decide) (by rfl) rr ⟨⟨rfl, ⟨[], by rfl⟩, by rfl⟩, trivial⟩ (Zh _ rfl)
     | r1 =>
      exact Zi Zj (r := (.r1 : ZZ)) (fu := 4000) (orc := (Zl [(41, false)] [] [] [] [(0, (Zbk     2)), (1, (Zby (a0)    3)), (2, (Zg0 (a1)    4)), (5, (ZbL     8)), (6, (Zg2 (a2)    9))])) (live := [0]) (u := vi 120) (bl := [some (.cells [vi 10, vq, vq, vq, vi 1, vi 1, vi a0, vq, vi 1, vi 6, vi a1, vq, vi 15, vq, vq, vq, vi 13, vi 3, vq, vi a2, vi 9, vi 3, vi 13, vq, vi 13, vi 4, vi 3, vi 1, vi 7, vi 5, vi 4, vi 1, vi 9, vi 5, vi 11, vq, vi 14, vi 3, vi 2, vi 6, vi 8, vi 19, vq, vq, vi 13, vi 3, vi 3, vq, vi 8, vi 5, vq, vq, vi 11, vi 2, vi 3, vi 1, vi 14, vi 2, vi 1, vi 1, vi 14, vi 2, vi 2, vi 6, vi 13, vi 3, vq, vi a3, vi 14, vi 2, vq, vi 3, vi 14, vq, vi a4, vi 2, vi 17, vq, vq, vq] 43)]) (ob := [((((13 : Int) == (15 : Int)) && (((3 : Int) == (0 : Int)) && (((0 : Int) == (0 : Int)) && ((a2 == (0 : Int)) && true)))), false), (dP (Zfp #[Value.agg #[vi 13, vi 3, vq, vi a2]] (a2)    9), true), (dP (Zb0 #[Value.agg #[vi 15, vq, vq, vq]]     8), true), (dP (Zfo #[Value.agg #[vi 1, vi 6, vi a1, vq]] (a1)    4), true), (dP (Zbq #[Value.agg #[vi 1, vi 1, vi a0, vq]] (a0)    3), true), (dP (ZaW #[Value.agg #[vi 10, vq, vq, vq]]     2), true)]) (by kernel_rfl) (Zb (Bool.eq_false_iff.2 (by simp only [ne_eq, Bool.and_true, Bool.and_eq_true, beq_iff_eq]; first | omega | (intro hh; simp_all; done) | (intro hh; grind))) <| Zb (Zc (Zg3 #[Value.agg #[vi 13, vi 3, vq, vi a2]] (a2)   N c4  9 rfl (by decide) (by decide))) <| Zb (Zc (ZbM #[Value.agg #[vi 15, vq, vq, vq]]    N c3  8 rfl (by decide) (by decide))) <| Zb (Zc (Zg1 #[Value.agg #[vi 1, vi 6, vi a1, vq]] (a1)   N c2  4 rfl (by decide) (by decide))) <| Zb (Zc (Zbz #[Value.agg #[vi 1, vi 1, vi a0, vq]] (a0)   N c1  3 rfl (by decide) (by decide))) <| Zb (Zc (Zbl #[Value.agg #[vi 10, vq, vq, vq]]    N c0  2 rfl (by decide) (by decide))) Zf) rfl (by decide) (by rfl) rr ⟨⟨rfl, ⟨[], by rfl⟩, by rfl⟩, trivial⟩ (Zh _ rfl)
   | r1 =>
    exact Zi Zj (r := (.r1 : ZZ)) (fu := 4000) (orc := (Zl [(28, false)] [] [] [] [(0, (Zbk     2)), (1, (Zby (a0)    3)), (2, (Ztj (a1)    4))])) (live := [0]) (u := vi 120) (bl := [some (.cells [vi 10, vq, vq, vq, vi 1, vi 1, vi a0, vq, vi 1, vi 6, vi a1, vq, vi 15, vq, vq, vq, vi 13, vi 3, vq, vi a2, vi 9, vi 3, vi 13, vq, vi 13, vi 4, vi 3, vi 1, vi 7, vi 5, vi 4, vi 1, vi 9, vi 5, vi 11, vq, vi 14, vi 3, vi 2, vi 6, vi 8, vi 19, vq, vq, vi 13, vi 3, vi 3, vq, vi 8, vi 5, vq, vq, vi 11, vi 2, vi 3, vi 1, vi 14, vi 2, vi 1, vi 1, vi 14, vi 2, vi 2, vi 6, vi 13, vi 3, vq, vi a3, vi 14, vi 2, vq, vi 3, vi 14, vq, vi a4, vi 2, vi 17, vq, vq, vq] 43)]) (ob := [((((1 : Int) == (15 : Int)) && (((6 : Int) == (0 : Int)) && ((a1 == (0 : Int)) && (((0 : Int) == (0 : Int)) && true)))), false), (dP (Zm6 #[Value.agg #[vi 1, vi 6, vi a1, vq]] (a1)    4), true), (dP (Zbq #[Value.agg #[vi 1, vi 1, vi a0, vq]] (a0)    3), true), (dP (ZaW #[Value.agg #[vi 10, vq, vq, vq]]     2), true)]) (by kernel_rfl) (Zb (Bool.eq_false_iff.2 (by simp only [ne_eq, Bool.and_true, Bool.and_eq_true, beq_iff_eq]; first | omega | (intro hh; simp_all; done) | (intro hh; grind))) <| Zb (Zc (Ztk #[Value.agg #[vi 1, vi 6, vi a1, vq]] (a1)   N c2  4 rfl (by decide) (by decide))) <| Zb (Zc (Zbz #[Value.agg #[vi 1, vi 1, vi a0, vq]] (a0)   N c1  3 rfl (by decide) (by decide))) <| Zb (Zc (Zbl #[Value.agg #[vi 10, vq, vq, vq]]    N c0  2 rfl (by decide) (by decide))) Zf) rfl (by decide) (by rfl) rr ⟨⟨rfl, ⟨[], by rfl⟩, by rfl⟩, trivial⟩ (Zh _ rfl)
  | r1 =>
   exact Zi Zj (r := (.r1 : ZZ)) (fu := 4000) (orc := (Zl [(20, false)] [] [] [] [(0, (Zbk     2)), (1, (Zi2 (a0)    3))])) (live := [0]) (u := vi 120) (bl := [some (.cells [vi 10, vq, vq, vq, vi 1, vi 1, vi a0, vq, vi 1, vi 6, vi a1, vq, vi 15, vq, vq, vq, vi 13, vi 3, vq, vi a2, vi 9, vi 3, vi 13, vq, vi 13, vi 4, vi 3, vi 1, vi 7, vi 5, vi 4, vi 1, vi 9, vi 5, vi 11, vq, vi 14, vi 3, vi 2, vi 6, vi 8, vi 19, vq, vq, vi 13, vi 3, vi 3, vq, vi 8, vi 5, vq, vq, vi 11, vi 2, vi 3, vi 1, vi 14, vi 2, vi 1, vi 1, vi 14, vi 2, vi 2, vi 6, vi 13, vi 3, vq, vi a3, vi 14, vi 2, vq, vi 3, vi 14, vq, vi a4, vi 2, vi 17, vq, vq, vq] 43)]) (ob := [((((1 : Int) == (15 : Int)) && (((1 : Int) == (0 : Int)) && ((a0 == (0 : Int)) && (((0 : Int) == (0 : Int)) && true)))), false), (dP (Zgz #[Value.agg #[vi 1, vi 1, vi a0, vq]] (a0)    3), true), (dP (ZaW #[Value.agg #[vi 10, vq, vq, vq]]     2), true)]) (by kernel_rfl) (Zb (Bool.eq_false_iff.2 (by simp only [ne_eq, Bool.and_true, Bool.and_eq_true, beq_iff_eq]; first | omega | (intro hh; simp_all; done) | (intro hh; grind))) <| Zb (Zc (Zi3 #[Value.agg #[vi 1, vi 1, vi a0, vq]] (a0)   N c1  3 rfl (by decide) (by decide))) <| Zb (Zc (Zbl #[Value.agg #[vi 10, vq, vq, vq]]    N c0  2 rfl (by decide) (by decide))) Zf) rfl (by decide) (by rfl) rr ⟨⟨rfl, ⟨[], by rfl⟩, by rfl⟩, trivial⟩ (Zh _ rfl)

theorem ZpH (a0 a1 a2 a3 a4 : Int) (N : Nat) (r : ZZ) (h : ZdL a0 a1 a2 a3 a4 N = some r) : LSpec Tryz.prog 13 #[vs 0 0 20 20] [.cells [vi 10, vq, vq, vq, vi 1, vi 1, vi a0, vq, vi 1, vi 6, vi a1, vq, vi 15, vq, vq, vq, vi 13, vi 3, vq, vi a2, vi 9, vi 3, vi 13, vq, vi 13, vi 4, vi 3, vi 1, vi 7, vi 5, vi 4, vi 1, vi 9, vi 5, vi 11, vq, vi 14, vi 3, vi 2, vi 6, vi 8, vi 19, vq, vq, vi 13, vi 3, vi 3, vq, vi 8, vi 5, vq, vq, vi 11, vi 2, vi 3, vi 1, vi 14, vi 2, vi 1, vi 1, vi 14, vi 2, vi 2, vi 6, vi 13, vi 3, vq, vi a3, vi 14, vi 2, vq, vi 3, vi 14, vq, vi a4, vi 2, vi 17, vq, vq, vq] 43] (ZmN a0 a1 a2 a3 a4 r) (ZlA a0 a1 a2 a3 a4 r) :=
 (ZrA a0 a1 a2 a3 a4 N) r h

noncomputable def ZlB (a0 a1 a2 a3 a4 : Int) (k0 n : Nat) : ZB := .call [(k0, .cells [vi 10, vq, vq, vq, vi 1, vi 1, vi a0, vq, vi 1, vi 6, vi a1, vq, vi 15, vq, vq, vq, vi 13, vi 3, vq, vi a2, vi 9, vi 3, vi 13, vq, vi 13, vi 4, vi 3, vi 1, vi 7, vi 5, vi 4, vi 1, vi 9, vi 5, vi 11, vq, vi 14, vi 3, vi 2, vi 6, vi 8, vi 19, vq, vq, vi 13, vi 3, vi 3, vq, vi 8, vi 5, vq, vq, vi 11, vi 2, vi 3, vi 1, vi 14, vi 2, vi 1, vi 1, vi 14, vi 2, vi 2, vi 6, vi 13, vi 3, vq, vi a3, vi 14, vi 2, vq, vi 3, vi 14, vq, vi a4, vi 2, vi 17, vq, vq, vq] 43)] (vq) [] 0
def ZhV (A : Array Value) (a0 a1 a2 a3 a4 : Int) (k0 n : Nat) : Prop := Zk Tryz.prog 13 A [(k0, .cells [vi 10, vq, vq, vq, vi 1, vi 1, vi a0, vq, vi 1, vi 6, vi a1, vq, vi 15, vq, vq, vq, vi 13, vi 3, vq, vi a2, vi 9, vi 3, vi 13, vq, vi 13, vi 4, vi 3, vi 1, vi 7, vi 5, vi 4, vi 1, vi 9, vi 5, vi 11, vq, vi 14, vi 3, vi 2, vi 6, vi 8, vi 19, vq, vq, vi 13, vi 3, vi 3, vq, vi 8, vi 5, vq, vq, vi 11, vi 2, vi 3, vi 1, vi 14, vi 2, vi 1, vi 1, vi 14, vi 2, vi 2, vi 6, vi 13, vi 3, vq, vi a3, vi 14, vi 2, vq, vi 3, vi 14, vq, vi a4, vi 2, vi 17, vq, vq, vq] 43)] (vq) [] n 0

theorem ZlC (A : Array Value) (a0 a1 a2 a3 a4 : Int) (N : Nat) (h : ZdL a0 a1 a2 a3 a4 N = some (.r0)) (k0 n : Nat) (hA : A = #[vs k0 0 20 20]) (hnd : ([k0] : List Nat).Nodup) (hlt : ∀ k ∈ ([k0] : List Nat), k < n) : ZhV A a0 a1 a2 a3 a4 k0 n :=
 Zn hA (LSpec.callL (show LSpec Tryz.prog 13 #[vs 0 0 20 20] [.cells [vi 10, vq, vq, vq, vi 1, vi 1, vi a0, vq, vi 1, vi 6, vi a1, vq, vi 15, vq, vq, vq, vi 13, vi 3, vq, vi a2, vi 9, vi 3, vi 13, vq, vi 13, vi 4, vi 3, vi 1, vi 7, vi 5, vi 4, vi 1, vi 9, vi 5, vi 11, vq, vi 14, vi 3, vi 2, vi 6, vi 8, vi 19, vq, vq, vi 13, vi 3, vi 3, vq, vi 8, vi 5, vq, vq, vi 11, vi 2, vi 3, vi 1, vi 14, vi 2, vi 1, vi 1, vi 14, vi 2, vi 2, vi 6, vi 13, vi 3, vq, vi a3, vi 14, vi 2, vq, vi 3, vi 14, vq, vi a4, vi 2, vi 17, vq, vq, vq] 43] (vq) [some (.cells [vi 10, vq, vq, vq, vi 1, vi 1, vi a0, vq, vi 1, vi 6, vi a1, vq, vi 15, vq, vq, vq, vi 13, vi 3, vq, vi a2, vi 9, vi 3, vi 13, vq, vi 13, vi 4, vi 3, vi 1, vi 7, vi 5, vi 4, vi 1, vi 9, vi 5, vi 11, vq, vi 14, vi 3, vi 2, vi 6, vi 8, vi 19, vq, vq, vi 13, vi 3, vi 3, vq, vi 8, vi 5, vq, vq, vi 11, vi 2, vi 3, vi 1, vi 14, vi 2, vi 1, vi 1, vi 14, vi 2, vi 2, vi 6, vi 13, vi 3, vq, vi a3, vi 14, vi 2, vq, vi 3, vi 14, vq, vi a4, vi 2, vi 17, vq, vq, vq] 43)] from ZpH a0 a1 a2 a3 a4 N _ h) [k0] n [] rfl hnd hlt (show 1 ≤ 1 from by decide) (show ∀ j ∈ ([] : List Nat), j < 1 from by decide) (by rfl) ⟨rfl, trivial⟩ (by rfl) ⟨rfl, trivial⟩ ⟨.inr rfl, trivial⟩ rfl rfl rfl (Za (ZdH rfl rfl) rfl) rfl)

noncomputable def ZmO  : Zec → Value
 | .r0 => vT
noncomputable def ZlD  : Zec → List (Option AObj)
 | .r0 => []

theorem ZrB  (N : Nat) : Gx Tryz.prog 30 [] #[Value.agg #[vi 1, vi 7, vq, vq]] (ZmO ) (ZlD ) (ZfI  N) := by
 unfold ZfI
 exact Zi Zj (r := (.r0 : Zec)) (fu := 4000) (orc := (Zl [] [] [] [] [])) (live := []) (u := vT) (bl := []) (ob := []) (by kernel_rfl) Zf rfl (by decide) (by rfl) rr trivial (Zh _ rfl)

theorem ZpI  (N : Nat) (r : Zec) (h : ZfI  N = some r) : LSpec Tryz.prog 30 #[Value.agg #[vi 1, vi 7, vq, vq]] [] (ZmO  r) (ZlD  r) :=
 (ZrB  N) r h

noncomputable def ZlE  (n : Nat) : ZB := .call [] (vT) [] 0
def ZhW (A : Array Value)  (n : Nat) : Prop := Zk Tryz.prog 30 A [] (vT) [] n 0

theorem ZlF (A : Array Value)  (N : Nat) (h : ZfI  N = some (.r0)) (n : Nat) (hA : A = #[Value.agg #[vi 1, vi 7, vq, vq]]) (hnd : ([] : List Nat).Nodup) (hlt : ∀ k ∈ ([] : List Nat), k < n) : ZhW A   n :=
 Zn hA (LSpec.callL (show LSpec Tryz.prog 30 #[Value.agg #[vi 1, vi 7, vq, vq]] [] (vT) [] from ZpI  N _ h) [] n [] rfl hnd hlt (show 0 ≤ 0 from by decide) (show ∀ j ∈ ([] : List Nat), j < 0 from by decide) (by rfl) trivial (by rfl) trivial trivial rfl rfl rfl rfl rfl)

noncomputable def ZmP  : Zed → Value
 | .r0 => vT
noncomputable def ZlG  : Zed → List (Option AObj)
 | .r0 => []

theorem ZrC  (N : Nat) : Gx Tryz.prog 30 [] #[Value.agg #[vi 1, vi 6, vq, vq]] (ZmP ) (ZlG ) (ZfJ  N) := by
 unfold ZfJ
 exact Zi Zj (r := (.r0 : Zed)) (fu := 4000) (orc := (Zl [] [] [] [] [])) (live := []) (u := vT) (bl := []) (ob := []) (by kernel_rfl) Zf rfl (by decide) (by rfl) rr trivial (Zh _ rfl)

theorem ZpJ  (N : Nat) (r : Zed) (h : ZfJ  N = some r) : LSpec Tryz.prog 30 #[Value.agg #[vi 1, vi 6, vq, vq]] [] (ZmP  r) (ZlG  r) :=
 (ZrC  N) r h

noncomputable def ZlH  (n : Nat) : ZB := .call [] (vT) [] 0
def ZhX (A : Array Value)  (n : Nat) : Prop := Zk Tryz.prog 30 A [] (vT) [] n 0

theorem ZlI (A : Array Value)  (N : Nat) (h : ZfJ  N = some (.r0)) (n : Nat) (hA : A = #[Value.agg #[vi 1, vi 6, vq, vq]]) (hnd : ([] : List Nat).Nodup) (hlt : ∀ k ∈ ([] : List Nat), k < n) : ZhX A   n :=
 Zn hA (LSpec.callL (show LSpec Tryz.prog 30 #[Value.agg #[vi 1, vi 6, vq, vq]] [] (vT) [] from ZpJ  N _ h) [] n [] rfl hnd hlt (show 0 ≤ 0 from by decide) (show ∀ j ∈ ([] : List Nat), j < 0 from by decide) (by rfl) trivial (by rfl) trivial trivial rfl rfl rfl rfl rfl)

noncomputable def ZmQ  : Zee → Value
 | .r0 => vT
noncomputable def ZlJ  : Zee → List (Option AObj)
 | .r0 => []

theorem ZrD  (N : Nat) : Gx Tryz.prog 30 [] #[Value.agg #[vi 9, vi 3, vi 14, vq]] (ZmQ ) (ZlJ ) (ZfK  N) := by
 unfold ZfK
 exact Zi Zj (r := (.r0 : Zee)) (fu := 4000) (orc := (Zl [] [] [] [] [])) (live := []) (u := vT) (bl := []) (ob := []) (by kernel_rfl) Zf rfl (by decide) (by rfl) rr trivial (Zh _ rfl)

theorem ZpK  (N : Nat) (r : Zee) (h : ZfK  N = some r) : LSpec Tryz.prog 30 #[Value.agg #[vi 9, vi 3, vi 14, vq]] [] (ZmQ  r) (ZlJ  r) :=
 (ZrD  N) r h

noncomputable def Zsw  (n : Nat) : ZB := .call [] (vT) [] 0
def ZlK (A : Array Value)  (n : Nat) : Prop := Zk Tryz.prog 30 A [] (vT) [] n 0

theorem Zsx (A : Array Value)  (N : Nat) (h : ZfK  N = some (.r0)) (n : Nat) (hA : A = #[Value.agg #[vi 9, vi 3, vi 14, vq]]) (hnd : ([] : List Nat).Nodup) (hlt : ∀ k ∈ ([] : List Nat), k < n) : ZlK A   n :=
 Zn hA (LSpec.callL (show LSpec Tryz.prog 30 #[Value.agg #[vi 9, vi 3, vi 14, vq]] [] (vT) [] from ZpK  N _ h) [] n [] rfl hnd hlt (show 0 ≤ 0 from by decide) (show ∀ j ∈ ([] : List Nat), j < 0 from by decide) (by rfl) trivial (by rfl) trivial trivial rfl rfl rfl rfl rfl)

noncomputable def ZmR  : Zef → Value
 | .r0 => vT
noncomputable def ZlL  : Zef → List (Option AObj)
 | .r0 => []

theorem ZrE  (N : Nat) : Gx Tryz.prog 30 [] #[Value.agg #[vi 7, vi 7, vi 4, vi 1]] (ZmR ) (ZlL ) (ZfL  N) := by
 unfold ZfL
 exact Zi Zj (r := (.r0 : Zef)) (fu := 4000) (orc := (Zl [] [] [] [] [])) (live := []) (u := vT) (bl := []) (ob := []) (by kernel_rfl) Zf rfl (by decide) (by rfl) rr trivial (Zh _ rfl)

theorem ZpL  (N : Nat) (r : Zef) (h : ZfL  N = some r) : LSpec Tryz.prog 30 #[Value.agg #[vi 7, vi 7, vi 4, vi 1]] [] (ZmR  r) (ZlL  r) :=
 (ZrE  N) r h

noncomputable def Zsy  (n : Nat) : ZB := .call [] (vT) [] 0
def ZlM (A : Array Value)  (n : Nat) : Prop := Zk Tryz.prog 30 A [] (vT) [] n 0

theorem Zsz (A : Array Value)  (N : Nat) (h : ZfL  N = some (.r0)) (n : Nat) (hA : A = #[Value.agg #[vi 7, vi 7, vi 4, vi 1]]) (hnd : ([] : List Nat).Nodup) (hlt : ∀ k ∈ ([] : List Nat), k < n) : ZlM A   n :=
 Zn hA (LSpec.callL (show LSpec Tryz.prog 30 #[Value.agg #[vi 7, vi 7, vi 4, vi 1]] [] (vT) [] from ZpL  N _ h) [] n [] rfl hnd hlt (show 0 ≤ 0 from by decide) (show ∀ j ∈ ([] : List Nat), j < 0 from by decide) (by rfl) trivial (by rfl) trivial trivial rfl rfl rfl rfl rfl)

noncomputable def ZmS  : Zeg → Value
 | .r0 => vT
noncomputable def ZlN  : Zeg → List (Option AObj)
 | .r0 => []

theorem ZrF  (N : Nat) : Gx Tryz.prog 30 [] #[Value.agg #[vi 9, vi 7, vi 12, vq]] (ZmS ) (ZlN ) (ZfM  N) := by
 unfold ZfM
 exact Zi Zj (r := (.r0 : Zeg)) (fu := 4000) (orc := (Zl [] [] [] [] [])) (live := []) (u := vT) (bl := []) (ob := []) (by kernel_rfl) Zf rfl (by decide) (by rfl) rr trivial (Zh _ rfl)

theorem ZpM  (N : Nat) (r : Zeg) (h : ZfM  N = some r) : LSpec Tryz.prog 30 #[Value.agg #[vi 9, vi 7, vi 12, vq]] [] (ZmS  r) (ZlN  r) :=
 (ZrF  N) r h

noncomputable def Zs0  (n : Nat) : ZB := .call [] (vT) [] 0
def ZlO (A : Array Value)  (n : Nat) : Prop := Zk Tryz.prog 30 A [] (vT) [] n 0

theorem Zs1 (A : Array Value)  (N : Nat) (h : ZfM  N = some (.r0)) (n : Nat) (hA : A = #[Value.agg #[vi 9, vi 7, vi 12, vq]]) (hnd : ([] : List Nat).Nodup) (hlt : ∀ k ∈ ([] : List Nat), k < n) : ZlO A   n :=
 Zn hA (LSpec.callL (show LSpec Tryz.prog 30 #[Value.agg #[vi 9, vi 7, vi 12, vq]] [] (vT) [] from ZpM  N _ h) [] n [] rfl hnd hlt (show 0 ≤ 0 from by decide) (show ∀ j ∈ ([] : List Nat), j < 0 from by decide) (by rfl) trivial (by rfl) trivial trivial rfl rfl rfl rfl rfl)

noncomputable def ZmT  : Zeh → Value
 | .r0 => vT
noncomputable def ZlP  : Zeh → List (Option AObj)
 | .r0 => []

theorem ZrG  (N : Nat) : Gx Tryz.prog 30 [] #[Value.agg #[vi 13, vi 6, vi 3, vi 2]] (ZmT ) (ZlP ) (ZfN  N) := by
 unfold ZfN
 exact Zi Zj (r := (.r0 : Zeh)) (fu := 4000) (orc := (Zl [] [] [] [] [])) (live := []) (u := vT) (bl := []) (ob := []) (by kernel_rfl) Zf rfl (by decide) (by rfl) rr trivial (Zh _ rfl)

theorem ZpN  (N : Nat) (r : Zeh) (h : ZfN  N = some r) : LSpec Tryz.prog 30 #[Value.agg #[vi 13, vi 6, vi 3, vi 2]] [] (ZmT  r) (ZlP  r) :=
 (ZrG  N) r h

noncomputable def Zs2  (n : Nat) : ZB := .call [] (vT) [] 0
def ZlQ (A : Array Value)  (n : Nat) : Prop := Zk Tryz.prog 30 A [] (vT) [] n 0

theorem Zs3 (A : Array Value)  (N : Nat) (h : ZfN  N = some (.r0)) (n : Nat) (hA : A = #[Value.agg #[vi 13, vi 6, vi 3, vi 2]]) (hnd : ([] : List Nat).Nodup) (hlt : ∀ k ∈ ([] : List Nat), k < n) : ZlQ A   n :=
 Zn hA (LSpec.callL (show LSpec Tryz.prog 30 #[Value.agg #[vi 13, vi 6, vi 3, vi 2]] [] (vT) [] from ZpN  N _ h) [] n [] rfl hnd hlt (show 0 ≤ 0 from by decide) (show ∀ j ∈ ([] : List Nat), j < 0 from by decide) (by rfl) trivial (by rfl) trivial trivial rfl rfl rfl rfl rfl)

noncomputable def ZmU  : Zei → Value
 | .r0 => vT
noncomputable def ZlR  : Zei → List (Option AObj)
 | .r0 => []

theorem ZrH  (N : Nat) : Gx Tryz.prog 30 [] #[Value.agg #[vi 8, vi 14, vq, vq]] (ZmU ) (ZlR ) (ZfO  N) := by
 unfold ZfO
 exact Zi Zj (r := (.r0 : Zei)) (fu := 4000) (orc := (Zl [] [] [] [] [])) (live := []) (u := vT) (bl := []) (ob := []) (by kernel_rfl) Zf rfl (by decide) (by rfl) rr trivial (Zh _ rfl)

theorem ZpO  (N : Nat) (r : Zei) (h : ZfO  N = some r) : LSpec Tryz.prog 30 #[Value.agg #[vi 8, vi 14, vq, vq]] [] (ZmU  r) (ZlR  r) :=
 (ZrH  N) r h

noncomputable def Zs4  (n : Nat) : ZB := .call [] (vT) [] 0
def ZlS (A : Array Value)  (n : Nat) : Prop := Zk Tryz.prog 30 A [] (vT) [] n 0

theorem Zs5 (A : Array Value)  (N : Nat) (h : ZfO  N = some (.r0)) (n : Nat) (hA : A = #[Value.agg #[vi 8, vi 14, vq, vq]]) (hnd : ([] : List Nat).Nodup) (hlt : ∀ k ∈ ([] : List Nat), k < n) : ZlS A   n :=
 Zn hA (LSpec.callL (show LSpec Tryz.prog 30 #[Value.agg #[vi 8, vi 14, vq, vq]] [] (vT) [] from ZpO  N _ h) [] n [] rfl hnd hlt (show 0 ≤ 0 from by decide) (show ∀ j ∈ ([] : List Nat), j < 0 from by decide) (by rfl) trivial (by rfl) trivial trivial rfl rfl rfl rfl rfl)

noncomputable def ZmV  : Zej → Value
 | .r0 => vT
noncomputable def ZlT  : Zej → List (Option AObj)
 | .r0 => []

theorem ZrI  (N : Nat) : Gx Tryz.prog 30 [] #[Value.agg #[vi 8, vi 6, vq, vq]] (ZmV ) (ZlT ) (ZfP  N) := by
 unfold ZfP
 exact Zi Zj (r := (.r0 : Zej)) (fu := 4000) (orc := (Zl [] [] [] [] [])) (live := []) (u := vT) (bl := []) (ob := []) (by kernel_rfl) Zf rfl (by decide) (by rfl) rr trivial (Zh _ rfl)

theorem ZpP  (N : Nat) (r : Zej) (h : ZfP  N = some r) : LSpec Tryz.prog 30 #[Value.agg #[vi 8, vi 6, vq, vq]] [] (ZmV  r) (ZlT  r) :=
 (ZrI  N) r h

noncomputable def Zs6  (n : Nat) : ZB := .call [] (vT) [] 0
def ZlU (A : Array Value)  (n : Nat) : Prop := Zk Tryz.prog 30 A [] (vT) [] n 0

theorem Zs7 (A : Array Value)  (N : Nat) (h : ZfP  N = some (.r0)) (n : Nat) (hA : A = #[Value.agg #[vi 8, vi 6, vq, vq]]) (hnd : ([] : List Nat).Nodup) (hlt : ∀ k ∈ ([] : List Nat), k < n) : ZlU A   n :=
 Zn hA (LSpec.callL (show LSpec Tryz.prog 30 #[Value.agg #[vi 8, vi 6, vq, vq]] [] (vT) [] from ZpP  N _ h) [] n [] rfl hnd hlt (show 0 ≤ 0 from by decide) (show ∀ j ∈ ([] : List Nat), j < 0 from by decide) (by rfl) trivial (by rfl) trivial trivial rfl rfl rfl rfl rfl)

noncomputable def ZmW  : Zek → Value
 | .r0 => vT
noncomputable def ZlV  : Zek → List (Option AObj)
 | .r0 => []

theorem ZrJ  (N : Nat) : Gx Tryz.prog 30 [] #[Value.agg #[vi 19, vi 7, vq, vq]] (ZmW ) (ZlV ) (ZfQ  N) := by
 unfold ZfQ
 exact Zi Zj (r := (.r0 : Zek)) (fu := 4000) (orc := (Zl [] [] [] [] [])) (live := []) (u := vT) (bl := []) (ob := []) (by kernel_rfl) Zf rfl (by decide) (by rfl) rr trivial (Zh _ rfl)

theorem ZpQ  (N : Nat) (r : Zek) (h : ZfQ  N = some r) : LSpec Tryz.prog 30 #[Value.agg #[vi 19, vi 7, vq, vq]] [] (ZmW  r) (ZlV  r) :=
 (ZrJ  N) r h

noncomputable def Zs8  (n : Nat) : ZB := .call [] (vT) [] 0
def ZlW (A : Array Value)  (n : Nat) : Prop := Zk Tryz.prog 30 A [] (vT) [] n 0

theorem Zs9 (A : Array Value)  (N : Nat) (h : ZfQ  N = some (.r0)) (n : Nat) (hA : A = #[Value.agg #[vi 19, vi 7, vq, vq]]) (hnd : ([] : List Nat).Nodup) (hlt : ∀ k ∈ ([] : List Nat), k < n) : ZlW A   n :=
 Zn hA (LSpec.callL (show LSpec Tryz.prog 30 #[Value.agg #[vi 19, vi 7, vq, vq]] [] (vT) [] from ZpQ  N _ h) [] n [] rfl hnd hlt (show 0 ≤ 0 from by decide) (show ∀ j ∈ ([] : List Nat), j < 0 from by decide) (by rfl) trivial (by rfl) trivial trivial rfl rfl rfl rfl rfl)

noncomputable def ZmX  : Zel → Value
 | .r0 => vT
noncomputable def ZlX  : Zel → List (Option AObj)
 | .r0 => []

theorem ZrK  (N : Nat) : Gx Tryz.prog 30 [] #[Value.agg #[vi 19, vi 6, vq, vq]] (ZmX ) (ZlX ) (ZfR  N) := by
 unfold ZfR
 exact Zi Zj (r := (.r0 : Zel)) (fu := 4000) (orc := (Zl [] [] [] [] [])) (live := []) (u := vT) (bl := []) (ob := []) (by kernel_rfl) Zf rfl (by decide) (by rfl) rr trivial (Zh _ rfl)

theorem ZpR  (N : Nat) (r : Zel) (h : ZfR  N = some r) : LSpec Tryz.prog 30 #[Value.agg #[vi 19, vi 6, vq, vq]] [] (ZmX  r) (ZlX  r) :=
 (ZrK  N) r h

noncomputable def ZsA  (n : Nat) : ZB := .call [] (vT) [] 0
def ZlY (A : Array Value)  (n : Nat) : Prop := Zk Tryz.prog 30 A [] (vT) [] n 0

theorem ZsB (A : Array Value)  (N : Nat) (h : ZfR  N = some (.r0)) (n : Nat) (hA : A = #[Value.agg #[vi 19, vi 6, vq, vq]]) (hnd : ([] : List Nat).Nodup) (hlt : ∀ k ∈ ([] : List Nat), k < n) : ZlY A   n :=
 Zn hA (LSpec.callL (show LSpec Tryz.prog 30 #[Value.agg #[vi 19, vi 6, vq, vq]] [] (vT) [] from ZpR  N _ h) [] n [] rfl hnd hlt (show 0 ≤ 0 from by decide) (show ∀ j ∈ ([] : List Nat), j < 0 from by decide) (by rfl) trivial (by rfl) trivial trivial rfl rfl rfl rfl rfl)

noncomputable def Zk7 (a0 a1 : Int) : Zbh → Value
 | .r0 => vq
 | .r1 => vi 120
noncomputable def Zkh (a0 a1 : Int) : Zbh → List (Option AObj)
 | .r0 => [some (.cells [vi 10, vq, vq, vq, vi 1, vi 1, vi a0, vq, vi 1, vi 7, vq, vq, vi 1, vi 6, vq, vq, vi 15, vq, vq, vq, vi 13, vi 3, vq, vi a1, vi 9, vi 3, vi 14, vq, vi 13, vi 4, vi 3, vi 1, vi 7, vi 7, vi 4, vi 1, vi 9, vi 7, vi 12, vq, vi 13, vi 6, vi 3, vi 2, vi 8, vi 14, vq, vq, vi 13, vi 3, vi 3, vq, vi 8, vi 6, vq, vq, vi 17, vq, vq, vq, vi 19, vi 7, vq, vq, vi 19, vi 6, vq, vq] 43)]
 | .r1 => [some (.cells [vi 10, vq, vq, vq, vi 1, vi 1, vi a0, vq, vi 1, vi 7, vq, vq, vi 1, vi 6, vq, vq, vi 15, vq, vq, vq, vi 13, vi 3, vq, vi a1, vi 9, vi 3, vi 14, vq, vi 13, vi 4, vi 3, vi 1, vi 7, vi 7, vi 4, vi 1, vi 9, vi 7, vi 12, vq, vi 13, vi 6, vi 3, vi 2, vi 8, vi 14, vq, vq, vi 13, vi 3, vi 3, vq, vi 8, vi 6, vq, vq, vi 17, vq, vq, vq, vi 19, vi 7, vq, vq, vi 19, vi 6, vq, vq] 43)]

theorem ZpS (a0 a1 : Int) (N : Nat) : Gx Tryz.prog 13 [.cells [vi 10, vq, vq, vq, vi 1, vi 1, vi a0, vq, vi 1, vi 7, vq, vq, vi 1, vi 6, vq, vq, vi 15, vq, vq, vq, vi 13, vi 3, vq, vi a1, vi 9, vi 3, vi 14, vq, vi 13, vi 4, vi 3, vi 1, vi 7, vi 7, vi 4, vi 1, vi 9, vi 7, vi 12, vq, vi 13, vi 6, vi 3, vi 2, vi 8, vi 14, vq, vq, vi 13, vi 3, vi 3, vq, vi 8, vi 6, vq, vq, vi 17, vq, vq, vq, vi 19, vi 7, vq, vq, vi 19, vi 6, vq, vq] 43] #[vs 0 0 17 17] (Zk7 a0 a1) (Zkh a0 a1) (ZbS a0 a1 N) := by
 unfold ZbS
 refine Ze (fun z0 c0 => ?_)
 cases z0 with
 | r0 =>
  refine Ze (fun z1 c1 => ?_)
  cases z1 with
  | r0 =>
   refine Ze (fun z2 c2 => ?_)
   cases z2 with
   | r0 =>
    refine Ze (fun z3 c3 => ?_)
    cases z3 with
    | r0 =>
     refine Ze (fun z4 c4 => ?_)
     cases z4 with
     | r0 =>
      refine Ze (fun z5 c5 => ?_)
      cases z5 with
      | r0 =>
       refine Ze (fun z6 c6 => ?_)
       cases z6 with
       | r0 =>
        refine Ze (fun z7 c7 => ?_)
        cases z7 with
        | r0 =>
         refine Ze (fun z8 c8 => ?_)
         cases z8 with
         | r0 =>
          refine Ze (fun z9 c9 => ?_)
          cases z9 with
          | r0 =>
           refine Ze (fun z10 c10 => ?_)
           cases z10 with
           | r0 =>
            refine Ze (fun z11 c11 => ?_)
            cases z11 with
            | r0 =>
             refine Ze (fun z12 c12 => ?_)
             cases z12 with
             | r0 =>
              refine Ze (fun z13 c13 => ?_)
              cases z13 with
              | r0 =>
               refine Ze (fun z14 c14 => ?_)
               cases z14 with
               | r0 =>
                refine Ze (fun z15 c15 => ?_)
                cases z15 with
                | r0 =>
                 refine Ze (fun z16 c16 => ?_)
                 cases z16 with
                 | r0 =>
                  exact Zi Zj (r := (.r0 : Zbh)) (fu := 4000) (orc := (Zl [] [] [] [] [(0, (Zbk     2)), (1, (Zby (a0)    3)), (2, (ZlE     4)), (3, (ZlH     5)), (6, (ZbL     9)), (7, (ZbY (a1)    10)), (8, (Zsw     11)), (9, (ZcP     12)), (10, (Zsy     13)), (11, (Zs0     14)), (12, (Zs2     15)), (13, (Zs4     16)), (14, (Zgg     17)), (15, (Zs6     18)), (17, (ZhT     19)), (18, (Zs8     20)), (19, (ZsA     21))])) (live := [0]) (u := vq) (bl := [some (.cells [vi 10, vq, vq, vq, vi 1, vi 1, vi a0, vq, vi 1, vi 7, vq, vq, vi 1, vi 6, vq, vq, vi 15, vq, vq, vq, vi 13, vi 3, vq, vi a1, vi 9, vi 3, vi 14, vq, vi 13, vi 4, vi 3, vi 1, vi 7, vi 7, vi 4, vi 1, vi 9, vi 7, vi 12, vq, vi 13, vi 6, vi 3, vi 2, vi 8, vi 14, vq, vq, vi 13, vi 3, vi 3, vq, vi 8, vi 6, vq, vq, vi 17, vq, vq, vq, vi 19, vi 7, vq, vq, vi 19, vi 6, vq, vq] 43)]) (ob := [(dP (ZlY #[Value.agg #[vi 19, vi 6, vq, vq]]     21), true), (dP (ZlW #[Value.agg #[vi 19, vi 7, vq, vq]]     20), true), (dP (Zgm #[Value.agg #[vi 17, vq, vq, vq]]     19), true), (dP (ZlU #[Value.agg #[vi 8, vi 6, vq, vq]]     18), true), (dP (ZeM #[Value.agg #[vi 13, vi 3, vi 3, vq]]     17), true), (dP (ZlS #[Value.agg #[vi 8, vi 14, vq, vq]]     16), true), (dP (ZlQ #[Value.agg #[vi 13, vi 6, vi 3, vi 2]]     15), true), (dP (ZlO #[Value.agg #[vi 9, vi 7, vi 12, vq]]     14), true), (dP (ZlM #[Value.agg #[vi 7, vi 7, vi 4, vi 1]]     13), true), (dP (Zca #[Value.agg #[vi 13, vi 4, vi 3, vi 1]]     12), true), (dP (ZlK #[Value.agg #[vi 9, vi 3, vi 14, vq]]     11), true), (dP (ZbN #[Value.agg #[vi 13, vi 3, vq, vi a1]] (a1)    10), true), (dP (Zb0 #[Value.agg #[vi 15, vq, vq, vq]]     9), true), (dP (ZhX #[Value.agg #[vi 1, vi 6, vq, vq]]     5), true), (dP (ZhW #[Value.agg #[vi 1, vi 7, vq, vq]]     4), true), (dP (Zbq #[Value.agg #[vi 1, vi 1, vi a0, vq]] (a0)    3), true), (dP (ZaW #[Value.agg #[vi 10, vq, vq, vq]]     2), true)]) (by kernel_rfl) (Zb (Zc (ZsB #[Value.agg #[vi 19, vi 6, vq, vq]]    N c16  21 rfl (by decide) (by decide))) <| Zb (Zc (Zs9 #[Value.agg #[vi 19, vi 7, vq, vq]]    N c15  20 rfl (by decide) (by decide))) <| Zb (Zc (ZhU #[Value.agg #[vi 17, vq, vq, vq]]    N c14  19 rfl (by decide) (by decide))) <| Zb (Zc (Zs7 #[Value.agg #[vi 8, vi 6, vq, vq]]    N c13  18 rfl (by decide) (by decide))) <| Zb (Zc (Zgh #[Value.agg #[vi 13, vi 3, vi 3, vq]]    N c12  17 rfl (by decide) (by decide))) <| Zb (Zc (Zs5 #[Value.agg #[vi 8, vi 14, vq, vq]]    N c11  16 rfl (by decide) (by decide))) <| Zb (Zc (Zs3 #[Value.agg #[vi 13, vi 6, vi 3, vi 2]]    N c10  15 rfl (by decide) (by decide))) <| Zb (Zc (Zs1 #[Value.agg #[vi 9, vi 7, vi 12, vq]]    N c9  14 rfl (by decide) (by decide))) <| Zb (Zc (Zsz #[Value.agg #[vi 7, vi 7, vi 4, vi 1]]    N c8  13 rfl (by decide) (by decide))) <| Zb (Zc (ZcQ #[Value.agg #[vi 13, vi 4, vi 3, vi 1]]    N c7  12 rfl (by decide) (by decide))) <| Zb (Zc (Zsx #[Value.agg #[vi 9, vi 3, vi 14, vq]]    N c6  11 rfl (by decide) (by decide))) <| Zb (Zc (ZbZ #[Value.agg #[vi 13, vi 3, vq, vi a1]] (a1)   N c5  10 rfl (by decide) (by decide))) <| Zb (Zc (ZbM #[Value.agg #[vi 15, vq, vq, vq]]    N c4  9 rfl (by decide) (by decide))) <| Zb (Zc (ZlI #[Value.agg #[vi 1, vi 6, vq, vq]]    N c3  5 rfl (by decide) (by decide))) <| Zb (Zc (ZlF #[Value.agg #[vi 1, vi 7, vq, vq]]    N c2  4 rfl (by decide) (by decide))) <| Zb (Zc (Zbz #[Value.agg #[vi 1, vi 1, vi a0, vq]] (a0)   N c1  3 rfl (by decide) (by decide))) <| Zb (Zc (Zbl #[Value.agg #[vi 10, vq, vq, vq]]    N c0  2 rfl (by decide) (by decide))) Zf) rfl (by decide) (by rfl) rr ⟨⟨rfl, ⟨[], by rfl⟩, by rfl⟩, trivial⟩ (Zh _ rfl)
      | r1 =>
       exact Zi Zj (r := (.r1 : Zbh)) (fu := 4000) (orc := (Zl [(49, false)] [] [] [] [(0, (Zbk     2)), (1, (Zby (a0)    3)), (2, (ZlE     4)), (3, (ZlH     5)), (6, (ZbL     9)), (7, (Zg2 (a1)    10))])) (live := [0]) (u := vi 120) (bl := [some (.cells [vi 10, vq, vq, vq, vi 1, vi 1, vi a0, vq, vi 1, vi 7, vq, vq, vi 1, vi 6, vq, vq, vi 15, vq, vq, vq, vi 13, vi 3, vq, vi a1, vi 9, vi 3, vi 14, vq, vi 13, vi 4, vi 3, vi 1, vi 7, vi 7, vi 4, vi 1, vi 9, vi 7, vi 12, vq, vi 13, vi 6, vi 3, vi 2, vi 8, vi 14, vq, vq, vi 13, vi 3, vi 3, vq, vi 8, vi 6, vq, vq, vi 17, vq, vq, vq, vi 19, vi 7, vq, vq, vi 19, vi 6, vq, vq] 43)]) (ob := [((((13 : Int) == (15 : Int)) && (((3 : Int) == (0 : Int)) && (((0 : Int) == (0 : Int)) && ((a1 == (0 : Int)) && true)))), false), (dP (Zfp #[Value.agg #[vi 13, vi 3, vq, vi a1]] (a1)    10), true), (dP (Zb0 #[Value.agg #[vi 15, vq, vq, vq]]     9), true), (dP (ZhX #[Value.agg #[vi 1, vi 6, vq, vq]]     5), true), (dP (ZhW #[Value.agg #[vi 1, vi 7, vq, vq]]     4), true), (dP (Zbq #[Value.agg #[vi 1, vi 1, vi a0, vq]] (a0)    3), true), (dP (ZaW #[Value.agg #[vi 10, vq, vq, vq]]     2), true)]) (by kernel_rfl) (Zb (Bool.eq_false_iff.2 (by simp only [ne_eq, Bool.and_true, Bool.and_eq_true, beq_iff_eq]; first | omega | (intro hh; simp_all; done) | (intro hh; grind))) <| Zb (Zc (Zg3 #[Value.agg #[vi 13, vi 3, vq, vi a1]] (a1)   N c5  10 rfl (by decide) (by decide))) <| Zb (Zc (ZbM #[Value.agg #[vi 15, vq, vq, vq]]    N c4  9 rfl (by decide) (by decide))) <| Zb (Zc (ZlI #[Value.agg #[vi 1, vi 6, vq, vq]]    N c3  5 rfl (by decide) (by decide))) <| Zb (Zc (ZlF #[Value.agg #[vi 1, vi 7, vq, vq]]    N c2  4 rfl (by decide) (by decide))) <| Zb (Zc (Zbz #[Value.agg #[vi 1, vi 1, vi a0, vq]] (a0)   N c1  3 rfl (by decide) (by decide))) <| Zb (Zc (Zbl #[Value.agg #[vi 10, vq, vq, vq]]    N c0  2 rfl (by decide) (by decide))) Zf) rfl (by decide) (by rfl) rr ⟨⟨rfl, ⟨[], by rfl⟩, by rfl⟩, trivial⟩ (Zh _ rfl)
  | r1 =>
   exact Zi Zj (r := (.r1 : Zbh)) (fu := 4000) (orc := (Zl [(20, false)] [] [] [] [(0, (Zbk     2)), (1, (Zi2 (a0)    3))])) (live := [0]) (u := vi 120) (bl := [some (.cells [vi 10, vq, vq, vq, vi 1, vi 1, vi a0, vq, vi 1, vi 7, vq, vq, vi 1, vi 6, vq, vq, vi 15, vq, vq, vq, vi 13, vi 3, vq, vi a1, vi 9, vi 3, vi 14, vq, vi 13, vi 4, vi 3, vi 1, vi 7, vi 7, vi 4, vi 1, vi 9, vi 7, vi 12, vq, vi 13, vi 6, vi 3, vi 2, vi 8, vi 14, vq, vq, vi 13, vi 3, vi 3, vq, vi 8, vi 6, vq, vq, vi 17, vq, vq, vq, vi 19, vi 7, vq, vq, vi 19, vi 6, vq, vq] 43)]) (ob := [((((1 : Int) == (15 : Int)) && (((1 : Int) == (0 : Int)) && ((a0 == (0 : Int)) && (((0 : Int) == (0 : Int)) && true)))), false), (dP (Zgz #[Value.agg #[vi 1, vi 1, vi a0, vq]] (a0)    3), true), (dP (ZaW #[Value.agg #[vi 10, vq, vq, vq]]     2), true)]) (by kernel_rfl) (Zb (Bool.eq_false_iff.2 (by simp only [ne_eq, Bool.and_true, Bool.and_eq_true, beq_iff_eq]; first | omega | (intro hh; simp_all; done) | (intro hh; grind))) <| Zb (Zc (Zi3 #[Value.agg #[vi 1, vi 1, vi a0, vq]] (a0)   N c1  3 rfl (by decide) (by decide))) <| Zb (Zc (Zbl #[Value.agg #[vi 10, vq, vq, vq]]    N c0  2 rfl (by decide) (by decide))) Zf) rfl (by decide) (by rfl) rr ⟨⟨rfl, ⟨[], by rfl⟩, by rfl⟩, trivial⟩ (Zh _ rfl)

theorem Zot (a0 a1 : Int) (N : Nat) (r : Zbh) (h : ZbS a0 a1 N = some r) : LSpec Tryz.prog 13 #[vs 0 0 17 17] [.cells [vi 10, vq, vq, vq, vi 1, vi 1, vi a0, vq, vi 1, vi 7, vq, vq, vi 1, vi 6, vq, vq, vi 15, vq, vq, vq, vi 13, vi 3, vq, vi a1, vi 9, vi 3, vi 14, vq, vi 13, vi 4, vi 3, vi 1, vi 7, vi 7, vi 4, vi 1, vi 9, vi 7, vi 12, vq, vi 13, vi 6, vi 3, vi 2, vi 8, vi 14, vq, vq, vi 13, vi 3, vi 3, vq, vi 8, vi 6, vq, vq, vi 17, vq, vq, vq, vi 19, vi 7, vq, vq, vi 19, vi 6, vq, vq] 43] (Zk7 a0 a1 r) (Zkh a0 a1 r) :=
 (ZpS a0 a1 N) r h

noncomputable def Zfq (a0 a1 : Int) (k0 n : Nat) : ZB := .call [(k0, .cells [vi 10, vq, vq, vq, vi 1, vi 1, vi a0, vq, vi 1, vi 7, vq, vq, vi 1, vi 6, vq, vq, vi 15, vq, vq, vq, vi 13, vi 3, vq, vi a1, vi 9, vi 3, vi 14, vq, vi 13, vi 4, vi 3, vi 1, vi 7, vi 7, vi 4, vi 1, vi 9, vi 7, vi 12, vq, vi 13, vi 6, vi 3, vi 2, vi 8, vi 14, vq, vq, vi 13, vi 3, vi 3, vq, vi 8, vi 6, vq, vq, vi 17, vq, vq, vq, vi 19, vi 7, vq, vq, vi 19, vi 6, vq, vq] 43)] (vq) [] 0
def ZdP (A : Array Value) (a0 a1 : Int) (k0 n : Nat) : Prop := Zk Tryz.prog 13 A [(k0, .cells [vi 10, vq, vq, vq, vi 1, vi 1, vi a0, vq, vi 1, vi 7, vq, vq, vi 1, vi 6, vq, vq, vi 15, vq, vq, vq, vi 13, vi 3, vq, vi a1, vi 9, vi 3, vi 14, vq, vi 13, vi 4, vi 3, vi 1, vi 7, vi 7, vi 4, vi 1, vi 9, vi 7, vi 12, vq, vi 13, vi 6, vi 3, vi 2, vi 8, vi 14, vq, vq, vi 13, vi 3, vi 3, vq, vi 8, vi 6, vq, vq, vi 17, vq, vq, vq, vi 19, vi 7, vq, vq, vi 19, vi 6, vq, vq] 43)] (vq) [] n 0

theorem Zfr (A : Array Value) (a0 a1 : Int) (N : Nat) (h : ZbS a0 a1 N = some (.r0)) (k0 n : Nat) (hA : A = #[vs k0 0 17 17]) (hnd : ([k0] : List Nat).Nodup) (hlt : ∀ k ∈ ([k0] : List Nat), k < n) : ZdP A a0 a1 k0 n :=
 Zn hA (LSpec.callL (show LSpec Tryz.prog 13 #[vs 0 0 17 17] [.cells [vi 10, vq, vq, vq, vi 1, vi 1, vi a0, vq, vi 1, vi 7, vq, vq, vi 1, vi 6, vq, vq, vi 15, vq, vq, vq, vi 13, vi 3, vq, vi a1, vi 9, vi 3, vi 14, vq, vi 13, vi 4, vi 3, vi 1, vi 7, vi 7, vi 4, vi 1, vi 9, vi 7, vi 12, vq, vi 13, vi 6, vi 3, vi 2, vi 8, vi 14, vq, vq, vi 13, vi 3, vi 3, vq, vi 8, vi 6, vq, vq, vi 17, vq, vq, vq, vi 19, vi 7, vq, vq, vi 19, vi 6, vq, vq] 43] (vq) [some (.cells [vi 10, vq, vq, vq, vi 1, vi 1, vi a0, vq, vi 1, vi 7, vq, vq, vi 1, vi 6, vq, vq, vi 15, vq, vq, vq, vi 13, vi 3, vq, vi a1, vi 9, vi 3, vi 14, vq, vi 13, vi 4, vi 3, vi 1, vi 7, vi 7, vi 4, vi 1, vi 9, vi 7, vi 12, vq, vi 13, vi 6, vi 3, vi 2, vi 8, vi 14, vq, vq, vi 13, vi 3, vi 3, vq, vi 8, vi 6, vq, vq, vi 17, vq, vq, vq, vi 19, vi 7, vq, vq, vi 19, vi 6, vq, vq] 43)] from Zot a0 a1 N _ h) [k0] n [] rfl hnd hlt (show 1 ≤ 1 from by decide) (show ∀ j ∈ ([] : List Nat), j < 1 from by decide) (by rfl) ⟨rfl, trivial⟩ (by rfl) ⟨rfl, trivial⟩ ⟨.inr rfl, trivial⟩ rfl rfl rfl (Za (ZdH rfl rfl) rfl) rfl)

noncomputable def ZmY  : Zem → Value
 | .r0 => vT
noncomputable def ZlZ  : Zem → List (Option AObj)
 | .r0 => []

theorem ZrL  (N : Nat) : Gx Tryz.prog 30 [] #[Value.agg #[vi 9, vi 3, vi 21, vq]] (ZmY ) (ZlZ ) (ZeF  N) := by
 unfold ZeF
 exact Zi Zj (r := (.r0 : Zem)) (fu := 4000) (orc := (Zl [] [] [] [] [])) (live := []) (u := vT) (bl := []) (ob := []) (by kernel_rfl) Zf rfl (by decide) (by rfl) rr trivial (Zh _ rfl)

theorem ZpT  (N : Nat) (r : Zem) (h : ZeF  N = some r) : LSpec Tryz.prog 30 #[Value.agg #[vi 9, vi 3, vi 21, vq]] [] (ZmY  r) (ZlZ  r) :=
 (ZrL  N) r h

noncomputable def ZhY  (n : Nat) : ZB := .call [] (vT) [] 0
def Zgn (A : Array Value)  (n : Nat) : Prop := Zk Tryz.prog 30 A [] (vT) [] n 0

theorem ZhZ (A : Array Value)  (N : Nat) (h : ZeF  N = some (.r0)) (n : Nat) (hA : A = #[Value.agg #[vi 9, vi 3, vi 21, vq]]) (hnd : ([] : List Nat).Nodup) (hlt : ∀ k ∈ ([] : List Nat), k < n) : Zgn A   n :=
 Zn hA (LSpec.callL (show LSpec Tryz.prog 30 #[Value.agg #[vi 9, vi 3, vi 21, vq]] [] (vT) [] from ZpT  N _ h) [] n [] rfl hnd hlt (show 0 ≤ 0 from by decide) (show ∀ j ∈ ([] : List Nat), j < 0 from by decide) (by rfl) trivial (by rfl) trivial trivial rfl rfl rfl rfl rfl)

noncomputable def ZmZ  : Zen → Value
 | .r0 => vT
noncomputable def Zma  : Zen → List (Option AObj)
 | .r0 => []

theorem ZrM  (N : Nat) : Gx Tryz.prog 30 [] #[Value.agg #[vi 9, vi 5, vi 12, vq]] (ZmZ ) (Zma ) (ZeG  N) := by
 unfold ZeG
 exact Zi Zj (r := (.r0 : Zen)) (fu := 4000) (orc := (Zl [] [] [] [] [])) (live := []) (u := vT) (bl := []) (ob := []) (by kernel_rfl) Zf rfl (by decide) (by rfl) rr trivial (Zh _ rfl)

theorem ZpU  (N : Nat) (r : Zen) (h : ZeG  N = some r) : LSpec Tryz.prog 30 #[Value.agg #[vi 9, vi 5, vi 12, vq]] [] (ZmZ  r) (Zma  r) :=
 (ZrM  N) r h

noncomputable def Zia  (n : Nat) : ZB := .call [] (vT) [] 0
def Zgo (A : Array Value)  (n : Nat) : Prop := Zk Tryz.prog 30 A [] (vT) [] n 0

theorem Zib (A : Array Value)  (N : Nat) (h : ZeG  N = some (.r0)) (n : Nat) (hA : A = #[Value.agg #[vi 9, vi 5, vi 12, vq]]) (hnd : ([] : List Nat).Nodup) (hlt : ∀ k ∈ ([] : List Nat), k < n) : Zgo A   n :=
 Zn hA (LSpec.callL (show LSpec Tryz.prog 30 #[Value.agg #[vi 9, vi 5, vi 12, vq]] [] (vT) [] from ZpU  N _ h) [] n [] rfl hnd hlt (show 0 ≤ 0 from by decide) (show ∀ j ∈ ([] : List Nat), j < 0 from by decide) (by rfl) trivial (by rfl) trivial trivial rfl rfl rfl rfl rfl)

noncomputable def Zna  : Zeo → Value
 | .r0 => vT
noncomputable def Zmb  : Zeo → List (Option AObj)
 | .r0 => []

theorem ZrN  (N : Nat) : Gx Tryz.prog 30 [] #[Value.agg #[vi 13, vi 2, vi 3, vq]] (Zna ) (Zmb ) (ZeH  N) := by
 unfold ZeH
 exact Zi Zj (r := (.r0 : Zeo)) (fu := 4000) (orc := (Zl [] [] [] [] [])) (live := []) (u := vT) (bl := []) (ob := []) (by kernel_rfl) Zf rfl (by decide) (by rfl) rr trivial (Zh _ rfl)

theorem ZpV  (N : Nat) (r : Zeo) (h : ZeH  N = some r) : LSpec Tryz.prog 30 #[Value.agg #[vi 13, vi 2, vi 3, vq]] [] (Zna  r) (Zmb  r) :=
 (ZrN  N) r h

noncomputable def Zic  (n : Nat) : ZB := .call [] (vT) [] 0
def Zgp (A : Array Value)  (n : Nat) : Prop := Zk Tryz.prog 30 A [] (vT) [] n 0

theorem Zid (A : Array Value)  (N : Nat) (h : ZeH  N = some (.r0)) (n : Nat) (hA : A = #[Value.agg #[vi 13, vi 2, vi 3, vq]]) (hnd : ([] : List Nat).Nodup) (hlt : ∀ k ∈ ([] : List Nat), k < n) : Zgp A   n :=
 Zn hA (LSpec.callL (show LSpec Tryz.prog 30 #[Value.agg #[vi 13, vi 2, vi 3, vq]] [] (vT) [] from ZpV  N _ h) [] n [] rfl hnd hlt (show 0 ≤ 0 from by decide) (show ∀ j ∈ ([] : List Nat), j < 0 from by decide) (by rfl) trivial (by rfl) trivial trivial rfl rfl rfl rfl rfl)

noncomputable def Znb  : Zep → Value
 | .r0 => vT
noncomputable def Zmc  : Zep → List (Option AObj)
 | .r0 => []

theorem ZrO  (N : Nat) : Gx Tryz.prog 30 [] #[Value.agg #[vi 12, vi 3, vq, vq]] (Znb ) (Zmc ) (ZeI  N) := by
 unfold ZeI
 exact Zi Zj (r := (.r0 : Zep)) (fu := 4000) (orc := (Zl [] [] [] [] [])) (live := []) (u := vT) (bl := []) (ob := []) (by kernel_rfl) Zf rfl (by decide) (by rfl) rr trivial (Zh _ rfl)

theorem ZpW  (N : Nat) (r : Zep) (h : ZeI  N = some r) : LSpec Tryz.prog 30 #[Value.agg #[vi 12, vi 3, vq, vq]] [] (Znb  r) (Zmc  r) :=
 (ZrO  N) r h

noncomputable def Zmd  (n : Nat) : ZB := .call [] (vT) [] 0
def Zie (A : Array Value)  (n : Nat) : Prop := Zk Tryz.prog 30 A [] (vT) [] n 0

theorem Zme (A : Array Value)  (N : Nat) (h : ZeI  N = some (.r0)) (n : Nat) (hA : A = #[Value.agg #[vi 12, vi 3, vq, vq]]) (hnd : ([] : List Nat).Nodup) (hlt : ∀ k ∈ ([] : List Nat), k < n) : Zie A   n :=
 Zn hA (LSpec.callL (show LSpec Tryz.prog 30 #[Value.agg #[vi 12, vi 3, vq, vq]] [] (vT) [] from ZpW  N _ h) [] n [] rfl hnd hlt (show 0 ≤ 0 from by decide) (show ∀ j ∈ ([] : List Nat), j < 0 from by decide) (by rfl) trivial (by rfl) trivial trivial rfl rfl rfl rfl rfl)

noncomputable def Znc  : Zeq → Value
 | .r0 => vT
noncomputable def Zmf  : Zeq → List (Option AObj)
 | .r0 => []

theorem ZrP  (N : Nat) : Gx Tryz.prog 30 [] #[Value.agg #[vi 8, vi 21, vq, vq]] (Znc ) (Zmf ) (ZfS  N) := by
 unfold ZfS
 exact Zi Zj (r := (.r0 : Zeq)) (fu := 4000) (orc := (Zl [] [] [] [] [])) (live := []) (u := vT) (bl := []) (ob := []) (by kernel_rfl) Zf rfl (by decide) (by rfl) rr trivial (Zh _ rfl)

theorem ZpX  (N : Nat) (r : Zeq) (h : ZfS  N = some r) : LSpec Tryz.prog 30 #[Value.agg #[vi 8, vi 21, vq, vq]] [] (Znc  r) (Zmf  r) :=
 (ZrP  N) r h

noncomputable def ZsC  (n : Nat) : ZB := .call [] (vT) [] 0
def Zmg (A : Array Value)  (n : Nat) : Prop := Zk Tryz.prog 30 A [] (vT) [] n 0

theorem ZsD (A : Array Value)  (N : Nat) (h : ZfS  N = some (.r0)) (n : Nat) (hA : A = #[Value.agg #[vi 8, vi 21, vq, vq]]) (hnd : ([] : List Nat).Nodup) (hlt : ∀ k ∈ ([] : List Nat), k < n) : Zmg A   n :=
 Zn hA (LSpec.callL (show LSpec Tryz.prog 30 #[Value.agg #[vi 8, vi 21, vq, vq]] [] (vT) [] from ZpX  N _ h) [] n [] rfl hnd hlt (show 0 ≤ 0 from by decide) (show ∀ j ∈ ([] : List Nat), j < 0 from by decide) (by rfl) trivial (by rfl) trivial trivial rfl rfl rfl rfl rfl)

noncomputable def Znd  : Zer → Value
 | .r0 => vT
noncomputable def Zmh  : Zer → List (Option AObj)
 | .r0 => []

theorem ZrQ  (N : Nat) : Gx Tryz.prog 30 [] #[Value.agg #[vi 3, vi 6, vi 3, vq]] (Znd ) (Zmh ) (ZfT  N) := by
 unfold ZfT
 exact Zi Zj (r := (.r0 : Zer)) (fu := 4000) (orc := (Zl [] [] [] [] [])) (live := []) (u := vT) (bl := []) (ob := []) (by kernel_rfl) Zf rfl (by decide) (by rfl) rr trivial (Zh _ rfl)

theorem ZpY  (N : Nat) (r : Zer) (h : ZfT  N = some r) : LSpec Tryz.prog 30 #[Value.agg #[vi 3, vi 6, vi 3, vq]] [] (Znd  r) (Zmh  r) :=
 (ZrQ  N) r h

noncomputable def ZsE  (n : Nat) : ZB := .call [] (vT) [] 0
def Zmi (A : Array Value)  (n : Nat) : Prop := Zk Tryz.prog 30 A [] (vT) [] n 0

theorem ZsF (A : Array Value)  (N : Nat) (h : ZfT  N = some (.r0)) (n : Nat) (hA : A = #[Value.agg #[vi 3, vi 6, vi 3, vq]]) (hnd : ([] : List Nat).Nodup) (hlt : ∀ k ∈ ([] : List Nat), k < n) : Zmi A   n :=
 Zn hA (LSpec.callL (show LSpec Tryz.prog 30 #[Value.agg #[vi 3, vi 6, vi 3, vq]] [] (vT) [] from ZpY  N _ h) [] n [] rfl hnd hlt (show 0 ≤ 0 from by decide) (show ∀ j ∈ ([] : List Nat), j < 0 from by decide) (by rfl) trivial (by rfl) trivial trivial rfl rfl rfl rfl rfl)

noncomputable def Zne  : Zes → Value
 | .r0 => vT
noncomputable def Zmj  : Zes → List (Option AObj)
 | .r0 => []

theorem ZrR  (N : Nat) : Gx Tryz.prog 30 [] #[Value.agg #[vi 13, vi 3, vi 6, vq]] (Zne ) (Zmj ) (ZfU  N) := by
 unfold ZfU
 exact Zi Zj (r := (.r0 : Zes)) (fu := 4000) (orc := (Zl [] [] [] [] [])) (live := []) (u := vT) (bl := []) (ob := []) (by kernel_rfl) Zf rfl (by decide) (by rfl) rr trivial (Zh _ rfl)

theorem ZpZ  (N : Nat) (r : Zes) (h : ZfU  N = some r) : LSpec Tryz.prog 30 #[Value.agg #[vi 13, vi 3, vi 6, vq]] [] (Zne  r) (Zmj  r) :=
 (ZrR  N) r h

noncomputable def ZsG  (n : Nat) : ZB := .call [] (vT) [] 0
def Zmk (A : Array Value)  (n : Nat) : Prop := Zk Tryz.prog 30 A [] (vT) [] n 0

theorem ZsH (A : Array Value)  (N : Nat) (h : ZfU  N = some (.r0)) (n : Nat) (hA : A = #[Value.agg #[vi 13, vi 3, vi 6, vq]]) (hnd : ([] : List Nat).Nodup) (hlt : ∀ k ∈ ([] : List Nat), k < n) : Zmk A   n :=
 Zn hA (LSpec.callL (show LSpec Tryz.prog 30 #[Value.agg #[vi 13, vi 3, vi 6, vq]] [] (vT) [] from ZpZ  N _ h) [] n [] rfl hnd hlt (show 0 ≤ 0 from by decide) (show ∀ j ∈ ([] : List Nat), j < 0 from by decide) (by rfl) trivial (by rfl) trivial trivial rfl rfl rfl rfl rfl)

noncomputable def Znf  : Zet → Value
 | .r0 => vT
noncomputable def Zml  : Zet → List (Option AObj)
 | .r0 => []

theorem ZrS  (N : Nat) : Gx Tryz.prog 30 [] #[Value.agg #[vi 14, vi 6, vq, vi 2]] (Znf ) (Zml ) (ZfV  N) := by
 unfold ZfV
 exact Zi Zj (r := (.r0 : Zet)) (fu := 4000) (orc := (Zl [] [] [] [] [])) (live := []) (u := vT) (bl := []) (ob := []) (by kernel_rfl) Zf rfl (by decide) (by rfl) rr trivial (Zh _ rfl)

theorem Zqa  (N : Nat) (r : Zet) (h : ZfV  N = some r) : LSpec Tryz.prog 30 #[Value.agg #[vi 14, vi 6, vq, vi 2]] [] (Znf  r) (Zml  r) :=
 (ZrS  N) r h

noncomputable def ZsI  (n : Nat) : ZB := .call [] (vT) [] 0
def Zmm (A : Array Value)  (n : Nat) : Prop := Zk Tryz.prog 30 A [] (vT) [] n 0

theorem ZsJ (A : Array Value)  (N : Nat) (h : ZfV  N = some (.r0)) (n : Nat) (hA : A = #[Value.agg #[vi 14, vi 6, vq, vi 2]]) (hnd : ([] : List Nat).Nodup) (hlt : ∀ k ∈ ([] : List Nat), k < n) : Zmm A   n :=
 Zn hA (LSpec.callL (show LSpec Tryz.prog 30 #[Value.agg #[vi 14, vi 6, vq, vi 2]] [] (vT) [] from Zqa  N _ h) [] n [] rfl hnd hlt (show 0 ≤ 0 from by decide) (show ∀ j ∈ ([] : List Nat), j < 0 from by decide) (by rfl) trivial (by rfl) trivial trivial rfl rfl rfl rfl rfl)

noncomputable def Zk8 (a0 a1 a2 : Int) : ZaE → Value
 | .r0 => vq
 | .r1 => vi 120
noncomputable def Zki (a0 a1 a2 : Int) : ZaE → List (Option AObj)
 | .r0 => [some (.cells [vi 10, vq, vq, vq, vi 1, vi 1, vi a0, vq, vi 15, vq, vq, vq, vi 13, vi 3, vq, vi a1, vi 9, vi 3, vi 21, vq, vi 13, vi 4, vi 3, vi 1, vi 7, vi 5, vi 4, vi 1, vi 9, vi 5, vi 12, vq, vi 13, vi 2, vi 3, vq, vi 14, vq, vi a2, vi 2, vi 12, vi 3, vq, vq, vi 8, vi 21, vq, vq, vi 3, vi 6, vi 3, vq, vi 13, vi 3, vi 6, vq, vi 9, vi 3, vi 21, vq, vi 13, vi 4, vi 3, vi 1, vi 7, vi 5, vi 4, vi 1, vi 9, vi 5, vi 12, vq, vi 13, vi 2, vi 3, vq, vi 14, vi 6, vq, vi 2, vi 12, vi 3, vq, vq, vi 17, vq, vq, vq] 43)]
 | .r1 => [some (.cells [vi 10, vq, vq, vq, vi 1, vi 1, vi a0, vq, vi 15, vq, vq, vq, vi 13, vi 3, vq, vi a1, vi 9, vi 3, vi 21, vq, vi 13, vi 4, vi 3, vi 1, vi 7, vi 5, vi 4, vi 1, vi 9, vi 5, vi 12, vq, vi 13, vi 2, vi 3, vq, vi 14, vq, vi a2, vi 2, vi 12, vi 3, vq, vq, vi 8, vi 21, vq, vq, vi 3, vi 6, vi 3, vq, vi 13, vi 3, vi 6, vq, vi 9, vi 3, vi 21, vq, vi 13, vi 4, vi 3, vi 1, vi 7, vi 5, vi 4, vi 1, vi 9, vi 5, vi 12, vq, vi 13, vi 2, vi 3, vq, vi 14, vi 6, vq, vi 2, vi 12, vi 3, vq, vq, vi 17, vq, vq, vq] 43)]

theorem Zqb (a0 a1 a2 : Int) (N : Nat) : Gx Tryz.prog 13 [.cells [vi 10, vq, vq, vq, vi 1, vi 1, vi a0, vq, vi 15, vq, vq, vq, vi 13, vi 3, vq, vi a1, vi 9, vi 3, vi 21, vq, vi 13, vi 4, vi 3, vi 1, vi 7, vi 5, vi 4, vi 1, vi 9, vi 5, vi 12, vq, vi 13, vi 2, vi 3, vq, vi 14, vq, vi a2, vi 2, vi 12, vi 3, vq, vq, vi 8, vi 21, vq, vq, vi 3, vi 6, vi 3, vq, vi 13, vi 3, vi 6, vq, vi 9, vi 3, vi 21, vq, vi 13, vi 4, vi 3, vi 1, vi 7, vi 5, vi 4, vi 1, vi 9, vi 5, vi 12, vq, vi 13, vi 2, vi 3, vq, vi 14, vi 6, vq, vi 2, vi 12, vi 3, vq, vq, vi 17, vq, vq, vq] 43] #[vs 0 0 22 22] (Zk8 a0 a1 a2) (Zki a0 a1 a2) (ZbT a0 a1 a2 N) := by
 unfold ZbT
 refine Ze (fun z0 c0 => ?_)
 cases z0 with
 | r0 =>
  refine Ze (fun z1 c1 => ?_)
  cases z1 with
  | r0 =>
   refine Ze (fun z2 c2 => ?_)
   cases z2 with
   | r0 =>
    refine Ze (fun z3 c3 => ?_)
    cases z3 with
    | r0 =>
     refine Ze (fun z4 c4 => ?_)
     cases z4 with
     | r0 =>
      refine Ze (fun z5 c5 => ?_)
      cases z5 with
      | r0 =>
       refine Ze (fun z6 c6 => ?_)
       cases z6 with
       | r0 =>
        refine Ze (fun z7 c7 => ?_)
        cases z7 with
        | r0 =>
         refine Ze (fun z8 c8 => ?_)
         cases z8 with
         | r0 =>
          refine Ze (fun z9 c9 => ?_)
          cases z9 with
          | r0 =>
           refine Ze (fun z10 c10 => ?_)
           cases z10 with
           | r0 =>
            refine Ze (fun z11 c11 => ?_)
            cases z11 with
            | r0 =>
             refine Ze (fun z12 c12 => ?_)
             cases z12 with
             | r0 =>
              refine Ze (fun z13 c13 => ?_)
              cases z13 with
              | r0 =>
               refine Ze (fun z14 c14 => ?_)
               cases z14 with
               | r0 =>
                refine Ze (fun z15 c15 => ?_)
                cases z15 with
                | r0 =>
                 refine Ze (fun z16 c16 => ?_)
                 cases z16 with
                 | r0 =>
                  refine Ze (fun z17 c17 => ?_)
                  cases z17 with
                  | r0 =>
                   refine Ze (fun z18 c18 => ?_)
                   cases z18 with
                   | r0 =>
                    refine Ze (fun z19 c19 => ?_)
                    cases z19 with
                    | r0 =>
                     refine Ze (fun z20 c20 => ?_)
                     cases z20 with
                     | r0 =>
                      refine Ze (fun z21 c21 => ?_)
                      cases z21 with
                      | r0 =>
                       exact Zi Zj (r := (.r0 : ZaE)) (fu := 4000) (orc := (Zl [] [] [] [] [(0, (Zbk     2)), (1, (Zby (a0)    3)), (4, (ZbL     7)), (5, (ZbY (a1)    8)), (6, (ZhY     9)), (7, (ZcP     10)), (8, (Zeu     11)), (9, (Zia     12)), (10, (Zic     13)), (11, (Zl5 (a2)    14)), (12, (Zmd     15)), (13, (ZsC     16)), (14, (ZsE     17)), (15, (ZsG     18)), (16, (ZhY     19)), (17, (ZcP     20)), (18, (Zeu     21)), (19, (Zia     22)), (20, (Zic     23)), (21, (ZsI     24)), (22, (Zmd     25)), (24, (ZhT     26))])) (live := [0]) (u := vq) (bl := [some (.cells [vi 10, vq, vq, vq, vi 1, vi 1, vi a0, vq, vi 15, vq, vq, vq, vi 13, vi 3, vq, vi a1, vi 9, vi 3, vi 21, vq, vi 13, vi 4, vi 3, vi 1, vi 7, vi 5, vi 4, vi 1, vi 9, vi 5, vi 12, vq, vi 13, vi 2, vi 3, vq, vi 14, vq, vi a2, vi 2, vi 12, vi 3, vq, vq, vi 8, vi 21, vq, vq, vi 3, vi 6, vi 3, vq, vi 13, vi 3, vi 6, vq, vi 9, vi 3, vi 21, vq, vi 13, vi 4, vi 3, vi 1, vi 7, vi 5, vi 4, vi 1, vi 9, vi 5, vi 12, vq, vi 13, vi 2, vi 3, vq, vi 14, vi 6, vq, vi 2, vi 12, vi 3, vq, vq, vi 17, vq, vq, vq] 43)]) (ob := [(dP (Zgm #[Value.agg #[vi 17, vq, vq, vq]]     26), true), (dP (Zie #[Value.agg #[vi 12, vi 3, vq, vq]]     25), true), (dP (Zmm #[Value.agg #[vi 14, vi 6, vq, vi 2]]     24), true), (dP (Zgp #[Value.agg #[vi 13, vi 2, vi 3, vq]]     23), true), (dP (Zgo #[Value.agg #[vi 9, vi 5, vi 12, vq]]     22), true), (dP (ZcR #[Value.agg #[vi 7, vi 5, vi 4, vi 1]]     21), true), (dP (Zca #[Value.agg #[vi 13, vi 4, vi 3, vi 1]]     20), true), (dP (Zgn #[Value.agg #[vi 9, vi 3, vi 21, vq]]     19), true), (dP (Zmk #[Value.agg #[vi 13, vi 3, vi 6, vq]]     18), true), (dP (Zmi #[Value.agg #[vi 3, vi 6, vi 3, vq]]     17), true), (dP (Zmg #[Value.agg #[vi 8, vi 21, vq, vq]]     16), true), (dP (Zie #[Value.agg #[vi 12, vi 3, vq, vq]]     15), true), (dP (ZhR #[Value.agg #[vi 14, vq, vi a2, vi 2]] (a2)    14), true), (dP (Zgp #[Value.agg #[vi 13, vi 2, vi 3, vq]]     13), true), (dP (Zgo #[Value.agg #[vi 9, vi 5, vi 12, vq]]     12), true), (dP (ZcR #[Value.agg #[vi 7, vi 5, vi 4, vi 1]]     11), true), (dP (Zca #[Value.agg #[vi 13, vi 4, vi 3, vi 1]]     10), true), (dP (Zgn #[Value.agg #[vi 9, vi 3, vi 21, vq]]     9), true), (dP (ZbN #[Value.agg #[vi 13, vi 3, vq, vi a1]] (a1)    8), true), (dP (Zb0 #[Value.agg #[vi 15, vq, vq, vq]]     7), true), (dP (Zbq #[Value.agg #[vi 1, vi 1, vi a0, vq]] (a0)    3), true), (dP (ZaW #[Value.agg #[vi 10, vq, vq, vq]]     2), true)]) (by kernel_rfl) (Zb (Zc (ZhU #[Value.agg #[vi 17, vq, vq, vq]]    N c21  26 rfl (by decide) (by decide))) <| Zb (Zc (Zme #[Value.agg #[vi 12, vi 3, vq, vq]]    N c20  25 rfl (by decide) (by decide))) <| Zb (Zc (ZsJ #[Value.agg #[vi 14, vi 6, vq, vi 2]]    N c19  24 rfl (by decide) (by decide))) <| Zb (Zc (Zid #[Value.agg #[vi 13, vi 2, vi 3, vq]]    N c18  23 rfl (by decide) (by decide))) <| Zb (Zc (Zib #[Value.agg #[vi 9, vi 5, vi 12, vq]]    N c17  22 rfl (by decide) (by decide))) <| Zb (Zc (Zev #[Value.agg #[vi 7, vi 5, vi 4, vi 1]]    N c16  21 rfl (by decide) (by decide))) <| Zb (Zc (ZcQ #[Value.agg #[vi 13, vi 4, vi 3, vi 1]]    N c15  20 rfl (by decide) (by decide))) <| Zb (Zc (ZhZ #[Value.agg #[vi 9, vi 3, vi 21, vq]]    N c14  19 rfl (by decide) (by decide))) <| Zb (Zc (ZsH #[Value.agg #[vi 13, vi 3, vi 6, vq]]    N c13  18 rfl (by decide) (by decide))) <| Zb (Zc (ZsF #[Value.agg #[vi 3, vi 6, vi 3, vq]]    N c12  17 rfl (by decide) (by decide))) <| Zb (Zc (ZsD #[Value.agg #[vi 8, vi 21, vq, vq]]    N c11  16 rfl (by decide) (by decide))) <| Zb (Zc (Zme #[Value.agg #[vi 12, vi 3, vq, vq]]    N c10  15 rfl (by decide) (by decide))) <| Zb (Zc (Zl6 #[Value.agg #[vi 14, vq, vi a2, vi 2]] (a2)   N c9  14 rfl (by decide) (by decide))) <| Zb (Zc (Zid #[Value.agg #[vi 13, vi 2, vi 3, vq]]    N c8  13 rfl (by decide) (by decide))) <| Zb (Zc (Zib #[Value.agg #[vi 9, vi 5, vi 12, vq]]    N c7  12 rfl (by decide) (by decide))) <| Zb (Zc (Zev #[Value.agg #[vi 7, vi 5, vi 4, vi 1]]    N c6  11 rfl (by decide) (by decide))) <| Zb (Zc (ZcQ #[Value.agg #[vi 13, vi 4, vi 3, vi 1]]    N c5  10 rfl (by decide) (by decide))) <| Zb (Zc (ZhZ #[Value.agg #[vi 9, vi 3, vi 21, vq]]    N c4  9 rfl (by decide) (by decide))) <| Zb (Zc (ZbZ #[Value.agg #[vi 13, vi 3, vq, vi a1]] (a1)   N c3  8 rfl (by decide) (by decide))) <| Zb (Zc (ZbM #[Value.agg #[vi 15, vq, vq, vq]]    N c2  7 rfl (by decide) (by decide))) <| Zb (Zc (Zbz #[Value.agg #[vi 1, vi 1, vi a0, vq]] (a0)   N c1  3 rfl (by decide) (by decide))) <| Zb (Zc (Zbl #[Value.agg #[vi 10, vq, vq, vq]]    N c0  2 rfl (by decide) (by decide))) Zf) rfl (by decide) (by rfl) rr ⟨⟨rfl, ⟨[], by rfl⟩, by rfl⟩, trivial⟩ (Zh _ rfl)
          | r1 =>
           exact Zi Zj (r := (.r1 : ZaE)) (fu := 4000) (orc := (Zl [(81, false)] [] [] [] [(0, (Zbk     2)), (1, (Zby (a0)    3)), (4, (ZbL     7)), (5, (ZbY (a1)    8)), (6, (ZhY     9)), (7, (ZcP     10)), (8, (Zeu     11)), (9, (Zia     12)), (10, (Zic     13)), (11, (Zl7 (a2)    14))])) (live := [0]) (u := vi 120) (bl := [some (.cells [vi 10, vq, vq, vq, vi 1, vi 1, vi a0, vq, vi 15, vq, vq, vq, vi 13, vi 3, vq, vi a1, vi 9, vi 3, vi 21, vq, vi 13, vi 4, vi 3, vi 1, vi 7, vi 5, vi 4, vi 1, vi 9, vi 5, vi 12, vq, vi 13, vi 2, vi 3, vq, vi 14, vq, vi a2, vi 2, vi 12, vi 3, vq, vq, vi 8, vi 21, vq, vq, vi 3, vi 6, vi 3, vq, vi 13, vi 3, vi 6, vq, vi 9, vi 3, vi 21, vq, vi 13, vi 4, vi 3, vi 1, vi 7, vi 5, vi 4, vi 1, vi 9, vi 5, vi 12, vq, vi 13, vi 2, vi 3, vq, vi 14, vi 6, vq, vi 2, vi 12, vi 3, vq, vq, vi 17, vq, vq, vq] 43)]) (ob := [((((14 : Int) == (15 : Int)) && (((0 : Int) == (0 : Int)) && ((a2 == (0 : Int)) && (((2 : Int) == (0 : Int)) && true)))), false), (dP (ZhS #[Value.agg #[vi 14, vq, vi a2, vi 2]] (a2)    14), true), (dP (Zgp #[Value.agg #[vi 13, vi 2, vi 3, vq]]     13), true), (dP (Zgo #[Value.agg #[vi 9, vi 5, vi 12, vq]]     12), true), (dP (ZcR #[Value.agg #[vi 7, vi 5, vi 4, vi 1]]     11), true), (dP (Zca #[Value.agg #[vi 13, vi 4, vi 3, vi 1]]     10), true), (dP (Zgn #[Value.agg #[vi 9, vi 3, vi 21, vq]]     9), true), (dP (ZbN #[Value.agg #[vi 13, vi 3, vq, vi a1]] (a1)    8), true), (dP (Zb0 #[Value.agg #[vi 15, vq, vq, vq]]     7), true), (dP (Zbq #[Value.agg #[vi 1, vi 1, vi a0, vq]] (a0)    3), true), (dP (ZaW #[Value.agg #[vi 10, vq, vq, vq]]     2), true)]) (by kernel_rfl) (Zb (Bool.eq_false_iff.2 (by simp only [ne_eq, Bool.and_true, Bool.and_eq_true, beq_iff_eq]; first | omega | (intro hh; simp_all; done) | (intro hh; grind))) <| Zb (Zc (Zl8 #[Value.agg #[vi 14, vq, vi a2, vi 2]] (a2)   N c9  14 rfl (by decide) (by decide))) <| Zb (Zc (Zid #[Value.agg #[vi 13, vi 2, vi 3, vq]]    N c8  13 rfl (by decide) (by decide))) <| Zb (Zc (Zib #[Value.agg #[vi 9, vi 5, vi 12, vq]]    N c7  12 rfl (by decide) (by decide))) <| Zb (Zc (Zev #[Value.agg #[vi 7, vi 5, vi 4, vi 1]]    N c6  11 rfl (by decide) (by decide))) <| Zb (Zc (ZcQ #[Value.agg #[vi 13, vi 4, vi 3, vi 1]]    N c5  10 rfl (by decide) (by decide))) <| Zb (Zc (ZhZ #[Value.agg #[vi 9, vi 3, vi 21, vq]]    N c4  9 rfl (by decide) (by decide))) <| Zb (Zc (ZbZ #[Value.agg #[vi 13, vi 3, vq, vi a1]] (a1)   N c3  8 rfl (by decide) (by decide))) <| Zb (Zc (ZbM #[Value.agg #[vi 15, vq, vq, vq]]    N c2  7 rfl (by decide) (by decide))) <| Zb (Zc (Zbz #[Value.agg #[vi 1, vi 1, vi a0, vq]] (a0)   N c1  3 rfl (by decide) (by decide))) <| Zb (Zc (Zbl #[Value.agg #[vi 10, vq, vq, vq]]    N c0  2 rfl (by decide) (by decide))) Zf) rfl (by decide) (by rfl) rr ⟨⟨rfl, ⟨[], by rfl⟩, by rfl⟩, trivial⟩ (Zh _ rfl)
    | r1 =>
     exact Zi Zj (r := (.r1 : ZaE)) (fu := 4000) (orc := (Zl [(33, false)] [] [] [] [(0, (Zbk     2)), (1, (Zby (a0)    3)), (4, (ZbL     7)), (5, (Zg2 (a1)    8))])) (live := [0]) (u := vi 120) (bl := [some (.cells [vi 10, vq, vq, vq, vi 1, vi 1, vi a0, vq, vi 15, vq, vq, vq, vi 13, vi 3, vq, vi a1, vi 9, vi 3, vi 21, vq, vi 13, vi 4, vi 3, vi 1, vi 7, vi 5, vi 4, vi 1, vi 9, vi 5, vi 12, vq, vi 13, vi 2, vi 3, vq, vi 14, vq, vi a2, vi 2, vi 12, vi 3, vq, vq, vi 8, vi 21, vq, vq, vi 3, vi 6, vi 3, vq, vi 13, vi 3, vi 6, vq, vi 9, vi 3, vi 21, vq, vi 13, vi 4, vi 3, vi 1, vi 7, vi 5, vi 4, vi 1, vi 9, vi 5, vi 12, vq, vi 13, vi 2, vi 3, vq, vi 14, vi 6, vq, vi 2, vi 12, vi 3, vq, vq, vi 17, vq, vq, vq] 43)]) (ob := [((((13 : Int) == (15 : Int)) && (((3 : Int) == (0 : Int)) && (((0 : Int) == (0 : Int)) && ((a1 == (0 : Int)) && true)))), false), (dP (Zfp #[Value.agg #[vi 13, vi 3, vq, vi a1]] (a1)    8), true), (dP (Zb0 #[Value.agg #[vi 15, vq, vq, vq]]     7), true), (dP (Zbq #[Value.agg #[vi 1, vi 1, vi a0, vq]] (a0)    3), true), (dP (ZaW #[Value.agg #[vi 10, vq, vq, vq]]     2), true)]) (by kernel_rfl) (Zb (Bool.eq_false_iff.2 (by simp only [ne_eq, Bool.and_true, Bool.and_eq_true, beq_iff_eq]; first | omega | (intro hh; simp_all; done) | (intro hh; grind))) <| Zb (Zc (Zg3 #[Value.agg #[vi 13, vi 3, vq, vi a1]] (a1)   N c3  8 rfl (by decide) (by decide))) <| Zb (Zc (ZbM #[Value.agg #[vi 15, vq, vq, vq]]    N c2  7 rfl (by decide) (by decide))) <| Zb (Zc (Zbz #[Value.agg #[vi 1, vi 1, vi a0, vq]] (a0)   N c1  3 rfl (by decide) (by decide))) <| Zb (Zc (Zbl #[Value.agg #[vi 10, vq, vq, vq]]    N c0  2 rfl (by decide) (by decide))) Zf) rfl (by decide) (by rfl) rr ⟨⟨rfl, ⟨[], by rfl⟩, by rfl⟩, trivial⟩ (Zh _ rfl)
  | r1 =>
   exact Zi Zj (r := (.r1 : ZaE)) (fu := 4000) (orc := (Zl [(20, false)] [] [] [] [(0, (Zbk     2)), (1, (Zi2 (a0)    3))])) (live := [0]) (u := vi 120) (bl := [some (.cells [vi 10, vq, vq, vq, vi 1, vi 1, vi a0, vq, vi 15, vq, vq, vq, vi 13, vi 3, vq, vi a1, vi 9, vi 3, vi 21, vq, vi 13, vi 4, vi 3, vi 1, vi 7, vi 5, vi 4, vi 1, vi 9, vi 5, vi 12, vq, vi 13, vi 2, vi 3, vq, vi 14, vq, vi a2, vi 2, vi 12, vi 3, vq, vq, vi 8, vi 21, vq, vq, vi 3, vi 6, vi 3, vq, vi 13, vi 3, vi 6, vq, vi 9, vi 3, vi 21, vq, vi 13, vi 4, vi 3, vi 1, vi 7, vi 5, vi 4, vi 1, vi 9, vi 5, vi 12, vq, vi 13, vi 2, vi 3, vq, vi 14, vi 6, vq, vi 2, vi 12, vi 3, vq, vq, vi 17, vq, vq, vq] 43)]) (ob := [((((1 : Int) == (15 : Int)) && (((1 : Int) == (0 : Int)) && ((a0 == (0 : Int)) && (((0 : Int) == (0 : Int)) && true)))), false), (dP (Zgz #[Value.agg #[vi 1, vi 1, vi a0, vq]] (a0)    3), true), (dP (ZaW #[Value.agg #[vi 10, vq, vq, vq]]     2), true)]) (by kernel_rfl) (Zb (Bool.eq_false_iff.2 (by simp only [ne_eq, Bool.and_true, Bool.and_eq_true, beq_iff_eq]; first | omega | (intro hh; simp_all; done) | (intro hh; grind))) <| Zb (Zc (Zi3 #[Value.agg #[vi 1, vi 1, vi a0, vq]] (a0)   N c1  3 rfl (by decide) (by decide))) <| Zb (Zc (Zbl #[Value.agg #[vi 10, vq, vq, vq]]    N c0  2 rfl (by decide) (by decide))) Zf) rfl (by decide) (by rfl) rr ⟨⟨rfl, ⟨[], by rfl⟩, by rfl⟩, trivial⟩ (Zh _ rfl)

theorem Zou (a0 a1 a2 : Int) (N : Nat) (r : ZaE) (h : ZbT a0 a1 a2 N = some r) : LSpec Tryz.prog 13 #[vs 0 0 22 22] [.cells [vi 10, vq, vq, vq, vi 1, vi 1, vi a0, vq, vi 15, vq, vq, vq, vi 13, vi 3, vq, vi a1, vi 9, vi 3, vi 21, vq, vi 13, vi 4, vi 3, vi 1, vi 7, vi 5, vi 4, vi 1, vi 9, vi 5, vi 12, vq, vi 13, vi 2, vi 3, vq, vi 14, vq, vi a2, vi 2, vi 12, vi 3, vq, vq, vi 8, vi 21, vq, vq, vi 3, vi 6, vi 3, vq, vi 13, vi 3, vi 6, vq, vi 9, vi 3, vi 21, vq, vi 13, vi 4, vi 3, vi 1, vi 7, vi 5, vi 4, vi 1, vi 9, vi 5, vi 12, vq, vi 13, vi 2, vi 3, vq, vi 14, vi 6, vq, vi 2, vi 12, vi 3, vq, vq, vi 17, vq, vq, vq] 43] (Zk8 a0 a1 a2 r) (Zki a0 a1 a2 r) :=
 (Zqb a0 a1 a2 N) r h

noncomputable def Zfs (a0 a1 a2 : Int) (k0 n : Nat) : ZB := .call [(k0, .cells [vi 10, vq, vq, vq, vi 1, vi 1, vi a0, vq, vi 15, vq, vq, vq, vi 13, vi 3, vq, vi a1, vi 9, vi 3, vi 21, vq, vi 13, vi 4, vi 3, vi 1, vi 7, vi 5, vi 4, vi 1, vi 9, vi 5, vi 12, vq, vi 13, vi 2, vi 3, vq, vi 14, vq, vi a2, vi 2, vi 12, vi 3, vq, vq, vi 8, vi 21, vq, vq, vi 3, vi 6, vi 3, vq, vi 13, vi 3, vi 6, vq, vi 9, vi 3, vi 21, vq, vi 13, vi 4, vi 3, vi 1, vi 7, vi 5, vi 4, vi 1, vi 9, vi 5, vi 12, vq, vi 13, vi 2, vi 3, vq, vi 14, vi 6, vq, vi 2, vi 12, vi 3, vq, vq, vi 17, vq, vq, vq] 43)] (vq) [] 0
def ZdQ (A : Array Value) (a0 a1 a2 : Int) (k0 n : Nat) : Prop := Zk Tryz.prog 13 A [(k0, .cells [vi 10, vq, vq, vq, vi 1, vi 1, vi a0, vq, vi 15, vq, vq, vq, vi 13, vi 3, vq, vi a1, vi 9, vi 3, vi 21, vq, vi 13, vi 4, vi 3, vi 1, vi 7, vi 5, vi 4, vi 1, vi 9, vi 5, vi 12, vq, vi 13, vi 2, vi 3, vq, vi 14, vq, vi a2, vi 2, vi 12, vi 3, vq, vq, vi 8, vi 21, vq, vq, vi 3, vi 6, vi 3, vq, vi 13, vi 3, vi 6, vq, vi 9, vi 3, vi 21, vq, vi 13, vi 4, vi 3, vi 1, vi 7, vi 5, vi 4, vi 1, vi 9, vi 5, vi 12, vq, vi 13, vi 2, vi 3, vq, vi 14, vi 6, vq, vi 2, vi 12, vi 3, vq, vq, vi 17, vq, vq, vq] 43)] (vq) [] n 0

theorem Zft (A : Array Value) (a0 a1 a2 : Int) (N : Nat) (h : ZbT a0 a1 a2 N = some (.r0)) (k0 n : Nat) (hA : A = #[vs k0 0 22 22]) (hnd : ([k0] : List Nat).Nodup) (hlt : ∀ k ∈ ([k0] : List Nat), k < n) : ZdQ A a0 a1 a2 k0 n :=
 Zn hA (LSpec.callL (show LSpec Tryz.prog 13 #[vs 0 0 22 22] [.cells [vi 10, vq, vq, vq, vi 1, vi 1, vi a0, vq, vi 15, vq, vq, vq, vi 13, vi 3, vq, vi a1, vi 9, vi 3, vi 21, vq, vi 13, vi 4, vi 3, vi 1, vi 7, vi 5, vi 4, vi 1, vi 9, vi 5, vi 12, vq, vi 13, vi 2, vi 3, vq, vi 14, vq, vi a2, vi 2, vi 12, vi 3, vq, vq, vi 8, vi 21, vq, vq, vi 3, vi 6, vi 3, vq, vi 13, vi 3, vi 6, vq, vi 9, vi 3, vi 21, vq, vi 13, vi 4, vi 3, vi 1, vi 7, vi 5, vi 4, vi 1, vi 9, vi 5, vi 12, vq, vi 13, vi 2, vi 3, vq, vi 14, vi 6, vq, vi 2, vi 12, vi 3, vq, vq, vi 17, vq, vq, vq] 43] (vq) [some (.cells [vi 10, vq, vq, vq, vi 1, vi 1, vi a0, vq, vi 15, vq, vq, vq, vi 13, vi 3, vq, vi a1, vi 9, vi 3, vi 21, vq, vi 13, vi 4, vi 3, vi 1, vi 7, vi 5, vi 4, vi 1, vi 9, vi 5, vi 12, vq, vi 13, vi 2, vi 3, vq, vi 14, vq, vi a2, vi 2, vi 12, vi 3, vq, vq, vi 8, vi 21, vq, vq, vi 3, vi 6, vi 3, vq, vi 13, vi 3, vi 6, vq, vi 9, vi 3, vi 21, vq, vi 13, vi 4, vi 3, vi 1, vi 7, vi 5, vi 4, vi 1, vi 9, vi 5, vi 12, vq, vi 13, vi 2, vi 3, vq, vi 14, vi 6, vq, vi 2, vi 12, vi 3, vq, vq, vi 17, vq, vq, vq] 43)] from Zou a0 a1 a2 N _ h) [k0] n [] rfl hnd hlt (show 1 ≤ 1 from by decide) (show ∀ j ∈ ([] : List Nat), j < 1 from by decide) (by rfl) ⟨rfl, trivial⟩ (by rfl) ⟨rfl, trivial⟩ ⟨.inr rfl, trivial⟩ rfl rfl rfl (Za (ZdH rfl rfl) rfl) rfl)

noncomputable def Zmn  : ZdM → Value
 | .r0 => vT
noncomputable def Zk9  : ZdM → List (Option AObj)
 | .r0 => []

theorem Zrb  (N : Nat) : Gx Tryz.prog 10 [] #[vn, vn] (Zmn ) (Zk9 ) (ZbX  N) := by
 unfold ZbX
 exact Zi Zj (r := (.r0 : ZdM)) (fu := 4000) (orc := (Zl [] [] [] [] [])) (live := []) (u := vT) (bl := []) (ob := []) (by kernel_rfl) Zf rfl (by decide) (by rfl) rr trivial (Zh _ rfl)

theorem Zpl  (N : Nat) (r : ZdM) (h : ZbX  N = some r) : LSpec Tryz.prog 10 #[vn, vn] [] (Zmn  r) (Zk9  r) :=
 (Zrb  N) r h

noncomputable def ZbF  (n : Nat) : ZB := .call [] (vT) [] 0
def Zbv (A : Array Value)  (n : Nat) : Prop := Zk Tryz.prog 10 A [] (vT) [] n 0

theorem ZbG (A : Array Value)  (N : Nat) (h : ZbX  N = some (.r0)) (n : Nat) (hA : A = #[vn, vn]) (hnd : ([] : List Nat).Nodup) (hlt : ∀ k ∈ ([] : List Nat), k < n) : Zbv A   n :=
 Zn hA (LSpec.callL (show LSpec Tryz.prog 10 #[vn, vn] [] (vT) [] from Zpl  N _ h) [] n [] rfl hnd hlt (show 0 ≤ 0 from by decide) (show ∀ j ∈ ([] : List Nat), j < 0 from by decide) (by rfl) trivial (by rfl) trivial trivial rfl rfl rfl rfl rfl)

noncomputable def Zhu (a0 a1 : Int) : ZO → Value
 | .r0 => vT
noncomputable def ZgO (a0 a1 : Int) : ZO → List (Option AObj)
 | .r0 => []

end Ev
end Go.Proofs.YtaajdoclloamlaaGreat
