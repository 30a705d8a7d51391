/- Records, and the program's functions as plain ones. -/
import Derived.Test.YtpgbennpiihajaaFm
namespace Go.Proofs.Ytpgbennpiihajaa
open Go.RowKit
namespace Ev
set_option linter.unusedVariables false
structure R_ii where
 a0 : Int
 a1 : Int
def R_ii.z : R_ii := ⟨0, 0⟩
structure R_iiii where
 a0 : Int
 a1 : Int
 a2 : Int
 a3 : Int
def R_iiii.z : R_iiii := ⟨0, 0, 0, 0⟩
inductive Z6 where
 | r0
 | r1
 | r2
 | r3
 | r4
 | r5
 | r6
 | r7
 | r8
 | r9
 | r10
 | r11
 | r12
 | r13
 | r14
 | r15
 | r16
 | r17
 | r18
 | r19
 | r20

def Zay (a0 : Int) (N : Nat) : Option Z6 :=
 if a0 < (0 : Int) then
  some (.r0 : Z6)
 else
 if (21 : Int) ≤ a0 then
  some (.r0 : Z6)
 else
 if a0 = (0 : Int) then
  some (.r0 : Z6)
 else
 if a0 = (1 : Int) then
  some (.r1 : Z6)
 else
 if a0 = (2 : Int) then
  some (.r2 : Z6)
 else
 if a0 = (3 : Int) then
  some (.r3 : Z6)
 else
 if a0 = (4 : Int) then
  some (.r4 : Z6)
 else
 if a0 = (5 : Int) then
  some (.r5 : Z6)
 else
 if a0 = (6 : Int) then
  some (.r6 : Z6)
 else
 if a0 = (7 : Int) then
  some (.r7 : Z6)
 else
 if a0 = (8 : Int) then
  some (.r8 : Z6)
 else
 if a0 = (9 : Int) then
  some (.r9 : Z6)
 else
 if a0 = (10 : Int) then
  some (.r10 : Z6)
 else
 if a0 = (11 : Int) then
  some (.r11 : Z6)
 else
 if a0 = (12 : Int) then
  some (.r12 : Z6)
 else
 if a0 = (13 : Int) then
  some (.r13 : Z6)
 else
 if a0 = (14 : Int) then
  some (.r14 : Z6)
 else
 if a0 = (15 : Int) then
  some (.r15 : Z6)
 else
 if a0 = (16 : Int) then
  some (.r16 : Z6)
 else
 if a0 = (17 : Int) then
  some (.r17 : Z6)
 else
 if a0 = (18 : Int) then
  some (.r18 : Z6)
 else
 if a0 = (19 : Int) then
  some (.r19 : Z6)
 else
 some (.r20 : Z6)

inductive Zt where
 | r0 (w0 : Bool)

def ZL (a0 : Int) (a1 : Int) (a2 : Int) (N : Nat) : Option Zt :=
 if a0 = (1 : Int) then
  if (0 : Int) ≤ a1 then
   if a1 ≤ (7 : Int) then
    some (.r0 (true) : Zt)
   else
   some (.r0 (false) : Zt)
  else
  some (.r0 (false) : Zt)
 else
 if a0 = (2 : Int) then
  if (0 : Int) ≤ a1 then
   if a1 ≤ (15 : Int) then
    some (.r0 (true) : Zt)
   else
   some (.r0 (false) : Zt)
  else
  some (.r0 (false) : Zt)
 else
 if a0 = (3 : Int) then
  if (1 : Int) ≤ a1 then
   if a1 ≤ (16 : Int) then
    some (.r0 (true) : Zt)
   else
   some (.r0 (false) : Zt)
  else
  some (.r0 (false) : Zt)
 else
 if a0 = (4 : Int) then
  if (0 : Int) ≤ a1 then
   if a1 ≤ (512 : Int) then
    some (.r0 (true) : Zt)
   else
   some (.r0 (false) : Zt)
  else
  some (.r0 (false) : Zt)
 else
 if a0 = (5 : Int) then
  if (0 : Int) ≤ a2 then
   if a2 ≤ (64 : Int) then
    if (0 : Int) ≤ a1 then
     if a1 ≤ (IntKind.i64.wrap ((IntKind.i64.wrap ((1 : Int) * (2 ^ (a2).toNat : Int))) - (1 : Int))) then
      some (.r0 (true) : Zt)
     else
     some (.r0 (false) : Zt)
    else
    some (.r0 (false) : Zt)
   else
   none
  else
  none
 else
 if a0 = (6 : Int) then
  if (-1099511627776 : Int) ≤ a1 then
   if a1 ≤ (1099511627776 : Int) then
    some (.r0 (true) : Zt)
   else
   some (.r0 (false) : Zt)
  else
  some (.r0 (false) : Zt)
 else
 if (0 : Int) ≤ a1 then
  if a1 ≤ (0 : Int) then
   some (.r0 (true) : Zt)
  else
  some (.r0 (false) : Zt)
 else
 some (.r0 (false) : Zt)

inductive Za8 where
 | r0 (w0 : Int)

inductive Zs where
 | h1m0 (v1 : Nat) (v2 : Nat) (v3 : Nat)
 | h1m1 (v1 : Nat) (v2 : Nat) (v3 : Nat)
 | h1m2 (v1 : Nat) (v2 : Nat) (v3 : Nat)
 | h1m3 (v1 : Nat) (v2 : Nat) (v3 : Nat)

def Zcs (a0 : Int) (a1 : Int) (a2 : Int) (a3 : Int) (N : Nat) (v1 : Nat) (v2 : Nat) (v3 : Nat) : Option (Zs ⊕ Za8) :=
 ((ZL ((v1 : Int)) (a1) ((0 : Int)) N).bind fun r => match r with
 | .r0 y0_0 =>
  if ¬ (y0_0 = true) then
   some (.inr (.r0 ((100 : Int)) : Za8))
  else
  some (.inl (.h1m1 (v1) (v2) (v3) : Zs))
 )

def Zct (a0 : Int) (a1 : Int) (a2 : Int) (a3 : Int) (N : Nat) (v1 : Nat) (v2 : Nat) (v3 : Nat) : Option (Zs ⊕ Za8) :=
 ((ZL ((v2 : Int)) (a2) (a1) N).bind fun r => match r with
 | .r0 y0_0 =>
  if ¬ (y0_0 = true) then
   some (.inr (.r0 ((100 : Int)) : Za8))
  else
  some (.inl (.h1m2 (v1) (v2) (v3) : Zs))
 )

def Zcu (a0 : Int) (a1 : Int) (a2 : Int) (a3 : Int) (N : Nat) (v1 : Nat) (v2 : Nat) (v3 : Nat) : Option (Zs ⊕ Za8) :=
 ((ZL ((v3 : Int)) (a3) (a2) N).bind fun r => match r with
 | .r0 y0_0 =>
  if ¬ (y0_0 = true) then
   some (.inr (.r0 ((100 : Int)) : Za8))
  else
  some (.inl (.h1m3 (v1) (v2) (v3) : Zs))
 )

def Ze7 (a0 : Int) (a1 : Int) (a2 : Int) (a3 : Int) (N : Nat) (v1 : Nat) (v2 : Nat) (v3 : Nat) : Option (Zs ⊕ Za8) :=
 some (.inr (.r0 ((0 : Int)) : Za8))

def Zcj (a0 : Int) (a1 : Int) (a2 : Int) (a3 : Int) (N : Nat) : Zs → Option (Zs ⊕ Za8)
 | .h1m0 v1 v2 v3 => Zcs a0 a1 a2 a3 N v1 v2 v3
 | .h1m1 v1 v2 v3 => Zct a0 a1 a2 a3 N v1 v2 v3
 | .h1m2 v1 v2 v3 => Zcu a0 a1 a2 a3 N v1 v2 v3
 | .h1m3 v1 v2 v3 => Ze7 a0 a1 a2 a3 N v1 v2 v3

def ZeC (a0 : Int) (a1 : Int) (a2 : Int) (a3 : Int) (N : Nat) : Option (Zs ⊕ Za8) :=
 ((Zay (a0) N).bind fun r => match r with
 | .r0 =>
  some (.inr (.r0 ((100 : Int)) : Za8))
 | .r1 =>
  some (.inl (.h1m0 (1) (6) (0) : Zs))
 | .r2 =>
  some (.inl (.h1m0 (1) (0) (0) : Zs))
 | .r3 =>
  some (.inl (.h1m0 (1) (1) (0) : Zs))
 | .r4 =>
  some (.inl (.h1m0 (1) (1) (1) : Zs))
 | .r5 =>
  some (.inl (.h1m0 (1) (1) (1) : Zs))
 | .r6 =>
  some (.inl (.h1m0 (1) (1) (1) : Zs))
 | .r7 =>
  some (.inl (.h1m0 (1) (1) (1) : Zs))
 | .r8 =>
  some (.inl (.h1m0 (4) (0) (0) : Zs))
 | .r9 =>
  some (.inl (.h1m0 (1) (4) (0) : Zs))
 | .r10 =>
  some (.inl (.h1m0 (1) (0) (0) : Zs))
 | .r11 =>
  some (.inl (.h1m0 (1) (3) (5) : Zs))
 | .r12 =>
  some (.inl (.h1m0 (1) (0) (0) : Zs))
 | .r13 =>
  some (.inl (.h1m0 (1) (1) (2) : Zs))
 | .r14 =>
  some (.inl (.h1m0 (1) (2) (1) : Zs))
 | .r15 =>
  some (.inl (.h1m0 (0) (0) (0) : Zs))
 | .r16 =>
  some (.inl (.h1m0 (0) (0) (0) : Zs))
 | .r17 =>
  some (.inl (.h1m0 (0) (0) (0) : Zs))
 | .r18 =>
  some (.inl (.h1m0 (0) (0) (0) : Zs))
 | .r19 =>
  some (.inl (.h1m0 (1) (0) (0) : Zs))
 | .r20 =>
  some (.inl (.h1m0 (0) (0) (0) : Zs))
 )

def Z2 (a0 : Int) (a1 : Int) (a2 : Int) (a3 : Int) (N : Nat) : Option Za8 := goM (Zcj a0 a1 a2 a3 N) N (ZeC a0 a1 a2 a3 N)

inductive ZW where
 | r0 (w2 : Int)

def Zch (a0 : Int) (a1 : Int) (a2 : Int) (a3 : Int) (L5 : List R_iiii) (n6 : Nat) (n7 : Nat) (a8 : Int) (a9 : Int) (a10 : Int) (N : Nat) : Option ZW :=
 if a0 = (15 : Int) then
  ((Z2 (a0) (a1) (a2) (a3) N).bind fun r => match r with
  | .r0 y1_0 =>
   if ¬ (y1_0 = (0 : Int)) then
    some (.r0 ((120 : Int)) : ZW)
   else
   some (.r0 ((0 : Int)) : ZW)
  )
 else
 if a0 = (16 : Int) then
  some (.r0 ((120 : Int)) : ZW)
 else
 if a0 = (17 : Int) then
  some (.r0 ((120 : Int)) : ZW)
 else
 if a0 = (18 : Int) then
  some (.r0 ((120 : Int)) : ZW)
 else
 ((Z2 (a0) (a1) (a2) (a3) N).bind fun r => match r with
 | .r0 y5_0 =>
  if ¬ (y5_0 = (0 : Int)) then
   some (.r0 ((120 : Int)) : ZW)
  else
  some (.r0 ((0 : Int)) : ZW)
 )

inductive Zcn where
 | r0

def Zda (L1 : List R_iiii) (n2 : Nat) (n3 : Nat) (a4 : Int) (a5 : Int) (a6 : Int) (N : Nat) : Option Zcn :=
 some (.r0 : Zcn)

inductive ZbY where
 | r0
 | r1

def Zde (a0 : Int) (a1 : Int) (L3 : List R_iiii) (n4 : Nat) (n5 : Nat) (a6 : Int) (a7 : Int) (a8 : Int) (N : Nat) : Option ZbY :=
 ((Zda (L3) (n4) (n5) (a6) (a7) (a8) N).bind fun r => match r with
 | .r0 =>
  if a1 = (15 : Int) then
   some (.r0 : ZbY)
  else
  if a1 = (16 : Int) then
   none
  else
  if a1 = (17 : Int) then
   none
  else
  some (.r1 : ZbY)
 )

inductive Zcb where
 | r0 (w0 : Int) (w1 : Bool)

def ZbC (a0 : Int) (a1 : Int) (a2 : Int) (a3 : Int) (N : Nat) : Option Zcb :=
 if a0 = (8 : Int) then
  some (.r0 (a1) (true) : Zcb)
 else
 if a0 = (9 : Int) then
  some (.r0 (a2) (true) : Zcb)
 else
 some (.r0 ((0 : Int)) (false) : Zcb)

inductive ZaG where
 | r0 (w6 : Int) (w7 : Int)

inductive Zat where
 | h1m0 (v6 : Nat)

def Ze8 (L1 : List R_iiii) (n2 : Nat) (n3 : Nat) (L4 : List R_ii) (a5 : Int) (a6 : Int) (a7 : Int) (N : Nat) (v6 : Nat) : Option (Zat ⊕ ZaG) :=
 if (v6 : Int) < (n2 : Int) then
  if v6 < L1.length then
   ((ZbC ((L1.getD v6 R_iiii.z).a0) ((L1.getD v6 R_iiii.z).a1) ((L1.getD v6 R_iiii.z).a2) ((L1.getD v6 R_iiii.z).a3) N).bind fun r => match r with
   | .r0 y2_0 y2_1 =>
    if y2_1 = true then
     if (n2 : Int) < y2_0 then
      some (.inr (.r0 ((v6 : Int)) ((120 : Int)) : ZaG))
     else
     if (0 : Int) ≤ y2_0 then
      if (y2_0).toNat < L4.length then
       if v6 < L4.length then
        if ¬ (((L4.getD (y2_0).toNat R_ii.z).a0 = (L4.getD v6 R_ii.z).a0 ∧ (L4.getD (y2_0).toNat R_ii.z).a1 = (L4.getD v6 R_ii.z).a1)) then
         some (.inr (.r0 ((v6 : Int)) ((120 : Int)) : ZaG))
        else
        if (((v6 + 1) : Nat) : Int) ≤ (9223372036854775807 : Int) then
         some (.inl (.h1m0 ((v6 + 1)) : Zat))
        else
        none
       else
       none
      else
      none
     else
     none
    else
    if (((v6 + 1) : Nat) : Int) ≤ (9223372036854775807 : Int) then
     some (.inl (.h1m0 ((v6 + 1)) : Zat))
    else
    none
   )
  else
  none
 else
 some (.inr (.r0 (a6) (a7) : ZaG))

def ZdC (L1 : List R_iiii) (n2 : Nat) (n3 : Nat) (L4 : List R_ii) (a5 : Int) (a6 : Int) (a7 : Int) (N : Nat) : Zat → Option (Zat ⊕ ZaG)
 | .h1m0 v6 => Ze8 L1 n2 n3 L4 a5 a6 a7 N v6

def Zfp (L1 : List R_iiii) (n2 : Nat) (n3 : Nat) (L4 : List R_ii) (a5 : Int) (a6 : Int) (a7 : Int) (N : Nat) : Option (Zat ⊕ ZaG) :=
 some (.inl (.h1m0 (0) : Zat))

def Zgk (L1 : List R_iiii) (n2 : Nat) (n3 : Nat) (L4 : List R_ii) (a5 : Int) (a6 : Int) (a7 : Int) (N : Nat) : Option ZaG := goM (ZdC L1 n2 n3 L4 a5 a6 a7 N) N (Zfp L1 n2 n3 L4 a5 a6 a7 N)

inductive Zq where
 | r0 (w6 : Int)

def ZbM (a0 : Int) (a1 : Int) (a2 : Int) (a3 : Int) (L4 : List R_ii) (L6 : List R_iiii) (n7 : Nat) (n8 : Nat) (L9 : List R_ii) (L10 : List Int) (L11 : List Int) (a12 : Int) (a13 : Int) (a14 : Int) (N : Nat) : Option Zq :=
 if a0 = (15 : Int) then
  if (8 : Int) ≤ (L4.length : Int) then
   ((Z2 (a0) (a1) (a2) (a3) N).bind fun r => match r with
   | .r0 y2_0 =>
    if y2_0 = (0 : Int) then
     some (.r0 ((140 : Int)) : Zq)
    else
    ((Z2 (a0) (a1) (a2) (a3) N).bind fun r => match r with
    | .r0 y4_0 =>
     if ¬ (y4_0 = (0 : Int)) then
      some (.r0 ((120 : Int)) : Zq)
     else
     some (.r0 ((0 : Int)) : Zq)
    )
   )
  else
  ((Z2 (a0) (a1) (a2) (a3) N).bind fun r => match r with
  | .r0 y2_0 =>
   if ¬ (y2_0 = (0 : Int)) then
    some (.r0 ((120 : Int)) : Zq)
   else
   some (.r0 ((0 : Int)) : Zq)
  )
 else
 if a0 = (16 : Int) then
  if (L4.length : Int) = (0 : Int) then
   some (.r0 ((120 : Int)) : Zq)
  else
  if ((L4.length : Int) - (1 : Int)) ≤ (9223372036854775807 : Int) then
   if (0 : Int) ≤ (L4.getD (L4.length - 1) R_ii.z).a1 then
    some (.r0 ((120 : Int)) : Zq)
   else
   ((Z2 (a0) (a1) (a2) (a3) N).bind fun r => match r with
   | .r0 y5_0 =>
    if ¬ (y5_0 = (0 : Int)) then
     some (.r0 ((120 : Int)) : Zq)
    else
    some (.r0 ((0 : Int)) : Zq)
   )
  else
  none
 else
 if a0 = (17 : Int) then
  if (L4.length : Int) = (0 : Int) then
   some (.r0 ((120 : Int)) : Zq)
  else
  ((Z2 (a0) (a1) (a2) (a3) N).bind fun r => match r with
  | .r0 y4_0 =>
   if ¬ (y4_0 = (0 : Int)) then
    some (.r0 ((120 : Int)) : Zq)
   else
   some (.r0 ((0 : Int)) : Zq)
  )
 else
 if a0 = (18 : Int) then
  if (L4.length : Int) = (0 : Int) then
   some (.r0 ((120 : Int)) : Zq)
  else
  ((Z2 (a0) (a1) (a2) (a3) N).bind fun r => match r with
  | .r0 y5_0 =>
   if ¬ (y5_0 = (0 : Int)) then
    some (.r0 ((120 : Int)) : Zq)
   else
   some (.r0 ((0 : Int)) : Zq)
  )
 else
 if a0 = (20 : Int) then
  if (0 : Int) < (L4.length : Int) then
   some (.r0 ((120 : Int)) : Zq)
  else
  ((Z2 (a0) (a1) (a2) (a3) N).bind fun r => match r with
  | .r0 y6_0 =>
   if ¬ (y6_0 = (0 : Int)) then
    some (.r0 ((120 : Int)) : Zq)
   else
   some (.r0 ((0 : Int)) : Zq)
  )
 else
 ((Z2 (a0) (a1) (a2) (a3) N).bind fun r => match r with
 | .r0 y5_0 =>
  if ¬ (y5_0 = (0 : Int)) then
   some (.r0 ((120 : Int)) : Zq)
  else
  some (.r0 ((0 : Int)) : Zq)
 )

inductive ZaN where
 | r0 (w6 : Int) (w7 : Int)

def Zbf (L0 : List R_ii) (L2 : List R_iiii) (n3 : Nat) (n4 : Nat) (L5 : List R_ii) (L6 : List Int) (L7 : List Int) (a8 : Int) (a9 : Int) (a10 : Int) (N : Nat) : Option ZaN :=
 if (L0.length : Int) = (0 : Int) then
  some (.r0 ((-1 : Int)) ((0 : Int)) : ZaN)
 else
 if ((L0.length : Int) - (1 : Int)) ≤ (9223372036854775807 : Int) then
  if (0 : Int) ≤ (L0.getD (L0.length - 1) R_ii.z).a1 then
   some (.r0 ((L0.getD (L0.length - 1) R_ii.z).a0) ((1 : Int)) : ZaN)
  else
  some (.r0 ((L0.getD (L0.length - 1) R_ii.z).a0) ((0 : Int)) : ZaN)
 else
 none

inductive ZcU where
 | r0

def Zck (L0 : List R_ii) (L2 : List R_iiii) (n3 : Nat) (n4 : Nat) (L5 : List R_ii) (L6 : List Int) (L7 : List Int) (a8 : Int) (a9 : Int) (a10 : Int) (N : Nat) : Option ZcU :=
 if ((L0.length : Int) - (1 : Int)) ≤ (9223372036854775807 : Int) then
  if (0 : Int) ≤ ((L0.length : Int) - (1 : Int)) then
   some (.r0 : ZcU)
  else
  none
 else
 none

inductive Zai where
 | r0 (w5 : List R_ii)
 | r1 (w3 : List R_ii) (w6 : List R_ii) (w7 : List Int) (w8 : Int)
 | r2 (w0 : List R_ii) (w6 : List R_ii) (w7 : List Int)

def Zby (a0 : Int) (a1 : Int) (L2 : List R_ii) (L4 : List R_iiii) (n5 : Nat) (n6 : Nat) (L7 : List R_ii) (L8 : List Int) (L9 : List Int) (a10 : Int) (a11 : Int) (a12 : Int) (N : Nat) : Option Zai :=
 ((Zbf (L2) (L4) (n5) (n6) (L7) (L8) (L9) (a10) (a11) (a12) N).bind fun r => match r with
 | .r0 y0_0 y0_1 =>
  if L7.length ≤ 100000 then
   if L8.length ≤ 100000 then
    if a1 = (15 : Int) then
     if (L2.length : Int) = (0 : Int) then
      if L9.length ≤ 100000 then
       some (.r0 ((L7 ++ ([(⟨y0_0, y0_1⟩ : R_ii)] : List R_ii))) : Zai)
      else
      none
     else
     if L2.length ≤ 100000 then
      some (.r1 ((L2 ++ ([(⟨a0, (-1 : Int)⟩ : R_ii)] : List R_ii))) ((L7 ++ ([(⟨y0_0, y0_1⟩ : R_ii)] : List R_ii))) ((L8 ++ [(-1 : Int)])) ((if (((L2.length + 1) : Nat) : Int) > a10 then (((L2.length + 1) : Nat) : Int) else a10)) : Zai)
     else
     none
    else
    if a1 = (16 : Int) then
     if ((L2.length : Int) - (1 : Int)) ≤ (9223372036854775807 : Int) then
      if (0 : Int) ≤ ((L2.length : Int) - (1 : Int)) then
       if (0 : Int) ≤ (L2.getD (((L2.length : Int) - (1 : Int))).toNat R_ii.z).a0 then
        if ((L2.getD (((L2.length : Int) - (1 : Int))).toNat R_ii.z).a0).toNat < (L8.length + 1) then
         some (.r2 ((L2.set (((L2.length : Int) - (1 : Int))).toNat (⟨(L2.getD (((L2.length : Int) - (1 : Int))).toNat R_ii.z).a0, a0⟩ : R_ii))) ((L7 ++ ([(⟨y0_0, y0_1⟩ : R_ii)] : List R_ii))) (((L8 ++ [(-1 : Int)]).set ((L2.getD (((L2.length : Int) - (1 : Int))).toNat R_ii.z).a0).toNat a0)) : Zai)
        else
        none
       else
       none
      else
      none
     else
     none
    else
    if a1 = (17 : Int) then
     if ((L2.length : Int) - (1 : Int)) ≤ (9223372036854775807 : Int) then
      if (0 : Int) ≤ ((L2.length : Int) - (1 : Int)) then
       if (0 : Int) ≤ (L2.getD (((L2.length : Int) - (1 : Int))).toNat R_ii.z).a1 then
        if ((L2.getD (((L2.length : Int) - (1 : Int))).toNat R_ii.z).a1).toNat < (L8.length + 1) then
         if (0 : Int) ≤ a0 then
          if (a0).toNat < (L8.length + 1) then
           ((Zck (L2) (L4) (n5) (n6) ((L7 ++ ([(⟨y0_0, y0_1⟩ : R_ii)] : List R_ii))) ((((L8 ++ [(-1 : Int)]).set ((L2.getD (((L2.length : Int) - (1 : Int))).toNat R_ii.z).a1).toNat a0).set (a0).toNat (L2.getD (((L2.length : Int) - (1 : Int))).toNat R_ii.z).a0)) (L9) (a10) (a11) (a12) N).bind fun r => match r with
           | .r0 =>
            some (.r1 ((L2.take (((L2.length : Int) - (1 : Int))).toNat)) ((L7 ++ ([(⟨y0_0, y0_1⟩ : R_ii)] : List R_ii))) ((((L8 ++ [(-1 : Int)]).set ((L2.getD (((L2.length : Int) - (1 : Int))).toNat R_ii.z).a1).toNat a0).set (a0).toNat (L2.getD (((L2.length : Int) - (1 : Int))).toNat R_ii.z).a0)) (a10) : Zai)
           )
          else
          none
         else
         none
        else
        none
       else
       if (0 : Int) ≤ (L2.getD (((L2.length : Int) - (1 : Int))).toNat R_ii.z).a0 then
        if ((L2.getD (((L2.length : Int) - (1 : Int))).toNat R_ii.z).a0).toNat < (L8.length + 1) then
         if (0 : Int) ≤ a0 then
          if (a0).toNat < (L8.length + 1) then
           ((Zck (L2) (L4) (n5) (n6) ((L7 ++ ([(⟨y0_0, y0_1⟩ : R_ii)] : List R_ii))) ((((L8 ++ [(-1 : Int)]).set ((L2.getD (((L2.length : Int) - (1 : Int))).toNat R_ii.z).a0).toNat a0).set (a0).toNat (L2.getD (((L2.length : Int) - (1 : Int))).toNat R_ii.z).a0)) (L9) (a10) (a11) (a12) N).bind fun r => match r with
           | .r0 =>
            some (.r1 ((L2.take (((L2.length : Int) - (1 : Int))).toNat)) ((L7 ++ ([(⟨y0_0, y0_1⟩ : R_ii)] : List R_ii))) ((((L8 ++ [(-1 : Int)]).set ((L2.getD (((L2.length : Int) - (1 : Int))).toNat R_ii.z).a0).toNat a0).set (a0).toNat (L2.getD (((L2.length : Int) - (1 : Int))).toNat R_ii.z).a0)) (a10) : Zai)
           )
          else
          none
         else
         none
        else
        none
       else
       none
      else
      none
     else
     none
    else
    some (.r2 (L2) ((L7 ++ ([(⟨y0_0, y0_1⟩ : R_ii)] : List R_ii))) ((L8 ++ [(-1 : Int)])) : Zai)
   else
   none
  else
  none
 )

inductive ZN where
 | r0 (w4 : Int)

def ZbN (a0 : Int) (a1 : Int) (a2 : Int) (a3 : Int) (L5 : List R_iiii) (n6 : Nat) (n7 : Nat) (L8 : List R_ii) (L9 : List Int) (a10 : Int) (a11 : Int) (a12 : Int) (N : Nat) : Option ZN :=
 if a0 = (15 : Int) then
  ((Z2 (a0) (a1) (a2) (a3) N).bind fun r => match r with
  | .r0 y1_0 =>
   if ¬ (y1_0 = (0 : Int)) then
    some (.r0 ((120 : Int)) : ZN)
   else
   some (.r0 ((0 : Int)) : ZN)
  )
 else
 if a0 = (16 : Int) then
  some (.r0 ((120 : Int)) : ZN)
 else
 if a0 = (17 : Int) then
  some (.r0 ((120 : Int)) : ZN)
 else
 if a0 = (18 : Int) then
  some (.r0 ((120 : Int)) : ZN)
 else
 ((Z2 (a0) (a1) (a2) (a3) N).bind fun r => match r with
 | .r0 y5_0 =>
  if ¬ (y5_0 = (0 : Int)) then
   some (.r0 ((120 : Int)) : ZN)
  else
  some (.r0 ((0 : Int)) : ZN)
 )

inductive ZbU where
 | r0

def ZcE (L1 : List R_iiii) (n2 : Nat) (n3 : Nat) (L4 : List R_ii) (L5 : List Int) (a6 : Int) (a7 : Int) (a8 : Int) (N : Nat) : Option ZbU :=
 some (.r0 : ZbU)

inductive Zb8 where
 | r0
 | r1

def ZcK (a0 : Int) (a1 : Int) (L3 : List R_iiii) (n4 : Nat) (n5 : Nat) (L6 : List R_ii) (L7 : List Int) (a8 : Int) (a9 : Int) (a10 : Int) (N : Nat) : Option Zb8 :=
 ((ZcE (L3) (n4) (n5) (L6) (L7) (a8) (a9) (a10) N).bind fun r => match r with
 | .r0 =>
  if L6.length ≤ 100000 then
   if L7.length ≤ 100000 then
    if a1 = (15 : Int) then
     some (.r0 : Zb8)
    else
    if a1 = (16 : Int) then
     none
    else
    if a1 = (17 : Int) then
     none
    else
    some (.r1 : Zb8)
   else
   none
  else
  none
 )

inductive Za1 where
 | r0 (w7 : Int) (w8 : Int)

inductive Zaj where
 | h1m0 (v7 : Nat)

def ZaT (L1 : List R_iiii) (n2 : Nat) (n3 : Nat) (L4 : List R_ii) (L5 : List Int) (a6 : Int) (a7 : Int) (a8 : Int) (N : Nat) (v7 : Nat) : Option (Zaj ⊕ Za1) :=
 if (v7 : Int) < (n2 : Int) then
  if v7 < L1.length then
   ((ZbC ((L1.getD v7 R_iiii.z).a0) ((L1.getD v7 R_iiii.z).a1) ((L1.getD v7 R_iiii.z).a2) ((L1.getD v7 R_iiii.z).a3) N).bind fun r => match r with
   | .r0 y2_0 y2_1 =>
    if y2_1 = true then
     if (n2 : Int) < y2_0 then
      some (.inr (.r0 ((v7 : Int)) ((120 : Int)) : Za1))
     else
     if (0 : Int) ≤ y2_0 then
      if (y2_0).toNat < L4.length then
       if v7 < L4.length then
        if ¬ (((L4.getD (y2_0).toNat R_ii.z).a0 = (L4.getD v7 R_ii.z).a0 ∧ (L4.getD (y2_0).toNat R_ii.z).a1 = (L4.getD v7 R_ii.z).a1)) then
         some (.inr (.r0 ((v7 : Int)) ((120 : Int)) : Za1))
        else
        if (((v7 + 1) : Nat) : Int) ≤ (9223372036854775807 : Int) then
         some (.inl (.h1m0 ((v7 + 1)) : Zaj))
        else
        none
       else
       none
      else
      none
     else
     none
    else
    if (((v7 + 1) : Nat) : Int) ≤ (9223372036854775807 : Int) then
     some (.inl (.h1m0 ((v7 + 1)) : Zaj))
    else
    none
   )
  else
  none
 else
 some (.inr (.r0 (a7) (a8) : Za1))

def Zcw (L1 : List R_iiii) (n2 : Nat) (n3 : Nat) (L4 : List R_ii) (L5 : List Int) (a6 : Int) (a7 : Int) (a8 : Int) (N : Nat) : Zaj → Option (Zaj ⊕ Za1)
 | .h1m0 v7 => ZaT L1 n2 n3 L4 L5 a6 a7 a8 N v7

def ZeH (L1 : List R_iiii) (n2 : Nat) (n3 : Nat) (L4 : List R_ii) (L5 : List Int) (a6 : Int) (a7 : Int) (a8 : Int) (N : Nat) : Option (Zaj ⊕ Za1) :=
 some (.inl (.h1m0 (0) : Zaj))

def Zfq (L1 : List R_iiii) (n2 : Nat) (n3 : Nat) (L4 : List R_ii) (L5 : List Int) (a6 : Int) (a7 : Int) (a8 : Int) (N : Nat) : Option Za1 := goM (Zcw L1 n2 n3 L4 L5 a6 a7 a8 N) N (ZeH L1 n2 n3 L4 L5 a6 a7 a8 N)

inductive Za2 where
 | r0 (w9 : Int) (w10 : Int)

inductive Zak where
 | h1m0 (v9 : Nat)

def ZaU (L0 : List R_ii) (L2 : List R_iiii) (n3 : Nat) (n4 : Nat) (L5 : List R_ii) (L6 : List Int) (L7 : List Int) (a8 : Int) (a9 : Int) (a10 : Int) (N : Nat) (v9 : Nat) : Option (Zak ⊕ Za2) :=
 if (v9 : Int) < (n3 : Int) then
  if v9 < L2.length then
   ((ZbC ((L2.getD v9 R_iiii.z).a0) ((L2.getD v9 R_iiii.z).a1) ((L2.getD v9 R_iiii.z).a2) ((L2.getD v9 R_iiii.z).a3) N).bind fun r => match r with
   | .r0 y2_0 y2_1 =>
    if y2_1 = true then
     if (n3 : Int) < y2_0 then
      some (.inr (.r0 ((v9 : Int)) ((120 : Int)) : Za2))
     else
     if (0 : Int) ≤ y2_0 then
      if (y2_0).toNat < L5.length then
       if v9 < L5.length then
        if ¬ (((L5.getD (y2_0).toNat R_ii.z).a0 = (L5.getD v9 R_ii.z).a0 ∧ (L5.getD (y2_0).toNat R_ii.z).a1 = (L5.getD v9 R_ii.z).a1)) then
         some (.inr (.r0 ((v9 : Int)) ((120 : Int)) : Za2))
        else
        if (((v9 + 1) : Nat) : Int) ≤ (9223372036854775807 : Int) then
         some (.inl (.h1m0 ((v9 + 1)) : Zak))
        else
        none
       else
       none
      else
      none
     else
     none
    else
    if (((v9 + 1) : Nat) : Int) ≤ (9223372036854775807 : Int) then
     some (.inl (.h1m0 ((v9 + 1)) : Zak))
    else
    none
   )
  else
  none
 else
 some (.inr (.r0 (a9) (a10) : Za2))

def Zcx (L0 : List R_ii) (L2 : List R_iiii) (n3 : Nat) (n4 : Nat) (L5 : List R_ii) (L6 : List Int) (L7 : List Int) (a8 : Int) (a9 : Int) (a10 : Int) (N : Nat) : Zak → Option (Zak ⊕ Za2)
 | .h1m0 v9 => ZaU L0 L2 n3 n4 L5 L6 L7 a8 a9 a10 N v9

def ZeI (L0 : List R_ii) (L2 : List R_iiii) (n3 : Nat) (n4 : Nat) (L5 : List R_ii) (L6 : List Int) (L7 : List Int) (a8 : Int) (a9 : Int) (a10 : Int) (N : Nat) : Option (Zak ⊕ Za2) :=
 some (.inl (.h1m0 (0) : Zak))

def Zfr (L0 : List R_ii) (L2 : List R_iiii) (n3 : Nat) (n4 : Nat) (L5 : List R_ii) (L6 : List Int) (L7 : List Int) (a8 : Int) (a9 : Int) (a10 : Int) (N : Nat) : Option Za2 := goM (Zcx L0 L2 n3 n4 L5 L6 L7 a8 a9 a10 N) N (ZeI L0 L2 n3 n4 L5 L6 L7 a8 a9 a10 N)

inductive ZR where
 | r0 (w6 : Int)
 | r1 (w6 : Int) (w7 : Int)
 | r2 (w2 : List R_ii) (w5 : List R_ii) (w6 : List Int) (w7 : List Int) (w8 : Int) (w9 : Int) (w10 : Int)
 | r3 (w4 : List R_ii) (w5 : List Int) (w7 : Int) (w8 : Int)

inductive ZS where
 | h1m0
 | h1m1 (v7 : Nat) (v8 : List R_ii) (v11 : List R_ii) (v12 : List Int) (v13 : List Int) (v14 : Int)
 | h1m2 (v7 : Nat) (v10 : List R_ii) (v11 : List Int)

def ZcF (L1 : List R_iiii) (n2 : Nat) (n3 : Nat) (N : Nat) : Option (ZS ⊕ ZR) :=
 if (0 : Int) < (n2 : Int) then
  if 0 < L1.length then
   ((Zch ((L1.getD 0 R_iiii.z).a0) ((L1.getD 0 R_iiii.z).a1) ((L1.getD 0 R_iiii.z).a2) ((L1.getD 0 R_iiii.z).a3) (L1) (n2) (n3) ((0 : Int)) ((-1 : Int)) ((0 : Int)) N).bind fun r => match r with
   | .r0 y2_0 =>
    if ¬ (y2_0 = (0 : Int)) then
     some (.inr (.r0 (y2_0) : ZR))
    else
    ((Zde ((0 : Int)) ((L1.getD 0 R_iiii.z).a0) (L1) (n2) (n3) ((0 : Int)) ((-1 : Int)) ((0 : Int)) N).bind fun r => match r with
    | .r0 =>
     some (.inl (.h1m1 (1) (([(⟨(0 : Int), (-1 : Int)⟩ : R_ii)] : List R_ii)) (([(⟨(-1 : Int), (0 : Int)⟩ : R_ii)] : List R_ii)) ([(-1 : Int)]) (([(0 : Int)] : List Int)) ((if (1 : Int) > (0 : Int) then (1 : Int) else (0 : Int))) : ZS))
    | .r1 =>
     some (.inl (.h1m2 (1) (([(⟨(-1 : Int), (0 : Int)⟩ : R_ii)] : List R_ii)) ([(-1 : Int)]) : ZS))
    )
   )
  else
  none
 else
 ((Zgk (L1) (n2) (n3) (([(⟨(-1 : Int), (0 : Int)⟩ : R_ii)] : List R_ii)) ((0 : Int)) ((-1 : Int)) ((0 : Int)) N).bind fun r => match r with
 | .r0 y1_0 y1_1 =>
  some (.inr (.r1 (y1_0) (y1_1) : ZR))
 )

def Zbr (L1 : List R_iiii) (n2 : Nat) (n3 : Nat) (N : Nat) (v7 : Nat) (v8 : List R_ii) (v11 : List R_ii) (v12 : List Int) (v13 : List Int) (v14 : Int) : Option (ZS ⊕ ZR) :=
 if (v7 : Int) < (n2 : Int) then
  if v7 < L1.length then
   ((ZbM ((L1.getD v7 R_iiii.z).a0) ((L1.getD v7 R_iiii.z).a1) ((L1.getD v7 R_iiii.z).a2) ((L1.getD v7 R_iiii.z).a3) (v8) (L1) (n2) (n3) (v11) (v12) (v13) (v14) ((-1 : Int)) ((0 : Int)) N).bind fun r => match r with
   | .r0 y2_0 =>
    if ¬ (y2_0 = (0 : Int)) then
     some (.inr (.r2 (v8) (v11) (v12) (v13) (v14) ((v7 : Int)) (y2_0) : ZR))
    else
    ((Zby ((v7 : Int)) ((L1.getD v7 R_iiii.z).a0) (v8) (L1) (n2) (n3) (v11) (v12) (v13) (v14) ((-1 : Int)) ((0 : Int)) N).bind fun r => match r with
    | .r0 y4_0 =>
     if (((v7 + 1) : Nat) : Int) ≤ (9223372036854775807 : Int) then
      some (.inl (.h1m1 ((v7 + 1)) ((v8 ++ ([(⟨(v7 : Int), (-1 : Int)⟩ : R_ii)] : List R_ii))) (y4_0) ((v12 ++ [(-1 : Int)])) ((v13 ++ ([(v7 : Int)] : List Int))) ((if (((v8.length + 1) : Nat) : Int) > v14 then (((v8.length + 1) : Nat) : Int) else v14)) : ZS))
     else
     none
    | .r1 y4_0 y4_1 y4_2 y4_3 =>
     if (((v7 + 1) : Nat) : Int) ≤ (9223372036854775807 : Int) then
      some (.inl (.h1m1 ((v7 + 1)) (y4_0) (y4_1) (y4_2) (v13) (y4_3) : ZS))
     else
     none
    | .r2 y4_0 y4_1 y4_2 =>
     if (((v7 + 1) : Nat) : Int) ≤ (9223372036854775807 : Int) then
      some (.inl (.h1m1 ((v7 + 1)) (y4_0) (y4_1) (y4_2) (v13) (v14) : ZS))
     else
     none
    )
   )
  else
  none
 else
 if (0 : Int) < (v8.length : Int) then
  some (.inr (.r2 (v8) (v11) (v12) (v13) (v14) ((n2 : Int)) ((120 : Int)) : ZR))
 else
 if v11.length ≤ 100000 then
  ((Zfr (v8) (L1) (n2) (n3) ((v11 ++ ([(⟨(-1 : Int), (0 : Int)⟩ : R_ii)] : List R_ii))) (v12) (v13) (v14) ((-1 : Int)) ((0 : Int)) N).bind fun r => match r with
  | .r0 y3_0 y3_1 =>
   some (.inr (.r2 (v8) ((v11 ++ ([(⟨(-1 : Int), (0 : Int)⟩ : R_ii)] : List R_ii))) (v12) (v13) (v14) (y3_0) (y3_1) : ZR))
  )
 else
 none

def ZbT (L1 : List R_iiii) (n2 : Nat) (n3 : Nat) (N : Nat) (v7 : Nat) (v10 : List R_ii) (v11 : List Int) : Option (ZS ⊕ ZR) :=
 if (v7 : Int) < (n2 : Int) then
  if v7 < L1.length then
   ((ZbN ((L1.getD v7 R_iiii.z).a0) ((L1.getD v7 R_iiii.z).a1) ((L1.getD v7 R_iiii.z).a2) ((L1.getD v7 R_iiii.z).a3) (L1) (n2) (n3) (v10) (v11) ((0 : Int)) ((-1 : Int)) ((0 : Int)) N).bind fun r => match r with
   | .r0 y2_0 =>
    if ¬ (y2_0 = (0 : Int)) then
     some (.inr (.r3 (v10) (v11) ((v7 : Int)) (y2_0) : ZR))
    else
    ((ZcK ((v7 : Int)) ((L1.getD v7 R_iiii.z).a0) (L1) (n2) (n3) (v10) (v11) ((0 : Int)) ((-1 : Int)) ((0 : Int)) N).bind fun r => match r with
    | .r0 =>
     if (((v7 + 1) : Nat) : Int) ≤ (9223372036854775807 : Int) then
      some (.inl (.h1m1 ((v7 + 1)) (([(⟨(v7 : Int), (-1 : Int)⟩ : R_ii)] : List R_ii)) ((v10 ++ ([(⟨(-1 : Int), (0 : Int)⟩ : R_ii)] : List R_ii))) ((v11 ++ [(-1 : Int)])) (([(v7 : Int)] : List Int)) ((if (1 : Int) > (0 : Int) then (1 : Int) else (0 : Int))) : ZS))
     else
     none
    | .r1 =>
     if (((v7 + 1) : Nat) : Int) ≤ (9223372036854775807 : Int) then
      some (.inl (.h1m2 ((v7 + 1)) ((v10 ++ ([(⟨(-1 : Int), (0 : Int)⟩ : R_ii)] : List R_ii))) ((v11 ++ [(-1 : Int)])) : ZS))
     else
     none
    )
   )
  else
  none
 else
 if v10.length ≤ 100000 then
  ((Zfq (L1) (n2) (n3) ((v10 ++ ([(⟨(-1 : Int), (0 : Int)⟩ : R_ii)] : List R_ii))) (v11) ((0 : Int)) ((-1 : Int)) ((0 : Int)) N).bind fun r => match r with
  | .r0 y2_0 y2_1 =>
   some (.inr (.r3 ((v10 ++ ([(⟨(-1 : Int), (0 : Int)⟩ : R_ii)] : List R_ii))) (v11) (y2_0) (y2_1) : ZR))
  )
 else
 none

def ZbG (L1 : List R_iiii) (n2 : Nat) (n3 : Nat) (N : Nat) : ZS → Option (ZS ⊕ ZR)
 | .h1m0 => ZcF L1 n2 n3 N
 | .h1m1 v7 v8 v11 v12 v13 v14 => Zbr L1 n2 n3 N v7 v8 v11 v12 v13 v14
 | .h1m2 v7 v10 v11 => ZbT L1 n2 n3 N v7 v10 v11

def ZeW (L1 : List R_iiii) (n2 : Nat) (n3 : Nat) (N : Nat) : Option (ZS ⊕ ZR) :=
 if (n2 : Int) = (0 : Int) then
  some (.inr (.r0 ((120 : Int)) : ZR))
 else
 if (512 : Int) < (n2 : Int) then
  some (.inr (.r0 ((120 : Int)) : ZR))
 else
 some (.inl (.h1m0 : ZS))

def Zcq (L1 : List R_iiii) (n2 : Nat) (n3 : Nat) (N : Nat) : Option ZR := goM (ZbG L1 n2 n3 N) N (ZeW L1 n2 n3 N)

inductive ZbD where
 | r0 (w2 : Int)

def Zbh (L1 : List R_iiii) (n2 : Nat) (n3 : Nat) (N : Nat) : Option ZbD :=
 ((Zcq (L1) (n2) (n3) N).bind fun r => match r with
 | .r0 y0_0 =>
  some (.r0 (y0_0) : ZbD)
 | .r1 y0_0 y0_1 =>
  some (.r0 (y0_1) : ZbD)
 | .r2 y0_0 y0_1 y0_2 y0_3 y0_4 y0_5 y0_6 =>
  some (.r0 (y0_6) : ZbD)
 | .r3 y0_0 y0_1 y0_2 y0_3 =>
  some (.r0 (y0_3) : ZbD)
 )

inductive Zcc where
 | r0 (w0 : Int) (w1 : Bool)

def ZdA (a0 : Int) (a1 : Int) (a2 : Int) (a3 : Int) (N : Nat) : Option Zcc :=
 if a0 = (8 : Int) then
  some (.r0 (a1) (true) : Zcc)
 else
 if a0 = (9 : Int) then
  some (.r0 (a2) (true) : Zcc)
 else
 some (.r0 ((0 : Int)) (false) : Zcc)

inductive ZcY where
 | r0 (w1 : Int) (w2 : Int)

def ZeX (a0 : Int) (a1 : Int) (a2 : Int) (a3 : Int) (a4 : Int) (N : Nat) : Option ZcY :=
 if a0 = (8 : Int) then
  some (.r0 (a4) (a2) : ZcY)
 else
 if a0 = (9 : Int) then
  some (.r0 (a1) (a4) : ZcY)
 else
 some (.r0 (a1) (a2) : ZcY)

inductive ZO where
 | r0 (w1 : Int)

def ZbO (a0 : Int) (a1 : Int) (a2 : Int) (a3 : Int) (L4 : List R_iiii) (a5 : Int) (a6 : Int) (a7 : Int) (N : Nat) : Option ZO :=
 if a0 = (15 : Int) then
  ((Z2 (a0) (a1) (a2) (a3) N).bind fun r => match r with
  | .r0 y1_0 =>
   if ¬ (y1_0 = (0 : Int)) then
    some (.r0 ((120 : Int)) : ZO)
   else
   some (.r0 ((0 : Int)) : ZO)
  )
 else
 if a0 = (16 : Int) then
  some (.r0 ((120 : Int)) : ZO)
 else
 if a0 = (17 : Int) then
  some (.r0 ((120 : Int)) : ZO)
 else
 if a0 = (18 : Int) then
  some (.r0 ((120 : Int)) : ZO)
 else
 ((Z2 (a0) (a1) (a2) (a3) N).bind fun r => match r with
 | .r0 y5_0 =>
  if ¬ (y5_0 = (0 : Int)) then
   some (.r0 ((120 : Int)) : ZO)
  else
  some (.r0 ((0 : Int)) : ZO)
 )

inductive ZbV where
 | r0

def ZcG (L0 : List R_iiii) (a1 : Int) (a2 : Int) (a3 : Int) (N : Nat) : Option ZbV :=
 some (.r0 : ZbV)

inductive Zb9 where
 | r0
 | r1

def ZcL (a0 : Int) (a1 : Int) (L2 : List R_iiii) (a3 : Int) (a4 : Int) (a5 : Int) (N : Nat) : Option Zb9 :=
 ((ZcG (L2) (a3) (a4) (a5) N).bind fun r => match r with
 | .r0 =>
  if a1 = (15 : Int) then
   some (.r0 : Zb9)
  else
  if a1 = (16 : Int) then
   none
  else
  if a1 = (17 : Int) then
   none
  else
  some (.r1 : Zb9)
 )

inductive Za3 where
 | r0 (w3 : Int) (w4 : Int)

inductive Zal where
 | h1m0 (v3 : Nat)

def ZdT (L0 : List R_iiii) (L1 : List R_ii) (a2 : Int) (a3 : Int) (a4 : Int) (N : Nat) (v3 : Nat) : Option (Zal ⊕ Za3) :=
 if (v3 : Int) < (L0.length : Int) then
  ((ZbC ((L0.getD v3 R_iiii.z).a0) ((L0.getD v3 R_iiii.z).a1) ((L0.getD v3 R_iiii.z).a2) ((L0.getD v3 R_iiii.z).a3) N).bind fun r => match r with
  | .r0 y1_0 y1_1 =>
   if y1_1 = true then
    if (L0.length : Int) < y1_0 then
     some (.inr (.r0 ((v3 : Int)) ((120 : Int)) : Za3))
    else
    if (0 : Int) ≤ y1_0 then
     if (y1_0).toNat < L1.length then
      if v3 < L1.length then
       if ¬ (((L1.getD (y1_0).toNat R_ii.z).a0 = (L1.getD v3 R_ii.z).a0 ∧ (L1.getD (y1_0).toNat R_ii.z).a1 = (L1.getD v3 R_ii.z).a1)) then
        some (.inr (.r0 ((v3 : Int)) ((120 : Int)) : Za3))
       else
       if (((v3 + 1) : Nat) : Int) ≤ (9223372036854775807 : Int) then
        some (.inl (.h1m0 ((v3 + 1)) : Zal))
       else
       none
      else
      none
     else
     none
    else
    none
   else
   if (((v3 + 1) : Nat) : Int) ≤ (9223372036854775807 : Int) then
    some (.inl (.h1m0 ((v3 + 1)) : Zal))
   else
   none
  )
 else
 some (.inr (.r0 (a3) (a4) : Za3))

def Zdf (L0 : List R_iiii) (L1 : List R_ii) (a2 : Int) (a3 : Int) (a4 : Int) (N : Nat) : Zal → Option (Zal ⊕ Za3)
 | .h1m0 v3 => ZdT L0 L1 a2 a3 a4 N v3

def ZeJ (L0 : List R_iiii) (L1 : List R_ii) (a2 : Int) (a3 : Int) (a4 : Int) (N : Nat) : Option (Zal ⊕ Za3) :=
 some (.inl (.h1m0 (0) : Zal))

def Zfs (L0 : List R_iiii) (L1 : List R_ii) (a2 : Int) (a3 : Int) (a4 : Int) (N : Nat) : Option Za3 := goM (Zdf L0 L1 a2 a3 a4 N) N (ZeJ L0 L1 a2 a3 a4 N)

inductive Zr where
 | r0 (w5 : Int)

def ZbP (a0 : Int) (a1 : Int) (a2 : Int) (a3 : Int) (L4 : List R_ii) (L5 : List R_iiii) (L6 : List R_ii) (L7 : List Int) (L8 : List Int) (a9 : Int) (a10 : Int) (a11 : Int) (N : Nat) : Option Zr :=
 if a0 = (15 : Int) then
  if (8 : Int) ≤ (L4.length : Int) then
   ((Z2 (a0) (a1) (a2) (a3) N).bind fun r => match r with
   | .r0 y2_0 =>
    if y2_0 = (0 : Int) then
     some (.r0 ((140 : Int)) : Zr)
    else
    ((Z2 (a0) (a1) (a2) (a3) N).bind fun r => match r with
    | .r0 y4_0 =>
     if ¬ (y4_0 = (0 : Int)) then
      some (.r0 ((120 : Int)) : Zr)
     else
     some (.r0 ((0 : Int)) : Zr)
    )
   )
  else
  ((Z2 (a0) (a1) (a2) (a3) N).bind fun r => match r with
  | .r0 y2_0 =>
   if ¬ (y2_0 = (0 : Int)) then
    some (.r0 ((120 : Int)) : Zr)
   else
   some (.r0 ((0 : Int)) : Zr)
  )
 else
 if a0 = (16 : Int) then
  if (L4.length : Int) = (0 : Int) then
   some (.r0 ((120 : Int)) : Zr)
  else
  if ((L4.length : Int) - (1 : Int)) ≤ (9223372036854775807 : Int) then
   if (0 : Int) ≤ (L4.getD (L4.length - 1) R_ii.z).a1 then
    some (.r0 ((120 : Int)) : Zr)
   else
   ((Z2 (a0) (a1) (a2) (a3) N).bind fun r => match r with
   | .r0 y5_0 =>
    if ¬ (y5_0 = (0 : Int)) then
     some (.r0 ((120 : Int)) : Zr)
    else
    some (.r0 ((0 : Int)) : Zr)
   )
  else
  none
 else
 if a0 = (17 : Int) then
  if (L4.length : Int) = (0 : Int) then
   some (.r0 ((120 : Int)) : Zr)
  else
  ((Z2 (a0) (a1) (a2) (a3) N).bind fun r => match r with
  | .r0 y4_0 =>
   if ¬ (y4_0 = (0 : Int)) then
    some (.r0 ((120 : Int)) : Zr)
   else
   some (.r0 ((0 : Int)) : Zr)
  )
 else
 if a0 = (18 : Int) then
  if (L4.length : Int) = (0 : Int) then
   some (.r0 ((120 : Int)) : Zr)
  else
  ((Z2 (a0) (a1) (a2) (a3) N).bind fun r => match r with
  | .r0 y5_0 =>
   if ¬ (y5_0 = (0 : Int)) then
    some (.r0 ((120 : Int)) : Zr)
   else
   some (.r0 ((0 : Int)) : Zr)
  )
 else
 if a0 = (20 : Int) then
  if (0 : Int) < (L4.length : Int) then
   some (.r0 ((120 : Int)) : Zr)
  else
  ((Z2 (a0) (a1) (a2) (a3) N).bind fun r => match r with
  | .r0 y6_0 =>
   if ¬ (y6_0 = (0 : Int)) then
    some (.r0 ((120 : Int)) : Zr)
   else
   some (.r0 ((0 : Int)) : Zr)
  )
 else
 ((Z2 (a0) (a1) (a2) (a3) N).bind fun r => match r with
 | .r0 y5_0 =>
  if ¬ (y5_0 = (0 : Int)) then
   some (.r0 ((120 : Int)) : Zr)
  else
  some (.r0 ((0 : Int)) : Zr)
 )

inductive ZaO where
 | r0 (w5 : Int) (w6 : Int)

def Zbg (L0 : List R_ii) (L1 : List R_iiii) (L2 : List R_ii) (L3 : List Int) (L4 : List Int) (a5 : Int) (a6 : Int) (a7 : Int) (N : Nat) : Option ZaO :=
 if (L0.length : Int) = (0 : Int) then
  some (.r0 ((-1 : Int)) ((0 : Int)) : ZaO)
 else
 if ((L0.length : Int) - (1 : Int)) ≤ (9223372036854775807 : Int) then
  if (0 : Int) ≤ (L0.getD (L0.length - 1) R_ii.z).a1 then
   some (.r0 ((L0.getD (L0.length - 1) R_ii.z).a0) ((1 : Int)) : ZaO)
  else
  some (.r0 ((L0.getD (L0.length - 1) R_ii.z).a0) ((0 : Int)) : ZaO)
 else
 none

inductive Zcy where
 | r0

def ZbL (L0 : List R_ii) (L1 : List R_iiii) (L2 : List R_ii) (L3 : List Int) (L4 : List Int) (a5 : Int) (a6 : Int) (a7 : Int) (N : Nat) : Option Zcy :=
 if ((L0.length : Int) - (1 : Int)) ≤ (9223372036854775807 : Int) then
  if (0 : Int) ≤ ((L0.length : Int) - (1 : Int)) then
   some (.r0 : Zcy)
  else
  none
 else
 none

inductive Zam where
 | r0 (w2 : List R_ii)
 | r1 (w2 : List R_ii) (w3 : List R_ii) (w4 : List Int) (w5 : Int)
 | r2 (w0 : List R_ii) (w3 : List R_ii) (w4 : List Int)

def Zbz (a0 : Int) (a1 : Int) (L2 : List R_ii) (L3 : List R_iiii) (L4 : List R_ii) (L5 : List Int) (L6 : List Int) (a7 : Int) (a8 : Int) (a9 : Int) (N : Nat) : Option Zam :=
 ((Zbg (L2) (L3) (L4) (L5) (L6) (a7) (a8) (a9) N).bind fun r => match r with
 | .r0 y0_0 y0_1 =>
  if L4.length ≤ 100000 then
   if L5.length ≤ 100000 then
    if a1 = (15 : Int) then
     if (L2.length : Int) = (0 : Int) then
      if L6.length ≤ 100000 then
       some (.r0 ((L4 ++ ([(⟨y0_0, y0_1⟩ : R_ii)] : List R_ii))) : Zam)
      else
      none
     else
     if L2.length ≤ 100000 then
      some (.r1 ((L2 ++ ([(⟨a0, (-1 : Int)⟩ : R_ii)] : List R_ii))) ((L4 ++ ([(⟨y0_0, y0_1⟩ : R_ii)] : List R_ii))) ((L5 ++ [(-1 : Int)])) ((if (((L2.length + 1) : Nat) : Int) > a7 then (((L2.length + 1) : Nat) : Int) else a7)) : Zam)
     else
     none
    else
    if a1 = (16 : Int) then
     if ((L2.length : Int) - (1 : Int)) ≤ (9223372036854775807 : Int) then
      if (0 : Int) ≤ ((L2.length : Int) - (1 : Int)) then
       if (0 : Int) ≤ (L2.getD (((L2.length : Int) - (1 : Int))).toNat R_ii.z).a0 then
        if ((L2.getD (((L2.length : Int) - (1 : Int))).toNat R_ii.z).a0).toNat < (L5.length + 1) then
         some (.r2 ((L2.set (((L2.length : Int) - (1 : Int))).toNat (⟨(L2.getD (((L2.length : Int) - (1 : Int))).toNat R_ii.z).a0, a0⟩ : R_ii))) ((L4 ++ ([(⟨y0_0, y0_1⟩ : R_ii)] : List R_ii))) (((L5 ++ [(-1 : Int)]).set ((L2.getD (((L2.length : Int) - (1 : Int))).toNat R_ii.z).a0).toNat a0)) : Zam)
        else
        none
       else
       none
      else
      none
     else
     none
    else
    if a1 = (17 : Int) then
     if ((L2.length : Int) - (1 : Int)) ≤ (9223372036854775807 : Int) then
      if (0 : Int) ≤ ((L2.length : Int) - (1 : Int)) then
       if (0 : Int) ≤ (L2.getD (((L2.length : Int) - (1 : Int))).toNat R_ii.z).a1 then
        if ((L2.getD (((L2.length : Int) - (1 : Int))).toNat R_ii.z).a1).toNat < (L5.length + 1) then
         if (0 : Int) ≤ a0 then
          if (a0).toNat < (L5.length + 1) then
           ((ZbL (L2) (L3) ((L4 ++ ([(⟨y0_0, y0_1⟩ : R_ii)] : List R_ii))) ((((L5 ++ [(-1 : Int)]).set ((L2.getD (((L2.length : Int) - (1 : Int))).toNat R_ii.z).a1).toNat a0).set (a0).toNat (L2.getD (((L2.length : Int) - (1 : Int))).toNat R_ii.z).a0)) (L6) (a7) (a8) (a9) N).bind fun r => match r with
           | .r0 =>
            some (.r1 ((L2.take (((L2.length : Int) - (1 : Int))).toNat)) ((L4 ++ ([(⟨y0_0, y0_1⟩ : R_ii)] : List R_ii))) ((((L5 ++ [(-1 : Int)]).set ((L2.getD (((L2.length : Int) - (1 : Int))).toNat R_ii.z).a1).toNat a0).set (a0).toNat (L2.getD (((L2.length : Int) - (1 : Int))).toNat R_ii.z).a0)) (a7) : Zam)
           )
          else
          none
         else
         none
        else
        none
       else
       if (0 : Int) ≤ (L2.getD (((L2.length : Int) - (1 : Int))).toNat R_ii.z).a0 then
        if ((L2.getD (((L2.length : Int) - (1 : Int))).toNat R_ii.z).a0).toNat < (L5.length + 1) then
         if (0 : Int) ≤ a0 then
          if (a0).toNat < (L5.length + 1) then
           ((ZbL (L2) (L3) ((L4 ++ ([(⟨y0_0, y0_1⟩ : R_ii)] : List R_ii))) ((((L5 ++ [(-1 : Int)]).set ((L2.getD (((L2.length : Int) - (1 : Int))).toNat R_ii.z).a0).toNat a0).set (a0).toNat (L2.getD (((L2.length : Int) - (1 : Int))).toNat R_ii.z).a0)) (L6) (a7) (a8) (a9) N).bind fun r => match r with
           | .r0 =>
            some (.r1 ((L2.take (((L2.length : Int) - (1 : Int))).toNat)) ((L4 ++ ([(⟨y0_0, y0_1⟩ : R_ii)] : List R_ii))) ((((L5 ++ [(-1 : Int)]).set ((L2.getD (((L2.length : Int) - (1 : Int))).toNat R_ii.z).a0).toNat a0).set (a0).toNat (L2.getD (((L2.length : Int) - (1 : Int))).toNat R_ii.z).a0)) (a7) : Zam)
           )
          else
          none
         else
         none
        else
        none
       else
       none
      else
      none
     else
     none
    else
    some (.r2 (L2) ((L4 ++ ([(⟨y0_0, y0_1⟩ : R_ii)] : List R_ii))) ((L5 ++ [(-1 : Int)])) : Zam)
   else
   none
  else
  none
 )

inductive ZP where
 | r0 (w3 : Int)

def ZbQ (a0 : Int) (a1 : Int) (a2 : Int) (a3 : Int) (L4 : List R_iiii) (L5 : List R_ii) (L6 : List Int) (a7 : Int) (a8 : Int) (a9 : Int) (N : Nat) : Option ZP :=
 if a0 = (15 : Int) then
  ((Z2 (a0) (a1) (a2) (a3) N).bind fun r => match r with
  | .r0 y1_0 =>
   if ¬ (y1_0 = (0 : Int)) then
    some (.r0 ((120 : Int)) : ZP)
   else
   some (.r0 ((0 : Int)) : ZP)
  )
 else
 if a0 = (16 : Int) then
  some (.r0 ((120 : Int)) : ZP)
 else
 if a0 = (17 : Int) then
  some (.r0 ((120 : Int)) : ZP)
 else
 if a0 = (18 : Int) then
  some (.r0 ((120 : Int)) : ZP)
 else
 ((Z2 (a0) (a1) (a2) (a3) N).bind fun r => match r with
 | .r0 y5_0 =>
  if ¬ (y5_0 = (0 : Int)) then
   some (.r0 ((120 : Int)) : ZP)
  else
  some (.r0 ((0 : Int)) : ZP)
 )

inductive ZbW where
 | r0

def ZcH (L0 : List R_iiii) (L1 : List R_ii) (L2 : List Int) (a3 : Int) (a4 : Int) (a5 : Int) (N : Nat) : Option ZbW :=
 some (.r0 : ZbW)

inductive ZbA where
 | r0
 | r1

def ZcM (a0 : Int) (a1 : Int) (L2 : List R_iiii) (L3 : List R_ii) (L4 : List Int) (a5 : Int) (a6 : Int) (a7 : Int) (N : Nat) : Option ZbA :=
 ((ZcH (L2) (L3) (L4) (a5) (a6) (a7) N).bind fun r => match r with
 | .r0 =>
  if L3.length ≤ 100000 then
   if L4.length ≤ 100000 then
    if a1 = (15 : Int) then
     some (.r0 : ZbA)
    else
    if a1 = (16 : Int) then
     none
    else
    if a1 = (17 : Int) then
     none
    else
    some (.r1 : ZbA)
   else
   none
  else
  none
 )

inductive Za4 where
 | r0 (w4 : Int) (w5 : Int)

inductive Zan where
 | h1m0 (v4 : Nat)

def ZaV (L0 : List R_iiii) (L1 : List R_ii) (L2 : List Int) (a3 : Int) (a4 : Int) (a5 : Int) (N : Nat) (v4 : Nat) : Option (Zan ⊕ Za4) :=
 if (v4 : Int) < (L0.length : Int) then
  ((ZbC ((L0.getD v4 R_iiii.z).a0) ((L0.getD v4 R_iiii.z).a1) ((L0.getD v4 R_iiii.z).a2) ((L0.getD v4 R_iiii.z).a3) N).bind fun r => match r with
  | .r0 y1_0 y1_1 =>
   if y1_1 = true then
    if (L0.length : Int) < y1_0 then
     some (.inr (.r0 ((v4 : Int)) ((120 : Int)) : Za4))
    else
    if (0 : Int) ≤ y1_0 then
     if (y1_0).toNat < L1.length then
      if v4 < L1.length then
       if ¬ (((L1.getD (y1_0).toNat R_ii.z).a0 = (L1.getD v4 R_ii.z).a0 ∧ (L1.getD (y1_0).toNat R_ii.z).a1 = (L1.getD v4 R_ii.z).a1)) then
        some (.inr (.r0 ((v4 : Int)) ((120 : Int)) : Za4))
       else
       if (((v4 + 1) : Nat) : Int) ≤ (9223372036854775807 : Int) then
        some (.inl (.h1m0 ((v4 + 1)) : Zan))
       else
       none
      else
      none
     else
     none
    else
    none
   else
   if (((v4 + 1) : Nat) : Int) ≤ (9223372036854775807 : Int) then
    some (.inl (.h1m0 ((v4 + 1)) : Zan))
   else
   none
  )
 else
 some (.inr (.r0 (a4) (a5) : Za4))

def Zcz (L0 : List R_iiii) (L1 : List R_ii) (L2 : List Int) (a3 : Int) (a4 : Int) (a5 : Int) (N : Nat) : Zan → Option (Zan ⊕ Za4)
 | .h1m0 v4 => ZaV L0 L1 L2 a3 a4 a5 N v4

def ZeK (L0 : List R_iiii) (L1 : List R_ii) (L2 : List Int) (a3 : Int) (a4 : Int) (a5 : Int) (N : Nat) : Option (Zan ⊕ Za4) :=
 some (.inl (.h1m0 (0) : Zan))

def Zft (L0 : List R_iiii) (L1 : List R_ii) (L2 : List Int) (a3 : Int) (a4 : Int) (a5 : Int) (N : Nat) : Option Za4 := goM (Zcz L0 L1 L2 a3 a4 a5 N) N (ZeK L0 L1 L2 a3 a4 a5 N)

inductive Za5 where
 | r0 (w6 : Int) (w7 : Int)

inductive Zao where
 | h1m0 (v6 : Nat)

def ZaW (L0 : List R_ii) (L1 : List R_iiii) (L2 : List R_ii) (L3 : List Int) (L4 : List Int) (a5 : Int) (a6 : Int) (a7 : Int) (N : Nat) (v6 : Nat) : Option (Zao ⊕ Za5) :=
 if (v6 : Int) < (L1.length : Int) then
  ((ZbC ((L1.getD v6 R_iiii.z).a0) ((L1.getD v6 R_iiii.z).a1) ((L1.getD v6 R_iiii.z).a2) ((L1.getD v6 R_iiii.z).a3) N).bind fun r => match r with
  | .r0 y1_0 y1_1 =>
   if y1_1 = true then
    if (L1.length : Int) < y1_0 then
     some (.inr (.r0 ((v6 : Int)) ((120 : Int)) : Za5))
    else
    if (0 : Int) ≤ y1_0 then
     if (y1_0).toNat < L2.length then
      if v6 < L2.length then
       if ¬ (((L2.getD (y1_0).toNat R_ii.z).a0 = (L2.getD v6 R_ii.z).a0 ∧ (L2.getD (y1_0).toNat R_ii.z).a1 = (L2.getD v6 R_ii.z).a1)) then
        some (.inr (.r0 ((v6 : Int)) ((120 : Int)) : Za5))
       else
       if (((v6 + 1) : Nat) : Int) ≤ (9223372036854775807 : Int) then
        some (.inl (.h1m0 ((v6 + 1)) : Zao))
       else
       none
      else
      none
     else
     none
    else
    none
   else
   if (((v6 + 1) : Nat) : Int) ≤ (9223372036854775807 : Int) then
    some (.inl (.h1m0 ((v6 + 1)) : Zao))
   else
   none
  )
 else
 some (.inr (.r0 (a6) (a7) : Za5))

def Zc0 (L0 : List R_ii) (L1 : List R_iiii) (L2 : List R_ii) (L3 : List Int) (L4 : List Int) (a5 : Int) (a6 : Int) (a7 : Int) (N : Nat) : Zao → Option (Zao ⊕ Za5)
 | .h1m0 v6 => ZaW L0 L1 L2 L3 L4 a5 a6 a7 N v6

def ZeL (L0 : List R_ii) (L1 : List R_iiii) (L2 : List R_ii) (L3 : List Int) (L4 : List Int) (a5 : Int) (a6 : Int) (a7 : Int) (N : Nat) : Option (Zao ⊕ Za5) :=
 some (.inl (.h1m0 (0) : Zao))

def Zfu (L0 : List R_ii) (L1 : List R_iiii) (L2 : List R_ii) (L3 : List Int) (L4 : List Int) (a5 : Int) (a6 : Int) (a7 : Int) (N : Nat) : Option Za5 := goM (Zc0 L0 L1 L2 L3 L4 a5 a6 a7 N) N (ZeL L0 L1 L2 L3 L4 a5 a6 a7 N)

inductive ZI where
 | r0 (w3 : Int)
 | r1 (w3 : Int) (w4 : Int)
 | r2 (w1 : List R_ii) (w2 : List R_ii) (w3 : List Int) (w4 : List Int) (w5 : Int) (w6 : Int) (w7 : Int)
 | r3 (w1 : List R_ii) (w2 : List Int) (w4 : Int) (w5 : Int)

inductive ZK where
 | h1m0
 | h1m1 (v2 : Nat) (v3 : List R_ii) (v4 : List R_ii) (v5 : List Int) (v6 : List Int) (v7 : Int)
 | h1m2 (v2 : Nat) (v3 : List R_ii) (v4 : List Int)

def Zci (L0 : List R_iiii) (N : Nat) : Option (ZK ⊕ ZI) :=
 if (0 : Int) < (L0.length : Int) then
  ((ZbO ((L0.getD 0 R_iiii.z).a0) ((L0.getD 0 R_iiii.z).a1) ((L0.getD 0 R_iiii.z).a2) ((L0.getD 0 R_iiii.z).a3) (L0) ((0 : Int)) ((-1 : Int)) ((0 : Int)) N).bind fun r => match r with
  | .r0 y1_0 =>
   if ¬ (y1_0 = (0 : Int)) then
    some (.inr (.r0 (y1_0) : ZI))
   else
   ((ZcL ((0 : Int)) ((L0.getD 0 R_iiii.z).a0) (L0) ((0 : Int)) ((-1 : Int)) ((0 : Int)) N).bind fun r => match r with
   | .r0 =>
    some (.inl (.h1m1 (1) (([(⟨(0 : Int), (-1 : Int)⟩ : R_ii)] : List R_ii)) (([(⟨(-1 : Int), (0 : Int)⟩ : R_ii)] : List R_ii)) ([(-1 : Int)]) (([(0 : Int)] : List Int)) ((if (1 : Int) > (0 : Int) then (1 : Int) else (0 : Int))) : ZK))
   | .r1 =>
    some (.inl (.h1m2 (1) (([(⟨(-1 : Int), (0 : Int)⟩ : R_ii)] : List R_ii)) ([(-1 : Int)]) : ZK))
   )
  )
 else
 ((Zfs (L0) (([(⟨(-1 : Int), (0 : Int)⟩ : R_ii)] : List R_ii)) ((0 : Int)) ((-1 : Int)) ((0 : Int)) N).bind fun r => match r with
 | .r0 y1_0 y1_1 =>
  some (.inr (.r1 (y1_0) (y1_1) : ZI))
 )

def Zbe (L0 : List R_iiii) (N : Nat) (v2 : Nat) (v3 : List R_ii) (v4 : List R_ii) (v5 : List Int) (v6 : List Int) (v7 : Int) : Option (ZK ⊕ ZI) :=
 if (v2 : Int) < (L0.length : Int) then
  ((ZbP ((L0.getD v2 R_iiii.z).a0) ((L0.getD v2 R_iiii.z).a1) ((L0.getD v2 R_iiii.z).a2) ((L0.getD v2 R_iiii.z).a3) (v3) (L0) (v4) (v5) (v6) (v7) ((-1 : Int)) ((0 : Int)) N).bind fun r => match r with
  | .r0 y1_0 =>
   if ¬ (y1_0 = (0 : Int)) then
    some (.inr (.r2 (v3) (v4) (v5) (v6) (v7) ((v2 : Int)) (y1_0) : ZI))
   else
   ((Zbz ((v2 : Int)) ((L0.getD v2 R_iiii.z).a0) (v3) (L0) (v4) (v5) (v6) (v7) ((-1 : Int)) ((0 : Int)) N).bind fun r => match r with
   | .r0 y3_0 =>
    if (((v2 + 1) : Nat) : Int) ≤ (9223372036854775807 : Int) then
     some (.inl (.h1m1 ((v2 + 1)) ((v3 ++ ([(⟨(v2 : Int), (-1 : Int)⟩ : R_ii)] : List R_ii))) (y3_0) ((v5 ++ [(-1 : Int)])) ((v6 ++ ([(v2 : Int)] : List Int))) ((if (((v3.length + 1) : Nat) : Int) > v7 then (((v3.length + 1) : Nat) : Int) else v7)) : ZK))
    else
    none
   | .r1 y3_0 y3_1 y3_2 y3_3 =>
    if (((v2 + 1) : Nat) : Int) ≤ (9223372036854775807 : Int) then
     some (.inl (.h1m1 ((v2 + 1)) (y3_0) (y3_1) (y3_2) (v6) (y3_3) : ZK))
    else
    none
   | .r2 y3_0 y3_1 y3_2 =>
    if (((v2 + 1) : Nat) : Int) ≤ (9223372036854775807 : Int) then
     some (.inl (.h1m1 ((v2 + 1)) (y3_0) (y3_1) (y3_2) (v6) (v7) : ZK))
    else
    none
   )
  )
 else
 if (0 : Int) < (v3.length : Int) then
  some (.inr (.r2 (v3) (v4) (v5) (v6) (v7) ((L0.length : Int)) ((120 : Int)) : ZI))
 else
 if v4.length ≤ 100000 then
  ((Zfu (v3) (L0) ((v4 ++ ([(⟨(-1 : Int), (0 : Int)⟩ : R_ii)] : List R_ii))) (v5) (v6) (v7) ((-1 : Int)) ((0 : Int)) N).bind fun r => match r with
  | .r0 y3_0 y3_1 =>
   some (.inr (.r2 (v3) ((v4 ++ ([(⟨(-1 : Int), (0 : Int)⟩ : R_ii)] : List R_ii))) (v5) (v6) (v7) (y3_0) (y3_1) : ZI))
  )
 else
 none

def Zb0 (L0 : List R_iiii) (N : Nat) (v2 : Nat) (v3 : List R_ii) (v4 : List Int) : Option (ZK ⊕ ZI) :=
 if (v2 : Int) < (L0.length : Int) then
  ((ZbQ ((L0.getD v2 R_iiii.z).a0) ((L0.getD v2 R_iiii.z).a1) ((L0.getD v2 R_iiii.z).a2) ((L0.getD v2 R_iiii.z).a3) (L0) (v3) (v4) ((0 : Int)) ((-1 : Int)) ((0 : Int)) N).bind fun r => match r with
  | .r0 y1_0 =>
   if ¬ (y1_0 = (0 : Int)) then
    some (.inr (.r3 (v3) (v4) ((v2 : Int)) (y1_0) : ZI))
   else
   ((ZcM ((v2 : Int)) ((L0.getD v2 R_iiii.z).a0) (L0) (v3) (v4) ((0 : Int)) ((-1 : Int)) ((0 : Int)) N).bind fun r => match r with
   | .r0 =>
    if (((v2 + 1) : Nat) : Int) ≤ (9223372036854775807 : Int) then
     some (.inl (.h1m1 ((v2 + 1)) (([(⟨(v2 : Int), (-1 : Int)⟩ : R_ii)] : List R_ii)) ((v3 ++ ([(⟨(-1 : Int), (0 : Int)⟩ : R_ii)] : List R_ii))) ((v4 ++ [(-1 : Int)])) (([(v2 : Int)] : List Int)) ((if (1 : Int) > (0 : Int) then (1 : Int) else (0 : Int))) : ZK))
    else
    none
   | .r1 =>
    if (((v2 + 1) : Nat) : Int) ≤ (9223372036854775807 : Int) then
     some (.inl (.h1m2 ((v2 + 1)) ((v3 ++ ([(⟨(-1 : Int), (0 : Int)⟩ : R_ii)] : List R_ii))) ((v4 ++ [(-1 : Int)])) : ZK))
    else
    none
   )
  )
 else
 if v3.length ≤ 100000 then
  ((Zft (L0) ((v3 ++ ([(⟨(-1 : Int), (0 : Int)⟩ : R_ii)] : List R_ii))) (v4) ((0 : Int)) ((-1 : Int)) ((0 : Int)) N).bind fun r => match r with
  | .r0 y2_0 y2_1 =>
   some (.inr (.r3 ((v3 ++ ([(⟨(-1 : Int), (0 : Int)⟩ : R_ii)] : List R_ii))) (v4) (y2_0) (y2_1) : ZI))
  )
 else
 none

def Zbs (L0 : List R_iiii) (N : Nat) : ZK → Option (ZK ⊕ ZI)
 | .h1m0 => Zci L0 N
 | .h1m1 v2 v3 v4 v5 v6 v7 => Zbe L0 N v2 v3 v4 v5 v6 v7
 | .h1m2 v2 v3 v4 => Zb0 L0 N v2 v3 v4

def Zei (L0 : List R_iiii) (N : Nat) : Option (ZK ⊕ ZI) :=
 if (L0.length : Int) = (0 : Int) then
  some (.inr (.r0 ((120 : Int)) : ZI))
 else
 if (512 : Int) < (L0.length : Int) then
  some (.inr (.r0 ((120 : Int)) : ZI))
 else
 some (.inl (.h1m0 : ZK))

def ZbE (L0 : List R_iiii) (N : Nat) : Option ZI := goM (Zbs L0 N) N (Zei L0 N)

inductive Zbp where
 | r0 (w1 : Int)

def ZdG (L0 : List R_iiii) (N : Nat) : Option Zbp :=
 ((ZbE (L0) N).bind fun r => match r with
 | .r0 y0_0 =>
  some (.r0 (y0_0) : Zbp)
 | .r1 y0_0 y0_1 =>
  some (.r0 (y0_1) : Zbp)
 | .r2 y0_0 y0_1 y0_2 y0_3 y0_4 y0_5 y0_6 =>
  some (.r0 (y0_6) : Zbp)
 | .r3 y0_0 y0_1 y0_2 y0_3 =>
  some (.r0 (y0_3) : Zbp)
 )

inductive ZaX where
 | r0 (w1 : Int)

def ZeE (L0 : List R_iiii) (N : Nat) : Option ZaX :=
 ((ZbE (L0) N).bind fun r => match r with
 | .r0 y0_0 =>
  some (.r0 ((0 : Int)) : ZaX)
 | .r1 y0_0 y0_1 =>
  some (.r0 ((0 : Int)) : ZaX)
 | .r2 y0_0 y0_1 y0_2 y0_3 y0_4 y0_5 y0_6 =>
  if ¬ (y0_6 = (0 : Int)) then
   some (.r0 ((0 : Int)) : ZaX)
  else
  some (.r0 (y0_4) : ZaX)
 | .r3 y0_0 y0_1 y0_2 y0_3 =>
  some (.r0 ((0 : Int)) : ZaX)
 )

inductive ZaD where
 | r0 (w2 : Int)

def Zdu (L1 : List R_iiii) (n2 : Nat) (n3 : Nat) (N : Nat) : Option ZaD :=
 ((Zcq (L1) (n2) (n3) N).bind fun r => match r with
 | .r0 y0_0 =>
  some (.r0 ((0 : Int)) : ZaD)
 | .r1 y0_0 y0_1 =>
  some (.r0 ((0 : Int)) : ZaD)
 | .r2 y0_0 y0_1 y0_2 y0_3 y0_4 y0_5 y0_6 =>
  if ¬ (y0_6 = (0 : Int)) then
   some (.r0 ((0 : Int)) : ZaD)
  else
  some (.r0 (y0_4) : ZaD)
 | .r3 y0_0 y0_1 y0_2 y0_3 =>
  some (.r0 ((0 : Int)) : ZaD)
 )

inductive ZaE where
 | r0
 | r1 (w1 : List Int)

def ZdB (L0 : List R_iiii) (N : Nat) : Option ZaE :=
 ((ZbE (L0) N).bind fun r => match r with
 | .r0 y0_0 =>
  some (.r0 : ZaE)
 | .r1 y0_0 y0_1 =>
  some (.r0 : ZaE)
 | .r2 y0_0 y0_1 y0_2 y0_3 y0_4 y0_5 y0_6 =>
  if ¬ (y0_6 = (0 : Int)) then
   some (.r0 : ZaE)
  else
  some (.r1 (y0_3) : ZaE)
 | .r3 y0_0 y0_1 y0_2 y0_3 =>
  some (.r0 : ZaE)
 )

inductive Zav where
 | r0
 | r1 (w2 : List Int)

def Zbq (L1 : List R_iiii) (n2 : Nat) (n3 : Nat) (N : Nat) : Option Zav :=
 ((Zcq (L1) (n2) (n3) N).bind fun r => match r with
 | .r0 y0_0 =>
  some (.r0 : Zav)
 | .r1 y0_0 y0_1 =>
  some (.r0 : Zav)
 | .r2 y0_0 y0_1 y0_2 y0_3 y0_4 y0_5 y0_6 =>
  if ¬ (y0_6 = (0 : Int)) then
   some (.r0 : Zav)
  else
  some (.r1 (y0_3) : Zav)
 | .r3 y0_0 y0_1 y0_2 y0_3 =>
  some (.r0 : Zav)
 )

inductive Zp where
 | r0 (w4 : Bool)

inductive ZD where
 | h1m0 (v4 : Nat) (v5 : Nat) (v6 : Nat) (v7 : Nat) (v8 : List R_iiii) (v9 : Nat)

def Zb4 (L1 : List R_iiii) (n2 : Nat) (n3 : Nat) (L5 : List R_iiii) (n6 : Nat) (n7 : Nat) (N : Nat) (v4 : Nat) (v5 : Nat) (v6 : Nat) (v7 : Nat) (v8 : List R_iiii) (v9 : Nat) : Option (ZD ⊕ Zp) :=
 if (v9 : Int) < (v6 : Int) then
  if v9 < L5.length then
   ((ZdA ((L5.getD v9 R_iiii.z).a0) ((L5.getD v9 R_iiii.z).a1) ((L5.getD v9 R_iiii.z).a2) ((L5.getD v9 R_iiii.z).a3) N).bind fun r => match r with
   | .r0 y2_0 y2_1 =>
    ((ZeX ((L5.getD v9 R_iiii.z).a0) ((L5.getD v9 R_iiii.z).a1) ((L5.getD v9 R_iiii.z).a2) ((L5.getD v9 R_iiii.z).a3) ((IntKind.i64.wrap (y2_0 + (v4 : Int)))) N).bind fun r => match r with
    | .r0 y3_0 y3_1 =>
     if v8.length ≤ 100000 then
      if (((v9 + 1) : Nat) : Int) ≤ (9223372036854775807 : Int) then
       some (.inl (.h1m0 (v4) (v5) (v6) (v7) ((v8 ++ ([(⟨(L5.getD v9 R_iiii.z).a0, y3_0, y3_1, (L5.getD v9 R_iiii.z).a3⟩ : R_iiii)] : List R_iiii))) ((v9 + 1)) : ZD))
      else
      none
     else
     none
    )
   )
  else
  none
 else
 ((ZdG (v8) N).bind fun r => match r with
 | .r0 y1_0 =>
  if y1_0 = (0 : Int) then
   ((ZeE (v8) N).bind fun r => match r with
   | .r0 y3_0 =>
    ((Zdu (L1) (v4) (v5) N).bind fun r => match r with
    | .r0 y4_0 =>
     ((Zdu (L5) (v6) (v7) N).bind fun r => match r with
     | .r0 y5_0 =>
      if y3_0 = (if y5_0 > y4_0 then y5_0 else y4_0) then
       ((ZdB (v8) N).bind fun r => match r with
       | .r0 =>
        ((Zbq (L1) (v4) (v5) N).bind fun r => match r with
        | .r0 =>
         ((Zbq (L5) (v6) (v7) N).bind fun r => match r with
         | .r0 =>
          some (.inr (.r0 (true) : Zp))
         | .r1 y9_0 =>
          if (y9_0.length : Int) ≤ (9223372036854775807 : Int) then
           if (0 : Int) = (y9_0.length : Int) then
            some (.inr (.r0 (true) : Zp))
           else
           some (.inr (.r0 (false) : Zp))
          else
          none
         )
        | .r1 y8_0 =>
         ((Zbq (L5) (v6) (v7) N).bind fun r => match r with
         | .r0 =>
          if (y8_0.length : Int) ≤ (9223372036854775807 : Int) then
           if (0 : Int) = (y8_0.length : Int) then
            some (.inr (.r0 (true) : Zp))
           else
           some (.inr (.r0 (false) : Zp))
          else
          none
         | .r1 y9_0 =>
          if (((y8_0.length + y9_0.length) : Nat) : Int) ≤ (9223372036854775807 : Int) then
           if (0 : Int) = (((y8_0.length + y9_0.length) : Nat) : Int) then
            some (.inr (.r0 (true) : Zp))
           else
           some (.inr (.r0 (false) : Zp))
          else
          none
         )
        )
       | .r1 y7_0 =>
        ((Zbq (L1) (v4) (v5) N).bind fun r => match r with
        | .r0 =>
         ((Zbq (L5) (v6) (v7) N).bind fun r => match r with
         | .r0 =>
          if (y7_0.length : Int) = (0 : Int) then
           some (.inr (.r0 (true) : Zp))
          else
          some (.inr (.r0 (false) : Zp))
         | .r1 y9_0 =>
          if (y9_0.length : Int) ≤ (9223372036854775807 : Int) then
           if (y7_0.length : Int) = (y9_0.length : Int) then
            some (.inr (.r0 (true) : Zp))
           else
           some (.inr (.r0 (false) : Zp))
          else
          none
         )
        | .r1 y8_0 =>
         ((Zbq (L5) (v6) (v7) N).bind fun r => match r with
         | .r0 =>
          if (y8_0.length : Int) ≤ (9223372036854775807 : Int) then
           if (y7_0.length : Int) = (y8_0.length : Int) then
            some (.inr (.r0 (true) : Zp))
           else
           some (.inr (.r0 (false) : Zp))
          else
          none
         | .r1 y9_0 =>
          if (((y8_0.length + y9_0.length) : Nat) : Int) ≤ (9223372036854775807 : Int) then
           if (y7_0.length : Int) = (((y8_0.length + y9_0.length) : Nat) : Int) then
            some (.inr (.r0 (true) : Zp))
           else
           some (.inr (.r0 (false) : Zp))
          else
          none
         )
        )
       )
      else
      some (.inr (.r0 (false) : Zp))
     )
    )
   )
  else
  some (.inr (.r0 (false) : Zp))
 )

def Zcd (L1 : List R_iiii) (n2 : Nat) (n3 : Nat) (L5 : List R_iiii) (n6 : Nat) (n7 : Nat) (N : Nat) : ZD → Option (ZD ⊕ Zp)
 | .h1m0 v4 v5 v6 v7 v8 v9 => Zb4 L1 n2 n3 L5 n6 n7 N v4 v5 v6 v7 v8 v9

def ZbZ (L1 : List R_iiii) (n2 : Nat) (n3 : Nat) (L5 : List R_iiii) (n6 : Nat) (n7 : Nat) (N : Nat) : Option (ZD ⊕ Zp) :=
 if (60 : Int) < (n2 : Int) then
  if (60 : Int) ≤ (n3 : Int) then
   if (60 : Int) < (n6 : Int) then
    if (60 : Int) ≤ (n7 : Int) then
     ((Zbh (L1) ((60 - 0)) ((n3 - 0)) N).bind fun r => match r with
     | .r0 y4_0 =>
      if ¬ (y4_0 = (0 : Int)) then
       some (.inr (.r0 (true) : Zp))
      else
      ((Zbh (L5) ((60 - 0)) ((n7 - 0)) N).bind fun r => match r with
      | .r0 y6_0 =>
       if ¬ (y6_0 = (0 : Int)) then
        some (.inr (.r0 (true) : Zp))
       else
       if (60 - 0) ≤ L1.length then
        some (.inl (.h1m0 ((60 - 0)) ((n3 - 0)) ((60 - 0)) ((n7 - 0)) ((L1.take (60 - 0))) (0) : ZD))
       else
       none
      )
     )
    else
    none
   else
   ((Zbh (L1) ((60 - 0)) ((n3 - 0)) N).bind fun r => match r with
   | .r0 y3_0 =>
    if ¬ (y3_0 = (0 : Int)) then
     some (.inr (.r0 (true) : Zp))
    else
    ((Zbh (L5) (n6) (n7) N).bind fun r => match r with
    | .r0 y5_0 =>
     if ¬ (y5_0 = (0 : Int)) then
      some (.inr (.r0 (true) : Zp))
     else
     if (60 - 0) ≤ L1.length then
      some (.inl (.h1m0 ((60 - 0)) ((n3 - 0)) (n6) (n7) ((L1.take (60 - 0))) (0) : ZD))
     else
     none
    )
   )
  else
  none
 else
 if (60 : Int) < (n6 : Int) then
  if (60 : Int) ≤ (n7 : Int) then
   ((Zbh (L1) (n2) (n3) N).bind fun r => match r with
   | .r0 y3_0 =>
    if ¬ (y3_0 = (0 : Int)) then
     some (.inr (.r0 (true) : Zp))
    else
    ((Zbh (L5) ((60 - 0)) ((n7 - 0)) N).bind fun r => match r with
    | .r0 y5_0 =>
     if ¬ (y5_0 = (0 : Int)) then
      some (.inr (.r0 (true) : Zp))
     else
     if n2 = 0 then
      some (.inl (.h1m0 (n2) (n3) ((60 - 0)) ((n7 - 0)) (([] : List R_iiii)) (0) : ZD))
     else
     if n2 ≤ L1.length then
      some (.inl (.h1m0 (n2) (n3) ((60 - 0)) ((n7 - 0)) ((L1.take n2)) (0) : ZD))
     else
     none
    )
   )
  else
  none
 else
 ((Zbh (L1) (n2) (n3) N).bind fun r => match r with
 | .r0 y2_0 =>
  if ¬ (y2_0 = (0 : Int)) then
   some (.inr (.r0 (true) : Zp))
  else
  ((Zbh (L5) (n6) (n7) N).bind fun r => match r with
  | .r0 y4_0 =>
   if ¬ (y4_0 = (0 : Int)) then
    some (.inr (.r0 (true) : Zp))
   else
   if n2 = 0 then
    some (.inl (.h1m0 (n2) (n3) (n6) (n7) (([] : List R_iiii)) (0) : ZD))
   else
   if n2 ≤ L1.length then
    some (.inl (.h1m0 (n2) (n3) (n6) (n7) ((L1.take n2)) (0) : ZD))
   else
   none
  )
 )

def ZfJ (L1 : List R_iiii) (n2 : Nat) (n3 : Nat) (L5 : List R_iiii) (n6 : Nat) (n7 : Nat) (N : Nat) : Option Zp := goM (Zcd L1 n2 n3 L5 n6 n7 N) N (ZbZ L1 n2 n3 L5 n6 n7 N)

inductive ZdH where
 | r0

def ZeY  (N : Nat) : Option ZdH :=
 some (.r0 : ZdH)

inductive Zd2 where
 | r0

def Zcr  (N : Nat) : Option Zd2 :=
 ((ZeY N).bind fun r => match r with
 | .r0 =>
  some (.r0 : Zd2)
 )

inductive ZaF where
 | r0

def Zdb (L1 : List R_iiii) (n2 : Nat) (n3 : Nat) (N : Nat) : Option ZaF :=
 if (60 : Int) < (n2 : Int) then
  if (60 : Int) ≤ (n3 : Int) then
   ((Zbh (L1) ((60 - 0)) ((n3 - 0)) N).bind fun r => match r with
   | .r0 y2_0 =>
    if ¬ (y2_0 = (0 : Int)) then
     some (.r0 : ZaF)
    else
    ((Zcr N).bind fun r => match r with
    | .r0 =>
     some (.r0 : ZaF)
    )
   )
  else
  none
 else
 ((Zbh (L1) (n2) (n3) N).bind fun r => match r with
 | .r0 y1_0 =>
  if ¬ (y1_0 = (0 : Int)) then
   some (.r0 : ZaF)
  else
  ((Zcr N).bind fun r => match r with
  | .r0 =>
   some (.r0 : ZaF)
  )
 )

inductive Zbw where
 | r0

def Zdc (L1 : List R_iiii) (n2 : Nat) (n3 : Nat) (N : Nat) : Option Zbw :=
 if (60 : Int) < (n2 : Int) then
  if (60 : Int) ≤ (n3 : Int) then
   ((Zcr N).bind fun r => match r with
   | .r0 =>
    some (.r0 : Zbw)
   )
  else
  none
 else
 ((Zcr N).bind fun r => match r with
 | .r0 =>
  some (.r0 : Zbw)
 )

inductive Zco where
 | r0

def ZdL  (N : Nat) : Option Zco :=
 ((Zcr N).bind fun r => match r with
 | .r0 =>
  some (.r0 : Zco)
 )
end Ev
end Go.Proofs.Ytpgbennpiihajaa
