/- Records, and the program's functions as plain ones. -/
import Derived.Test.YtpgbennpiihajaaFm
namespace Go.Proofs.Ytpgbennpiihajaa
open Go.RowKit
namespace Ev
set_option linter.unusedVariables false
structure R_ii where
 a0 : Int
 a1 : Int
def R_ii.z : R_ii := ⟨0, 0⟩
structure R_iiii where
 a0 : Int
 a1 : Int
 a2 : Int
 a3 : Int
def R_iiii.z : R_iiii := ⟨0, 0, 0, 0⟩
inductive Z4 where
 | r0
 | r1
 | r2
 | r3
 | r4
 | r5
 | r6
 | r7
 | r8
 | r9
 | r10
 | r11
 | r12
 | r13
 | r14
 | r15
 | r16
 | r17
 | r18
 | r19
 | r20

def Za7 (a0 : Int) (N : Nat) : Option Z4 :=
 if a0 < (0 : Int) then
  some (.r0 : Z4)
 else
 if (21 : Int) ≤ a0 then
  some (.r0 : Z4)
 else
 if a0 = (0 : Int) then
  some (.r0 : Z4)
 else
 if a0 = (1 : Int) then
  some (.r1 : Z4)
 else
 if a0 = (2 : Int) then
  some (.r2 : Z4)
 else
 if a0 = (3 : Int) then
  some (.r3 : Z4)
 else
 if a0 = (4 : Int) then
  some (.r4 : Z4)
 else
 if a0 = (5 : Int) then
  some (.r5 : Z4)
 else
 if a0 = (6 : Int) then
  some (.r6 : Z4)
 else
 if a0 = (7 : Int) then
  some (.r7 : Z4)
 else
 if a0 = (8 : Int) then
  some (.r8 : Z4)
 else
 if a0 = (9 : Int) then
  some (.r9 : Z4)
 else
 if a0 = (10 : Int) then
  some (.r10 : Z4)
 else
 if a0 = (11 : Int) then
  some (.r11 : Z4)
 else
 if a0 = (12 : Int) then
  some (.r12 : Z4)
 else
 if a0 = (13 : Int) then
  some (.r13 : Z4)
 else
 if a0 = (14 : Int) then
  some (.r14 : Z4)
 else
 if a0 = (15 : Int) then
  some (.r15 : Z4)
 else
 if a0 = (16 : Int) then
  some (.r16 : Z4)
 else
 if a0 = (17 : Int) then
  some (.r17 : Z4)
 else
 if a0 = (18 : Int) then
  some (.r18 : Z4)
 else
 if a0 = (19 : Int) then
  some (.r19 : Z4)
 else
 some (.r20 : Z4)

inductive Zv where
 | r0 (w0 : Bool)

def ZI (a0 : Int) (a1 : Int) (a2 : Int) (N : Nat) : Option Zv :=
 if a0 = (1 : Int) then
  if (0 : Int) ≤ a1 then
   if a1 ≤ (7 : Int) then
    some (.r0 (true) : Zv)
   else
   some (.r0 (false) : Zv)
  else
  some (.r0 (false) : Zv)
 else
 if a0 = (2 : Int) then
  if (0 : Int) ≤ a1 then
   if a1 ≤ (15 : Int) then
    some (.r0 (true) : Zv)
   else
   some (.r0 (false) : Zv)
  else
  some (.r0 (false) : Zv)
 else
 if a0 = (3 : Int) then
  if (1 : Int) ≤ a1 then
   if a1 ≤ (16 : Int) then
    some (.r0 (true) : Zv)
   else
   some (.r0 (false) : Zv)
  else
  some (.r0 (false) : Zv)
 else
 if a0 = (4 : Int) then
  if (0 : Int) ≤ a1 then
   if a1 ≤ (512 : Int) then
    some (.r0 (true) : Zv)
   else
   some (.r0 (false) : Zv)
  else
  some (.r0 (false) : Zv)
 else
 if a0 = (5 : Int) then
  if (0 : Int) ≤ a2 then
   if a2 ≤ (64 : Int) then
    if (0 : Int) ≤ a1 then
     if a1 ≤ (IntKind.i64.wrap ((IntKind.i64.wrap ((1 : Int) * (2 ^ (a2).toNat : Int))) - (1 : Int))) then
      some (.r0 (true) : Zv)
     else
     some (.r0 (false) : Zv)
    else
    some (.r0 (false) : Zv)
   else
   none
  else
  none
 else
 if a0 = (6 : Int) then
  if (-1099511627776 : Int) ≤ a1 then
   if a1 ≤ (1099511627776 : Int) then
    some (.r0 (true) : Zv)
   else
   some (.r0 (false) : Zv)
  else
  some (.r0 (false) : Zv)
 else
 if (0 : Int) ≤ a1 then
  if a1 ≤ (0 : Int) then
   some (.r0 (true) : Zv)
  else
  some (.r0 (false) : Zv)
 else
 some (.r0 (false) : Zv)

inductive ZaD where
 | r0 (w0 : Int)

inductive Zt where
 | h1m0 (v1 : Nat) (v2 : Nat) (v3 : Nat)
 | h1m1 (v1 : Nat) (v2 : Nat) (v3 : Nat)
 | h1m2 (v1 : Nat) (v2 : Nat) (v3 : Nat)
 | h1m3 (v1 : Nat) (v2 : Nat) (v3 : Nat)

def ZcS (a0 : Int) (a1 : Int) (a2 : Int) (a3 : Int) (N : Nat) (v1 : Nat) (v2 : Nat) (v3 : Nat) : Option (Zt ⊕ ZaD) :=
 ((ZI ((v1 : Int)) (a1) ((0 : Int)) N).bind fun r => match r with
 | .r0 y0_0 =>
  if ¬ (y0_0 = true) then
   some (.inr (.r0 ((100 : Int)) : ZaD))
  else
  some (.inl (.h1m1 (v1) (v2) (v3) : Zt))
 )

def ZcT (a0 : Int) (a1 : Int) (a2 : Int) (a3 : Int) (N : Nat) (v1 : Nat) (v2 : Nat) (v3 : Nat) : Option (Zt ⊕ ZaD) :=
 ((ZI ((v2 : Int)) (a2) (a1) N).bind fun r => match r with
 | .r0 y0_0 =>
  if ¬ (y0_0 = true) then
   some (.inr (.r0 ((100 : Int)) : ZaD))
  else
  some (.inl (.h1m2 (v1) (v2) (v3) : Zt))
 )

def ZcU (a0 : Int) (a1 : Int) (a2 : Int) (a3 : Int) (N : Nat) (v1 : Nat) (v2 : Nat) (v3 : Nat) : Option (Zt ⊕ ZaD) :=
 ((ZI ((v3 : Int)) (a3) (a2) N).bind fun r => match r with
 | .r0 y0_0 =>
  if ¬ (y0_0 = true) then
   some (.inr (.r0 ((100 : Int)) : ZaD))
  else
  some (.inl (.h1m3 (v1) (v2) (v3) : Zt))
 )

def Zf2 (a0 : Int) (a1 : Int) (a2 : Int) (a3 : Int) (N : Nat) (v1 : Nat) (v2 : Nat) (v3 : Nat) : Option (Zt ⊕ ZaD) :=
 some (.inr (.r0 ((0 : Int)) : ZaD))

def Zc8 (a0 : Int) (a1 : Int) (a2 : Int) (a3 : Int) (N : Nat) : Zt → Option (Zt ⊕ ZaD)
 | .h1m0 v1 v2 v3 => ZcS a0 a1 a2 a3 N v1 v2 v3
 | .h1m1 v1 v2 v3 => ZcT a0 a1 a2 a3 N v1 v2 v3
 | .h1m2 v1 v2 v3 => ZcU a0 a1 a2 a3 N v1 v2 v3
 | .h1m3 v1 v2 v3 => Zf2 a0 a1 a2 a3 N v1 v2 v3

def ZfB (a0 : Int) (a1 : Int) (a2 : Int) (a3 : Int) (N : Nat) : Option (Zt ⊕ ZaD) :=
 ((Za7 (a0) N).bind fun r => match r with
 | .r0 =>
  some (.inr (.r0 ((100 : Int)) : ZaD))
 | .r1 =>
  some (.inl (.h1m0 (1) (6) (0) : Zt))
 | .r2 =>
  some (.inl (.h1m0 (1) (0) (0) : Zt))
 | .r3 =>
  some (.inl (.h1m0 (1) (1) (0) : Zt))
 | .r4 =>
  some (.inl (.h1m0 (1) (1) (1) : Zt))
 | .r5 =>
  some (.inl (.h1m0 (1) (1) (1) : Zt))
 | .r6 =>
  some (.inl (.h1m0 (1) (1) (1) : Zt))
 | .r7 =>
  some (.inl (.h1m0 (1) (1) (1) : Zt))
 | .r8 =>
  some (.inl (.h1m0 (4) (0) (0) : Zt))
 | .r9 =>
  some (.inl (.h1m0 (1) (4) (0) : Zt))
 | .r10 =>
  some (.inl (.h1m0 (1) (0) (0) : Zt))
 | .r11 =>
  some (.inl (.h1m0 (1) (3) (5) : Zt))
 | .r12 =>
  some (.inl (.h1m0 (1) (0) (0) : Zt))
 | .r13 =>
  some (.inl (.h1m0 (1) (1) (2) : Zt))
 | .r14 =>
  some (.inl (.h1m0 (1) (2) (1) : Zt))
 | .r15 =>
  some (.inl (.h1m0 (0) (0) (0) : Zt))
 | .r16 =>
  some (.inl (.h1m0 (0) (0) (0) : Zt))
 | .r17 =>
  some (.inl (.h1m0 (0) (0) (0) : Zt))
 | .r18 =>
  some (.inl (.h1m0 (0) (0) (0) : Zt))
 | .r19 =>
  some (.inl (.h1m0 (1) (0) (0) : Zt))
 | .r20 =>
  some (.inl (.h1m0 (0) (0) (0) : Zt))
 )

def ZG (a0 : Int) (a1 : Int) (a2 : Int) (a3 : Int) (N : Nat) : Option ZaD := goM (Zc8 a0 a1 a2 a3 N) N (ZfB a0 a1 a2 a3 N)

inductive Zae where
 | r0 (w2 : Int)

def Zc6 (a0 : Int) (a1 : Int) (a2 : Int) (a3 : Int) (L5 : List R_iiii) (n6 : Nat) (n7 : Nat) (a8 : Int) (a9 : Int) (a10 : Int) (N : Nat) : Option Zae :=
 if a0 = (15 : Int) then
  ((ZG (a0) (a1) (a2) (a3) N).bind fun r => match r with
  | .r0 y1_0 =>
   if ¬ (y1_0 = (0 : Int)) then
    some (.r0 ((120 : Int)) : Zae)
   else
   some (.r0 ((0 : Int)) : Zae)
  )
 else
 if a0 = (16 : Int) then
  some (.r0 ((120 : Int)) : Zae)
 else
 if a0 = (17 : Int) then
  some (.r0 ((120 : Int)) : Zae)
 else
 if a0 = (18 : Int) then
  some (.r0 ((120 : Int)) : Zae)
 else
 ((ZG (a0) (a1) (a2) (a3) N).bind fun r => match r with
 | .r0 y5_0 =>
  if ¬ (y5_0 = (0 : Int)) then
   some (.r0 ((120 : Int)) : Zae)
  else
  some (.r0 ((0 : Int)) : Zae)
 )

inductive ZcB where
 | r0

def ZdL (L1 : List R_iiii) (n2 : Nat) (n3 : Nat) (a4 : Int) (a5 : Int) (a6 : Int) (N : Nat) : Option ZcB :=
 some (.r0 : ZcB)

inductive Zco where
 | r0
 | r1

def ZdQ (a0 : Int) (a1 : Int) (L3 : List R_iiii) (n4 : Nat) (n5 : Nat) (a6 : Int) (a7 : Int) (a8 : Int) (N : Nat) : Option Zco :=
 ((ZdL (L3) (n4) (n5) (a6) (a7) (a8) N).bind fun r => match r with
 | .r0 =>
  if a1 = (15 : Int) then
   some (.r0 : Zco)
  else
  if a1 = (16 : Int) then
   none
  else
  if a1 = (17 : Int) then
   none
  else
  some (.r1 : Zco)
 )

inductive Zcy where
 | r0 (w0 : Int) (w1 : Bool)

def Zdm (a0 : Int) (a1 : Int) (a2 : Int) (a3 : Int) (N : Nat) : Option Zcy :=
 if a0 = (8 : Int) then
  some (.r0 (a1) (true) : Zcy)
 else
 if a0 = (9 : Int) then
  some (.r0 (a2) (true) : Zcy)
 else
 some (.r0 ((0 : Int)) (false) : Zcy)

inductive ZaP where
 | r0 (w6 : Int) (w7 : Int)

inductive Za0 where
 | h1m0 (v6 : Nat)

def Zf3 (L1 : List R_iiii) (n2 : Nat) (n3 : Nat) (L4 : List R_ii) (a5 : Int) (a6 : Int) (a7 : Int) (N : Nat) (v6 : Nat) : Option (Za0 ⊕ ZaP) :=
 if (v6 : Int) < (n2 : Int) then
  if v6 < L1.length then
   ((Zdm ((L1.getD v6 R_iiii.z).a0) ((L1.getD v6 R_iiii.z).a1) ((L1.getD v6 R_iiii.z).a2) ((L1.getD v6 R_iiii.z).a3) N).bind fun r => match r with
   | .r0 y2_0 y2_1 =>
    if y2_1 = true then
     if (n2 : Int) < y2_0 then
      some (.inr (.r0 ((v6 : Int)) ((120 : Int)) : ZaP))
     else
     if (0 : Int) ≤ y2_0 then
      if (y2_0).toNat < L4.length then
       if v6 < L4.length then
        if ¬ (((L4.getD (y2_0).toNat R_ii.z).a0 = (L4.getD v6 R_ii.z).a0 ∧ (L4.getD (y2_0).toNat R_ii.z).a1 = (L4.getD v6 R_ii.z).a1)) then
         some (.inr (.r0 ((v6 : Int)) ((120 : Int)) : ZaP))
        else
        if (((v6 + 1) : Nat) : Int) ≤ (9223372036854775807 : Int) then
         some (.inl (.h1m0 ((v6 + 1)) : Za0))
        else
        none
       else
       none
      else
      none
     else
     none
    else
    if (((v6 + 1) : Nat) : Int) ≤ (9223372036854775807 : Int) then
     some (.inl (.h1m0 ((v6 + 1)) : Za0))
    else
    none
   )
  else
  none
 else
 some (.inr (.r0 (a6) (a7) : ZaP))

def Ze7 (L1 : List R_iiii) (n2 : Nat) (n3 : Nat) (L4 : List R_ii) (a5 : Int) (a6 : Int) (a7 : Int) (N : Nat) : Za0 → Option (Za0 ⊕ ZaP)
 | .h1m0 v6 => Zf3 L1 n2 n3 L4 a5 a6 a7 N v6

def Zg9 (L1 : List R_iiii) (n2 : Nat) (n3 : Nat) (L4 : List R_ii) (a5 : Int) (a6 : Int) (a7 : Int) (N : Nat) : Option (Za0 ⊕ ZaP) :=
 some (.inl (.h1m0 (0) : Za0))

def Zhs (L1 : List R_iiii) (n2 : Nat) (n3 : Nat) (L4 : List R_ii) (a5 : Int) (a6 : Int) (a7 : Int) (N : Nat) : Option ZaP := goM (Ze7 L1 n2 n3 L4 a5 a6 a7 N) N (Zg9 L1 n2 n3 L4 a5 a6 a7 N)

inductive Zq where
 | r0 (w6 : Int)

def Zcf (a0 : Int) (a1 : Int) (a2 : Int) (a3 : Int) (L4 : List R_ii) (L6 : List R_iiii) (n7 : Nat) (n8 : Nat) (L9 : List R_ii) (L10 : List Int) (L11 : List Int) (a12 : Int) (a13 : Int) (a14 : Int) (N : Nat) : Option Zq :=
 if a0 = (15 : Int) then
  if (8 : Int) ≤ (L4.length : Int) then
   ((ZG (a0) (a1) (a2) (a3) N).bind fun r => match r with
   | .r0 y2_0 =>
    if y2_0 = (0 : Int) then
     some (.r0 ((140 : Int)) : Zq)
    else
    ((ZG (a0) (a1) (a2) (a3) N).bind fun r => match r with
    | .r0 y4_0 =>
     if ¬ (y4_0 = (0 : Int)) then
      some (.r0 ((120 : Int)) : Zq)
     else
     some (.r0 ((0 : Int)) : Zq)
    )
   )
  else
  ((ZG (a0) (a1) (a2) (a3) N).bind fun r => match r with
  | .r0 y2_0 =>
   if ¬ (y2_0 = (0 : Int)) then
    some (.r0 ((120 : Int)) : Zq)
   else
   some (.r0 ((0 : Int)) : Zq)
  )
 else
 if a0 = (16 : Int) then
  if (L4.length : Int) = (0 : Int) then
   some (.r0 ((120 : Int)) : Zq)
  else
  if ((L4.length : Int) - (1 : Int)) ≤ (9223372036854775807 : Int) then
   if (0 : Int) ≤ (L4.getD (L4.length - 1) R_ii.z).a1 then
    some (.r0 ((120 : Int)) : Zq)
   else
   ((ZG (a0) (a1) (a2) (a3) N).bind fun r => match r with
   | .r0 y5_0 =>
    if ¬ (y5_0 = (0 : Int)) then
     some (.r0 ((120 : Int)) : Zq)
    else
    some (.r0 ((0 : Int)) : Zq)
   )
  else
  none
 else
 if a0 = (17 : Int) then
  if (L4.length : Int) = (0 : Int) then
   some (.r0 ((120 : Int)) : Zq)
  else
  ((ZG (a0) (a1) (a2) (a3) N).bind fun r => match r with
  | .r0 y4_0 =>
   if ¬ (y4_0 = (0 : Int)) then
    some (.r0 ((120 : Int)) : Zq)
   else
   some (.r0 ((0 : Int)) : Zq)
  )
 else
 if a0 = (18 : Int) then
  if (L4.length : Int) = (0 : Int) then
   some (.r0 ((120 : Int)) : Zq)
  else
  ((ZG (a0) (a1) (a2) (a3) N).bind fun r => match r with
  | .r0 y5_0 =>
   if ¬ (y5_0 = (0 : Int)) then
    some (.r0 ((120 : Int)) : Zq)
   else
   some (.r0 ((0 : Int)) : Zq)
  )
 else
 if a0 = (20 : Int) then
  if (0 : Int) < (L4.length : Int) then
   some (.r0 ((120 : Int)) : Zq)
  else
  ((ZG (a0) (a1) (a2) (a3) N).bind fun r => match r with
  | .r0 y6_0 =>
   if ¬ (y6_0 = (0 : Int)) then
    some (.r0 ((120 : Int)) : Zq)
   else
   some (.r0 ((0 : Int)) : Zq)
  )
 else
 ((ZG (a0) (a1) (a2) (a3) N).bind fun r => match r with
 | .r0 y5_0 =>
  if ¬ (y5_0 = (0 : Int)) then
   some (.r0 ((120 : Int)) : Zq)
  else
  some (.r0 ((0 : Int)) : Zq)
 )

inductive ZaX where
 | r0 (w6 : Int) (w7 : Int)

def Zbm (L0 : List R_ii) (L2 : List R_iiii) (n3 : Nat) (n4 : Nat) (L5 : List R_ii) (L6 : List Int) (L7 : List Int) (a8 : Int) (a9 : Int) (a10 : Int) (N : Nat) : Option ZaX :=
 if (L0.length : Int) = (0 : Int) then
  some (.r0 ((-1 : Int)) ((0 : Int)) : ZaX)
 else
 if ((L0.length : Int) - (1 : Int)) ≤ (9223372036854775807 : Int) then
  if (0 : Int) ≤ (L0.getD (L0.length - 1) R_ii.z).a1 then
   some (.r0 ((L0.getD (L0.length - 1) R_ii.z).a0) ((1 : Int)) : ZaX)
  else
  some (.r0 ((L0.getD (L0.length - 1) R_ii.z).a0) ((0 : Int)) : ZaX)
 else
 none

inductive ZdF where
 | r0

def Zc9 (L0 : List R_ii) (L2 : List R_iiii) (n3 : Nat) (n4 : Nat) (L5 : List R_ii) (L6 : List Int) (L7 : List Int) (a8 : Int) (a9 : Int) (a10 : Int) (N : Nat) : Option ZdF :=
 if ((L0.length : Int) - (1 : Int)) ≤ (9223372036854775807 : Int) then
  if (0 : Int) ≤ ((L0.length : Int) - (1 : Int)) then
   some (.r0 : ZdF)
  else
  none
 else
 none

inductive Zar where
 | r0 (w5 : List R_ii)
 | r1 (w3 : List R_ii) (w6 : List R_ii) (w7 : List Int) (w8 : Int)
 | r2 (w0 : List R_ii) (w6 : List R_ii) (w7 : List Int)

def ZbA (a0 : Int) (a1 : Int) (L2 : List R_ii) (L4 : List R_iiii) (n5 : Nat) (n6 : Nat) (L7 : List R_ii) (L8 : List Int) (L9 : List Int) (a10 : Int) (a11 : Int) (a12 : Int) (N : Nat) : Option Zar :=
 ((Zbm (L2) (L4) (n5) (n6) (L7) (L8) (L9) (a10) (a11) (a12) N).bind fun r => match r with
 | .r0 y0_0 y0_1 =>
  if L7.length ≤ 100000 then
   if L8.length ≤ 100000 then
    if a1 = (15 : Int) then
     if (L2.length : Int) = (0 : Int) then
      if L9.length ≤ 100000 then
       some (.r0 ((L7 ++ ([(⟨y0_0, y0_1⟩ : R_ii)] : List R_ii))) : Zar)
      else
      none
     else
     if L2.length ≤ 100000 then
      some (.r1 ((L2 ++ ([(⟨a0, (-1 : Int)⟩ : R_ii)] : List R_ii))) ((L7 ++ ([(⟨y0_0, y0_1⟩ : R_ii)] : List R_ii))) ((L8 ++ [(-1 : Int)])) ((if (((L2.length + 1) : Nat) : Int) > a10 then (((L2.length + 1) : Nat) : Int) else a10)) : Zar)
     else
     none
    else
    if a1 = (16 : Int) then
     if ((L2.length : Int) - (1 : Int)) ≤ (9223372036854775807 : Int) then
      if (0 : Int) ≤ ((L2.length : Int) - (1 : Int)) then
       if (0 : Int) ≤ (L2.getD (((L2.length : Int) - (1 : Int))).toNat R_ii.z).a0 then
        if ((L2.getD (((L2.length : Int) - (1 : Int))).toNat R_ii.z).a0).toNat < (L8.length + 1) then
         some (.r2 ((L2.set (((L2.length : Int) - (1 : Int))).toNat (⟨(L2.getD (((L2.length : Int) - (1 : Int))).toNat R_ii.z).a0, a0⟩ : R_ii))) ((L7 ++ ([(⟨y0_0, y0_1⟩ : R_ii)] : List R_ii))) (((L8 ++ [(-1 : Int)]).set ((L2.getD (((L2.length : Int) - (1 : Int))).toNat R_ii.z).a0).toNat a0)) : Zar)
        else
        none
       else
       none
      else
      none
     else
     none
    else
    if a1 = (17 : Int) then
     if ((L2.length : Int) - (1 : Int)) ≤ (9223372036854775807 : Int) then
      if (0 : Int) ≤ ((L2.length : Int) - (1 : Int)) then
       if (0 : Int) ≤ (L2.getD (((L2.length : Int) - (1 : Int))).toNat R_ii.z).a1 then
        if ((L2.getD (((L2.length : Int) - (1 : Int))).toNat R_ii.z).a1).toNat < (L8.length + 1) then
         if (0 : Int) ≤ a0 then
          if (a0).toNat < (L8.length + 1) then
           ((Zc9 (L2) (L4) (n5) (n6) ((L7 ++ ([(⟨y0_0, y0_1⟩ : R_ii)] : List R_ii))) ((((L8 ++ [(-1 : Int)]).set ((L2.getD (((L2.length : Int) - (1 : Int))).toNat R_ii.z).a1).toNat a0).set (a0).toNat (L2.getD (((L2.length : Int) - (1 : Int))).toNat R_ii.z).a0)) (L9) (a10) (a11) (a12) N).bind fun r => match r with
           | .r0 =>
            some (.r1 ((L2.take (((L2.length : Int) - (1 : Int))).toNat)) ((L7 ++ ([(⟨y0_0, y0_1⟩ : R_ii)] : List R_ii))) ((((L8 ++ [(-1 : Int)]).set ((L2.getD (((L2.length : Int) - (1 : Int))).toNat R_ii.z).a1).toNat a0).set (a0).toNat (L2.getD (((L2.length : Int) - (1 : Int))).toNat R_ii.z).a0)) (a10) : Zar)
           )
          else
          none
         else
         none
        else
        none
       else
       if (0 : Int) ≤ (L2.getD (((L2.length : Int) - (1 : Int))).toNat R_ii.z).a0 then
        if ((L2.getD (((L2.length : Int) - (1 : Int))).toNat R_ii.z).a0).toNat < (L8.length + 1) then
         if (0 : Int) ≤ a0 then
          if (a0).toNat < (L8.length + 1) then
           ((Zc9 (L2) (L4) (n5) (n6) ((L7 ++ ([(⟨y0_0, y0_1⟩ : R_ii)] : List R_ii))) ((((L8 ++ [(-1 : Int)]).set ((L2.getD (((L2.length : Int) - (1 : Int))).toNat R_ii.z).a0).toNat a0).set (a0).toNat (L2.getD (((L2.length : Int) - (1 : Int))).toNat R_ii.z).a0)) (L9) (a10) (a11) (a12) N).bind fun r => match r with
           | .r0 =>
            some (.r1 ((L2.take (((L2.length : Int) - (1 : Int))).toNat)) ((L7 ++ ([(⟨y0_0, y0_1⟩ : R_ii)] : List R_ii))) ((((L8 ++ [(-1 : Int)]).set ((L2.getD (((L2.length : Int) - (1 : Int))).toNat R_ii.z).a0).toNat a0).set (a0).toNat (L2.getD (((L2.length : Int) - (1 : Int))).toNat R_ii.z).a0)) (a10) : Zar)
           )
          else
          none
         else
         none
        else
        none
       else
       none
      else
      none
     else
     none
    else
    some (.r2 (L2) ((L7 ++ ([(⟨y0_0, y0_1⟩ : R_ii)] : List R_ii))) ((L8 ++ [(-1 : Int)])) : Zar)
   else
   none
  else
  none
 )

inductive ZS where
 | r0 (w4 : Int)

def Zcg (a0 : Int) (a1 : Int) (a2 : Int) (a3 : Int) (L5 : List R_iiii) (n6 : Nat) (n7 : Nat) (L8 : List R_ii) (L9 : List Int) (a10 : Int) (a11 : Int) (a12 : Int) (N : Nat) : Option ZS :=
 if a0 = (15 : Int) then
  ((ZG (a0) (a1) (a2) (a3) N).bind fun r => match r with
  | .r0 y1_0 =>
   if ¬ (y1_0 = (0 : Int)) then
    some (.r0 ((120 : Int)) : ZS)
   else
   some (.r0 ((0 : Int)) : ZS)
  )
 else
 if a0 = (16 : Int) then
  some (.r0 ((120 : Int)) : ZS)
 else
 if a0 = (17 : Int) then
  some (.r0 ((120 : Int)) : ZS)
 else
 if a0 = (18 : Int) then
  some (.r0 ((120 : Int)) : ZS)
 else
 ((ZG (a0) (a1) (a2) (a3) N).bind fun r => match r with
 | .r0 y5_0 =>
  if ¬ (y5_0 = (0 : Int)) then
   some (.r0 ((120 : Int)) : ZS)
  else
  some (.r0 ((0 : Int)) : ZS)
 )

inductive Zcj where
 | r0

def Zdn (L1 : List R_iiii) (n2 : Nat) (n3 : Nat) (L4 : List R_ii) (L5 : List Int) (a6 : Int) (a7 : Int) (a8 : Int) (N : Nat) : Option Zcj :=
 some (.r0 : Zcj)

inductive ZbM where
 | r0
 | r1

def Zd1 (a0 : Int) (a1 : Int) (L3 : List R_iiii) (n4 : Nat) (n5 : Nat) (L6 : List R_ii) (L7 : List Int) (a8 : Int) (a9 : Int) (a10 : Int) (N : Nat) : Option ZbM :=
 ((Zdn (L3) (n4) (n5) (L6) (L7) (a8) (a9) (a10) N).bind fun r => match r with
 | .r0 =>
  if L6.length ≤ 100000 then
   if L7.length ≤ 100000 then
    if a1 = (15 : Int) then
     some (.r0 : ZbM)
    else
    if a1 = (16 : Int) then
     none
    else
    if a1 = (17 : Int) then
     none
    else
    some (.r1 : ZbM)
   else
   none
  else
  none
 )

inductive Za9 where
 | r0 (w7 : Int) (w8 : Int)

inductive Zas where
 | h1m0 (v7 : Nat)

def Zbc (L1 : List R_iiii) (n2 : Nat) (n3 : Nat) (L4 : List R_ii) (L5 : List Int) (a6 : Int) (a7 : Int) (a8 : Int) (N : Nat) (v7 : Nat) : Option (Zas ⊕ Za9) :=
 if (v7 : Int) < (n2 : Int) then
  if v7 < L1.length then
   ((Zdm ((L1.getD v7 R_iiii.z).a0) ((L1.getD v7 R_iiii.z).a1) ((L1.getD v7 R_iiii.z).a2) ((L1.getD v7 R_iiii.z).a3) N).bind fun r => match r with
   | .r0 y2_0 y2_1 =>
    if y2_1 = true then
     if (n2 : Int) < y2_0 then
      some (.inr (.r0 ((v7 : Int)) ((120 : Int)) : Za9))
     else
     if (0 : Int) ≤ y2_0 then
      if (y2_0).toNat < L4.length then
       if v7 < L4.length then
        if ¬ (((L4.getD (y2_0).toNat R_ii.z).a0 = (L4.getD v7 R_ii.z).a0 ∧ (L4.getD (y2_0).toNat R_ii.z).a1 = (L4.getD v7 R_ii.z).a1)) then
         some (.inr (.r0 ((v7 : Int)) ((120 : Int)) : Za9))
        else
        if (((v7 + 1) : Nat) : Int) ≤ (9223372036854775807 : Int) then
         some (.inl (.h1m0 ((v7 + 1)) : Zas))
        else
        none
       else
       none
      else
      none
     else
     none
    else
    if (((v7 + 1) : Nat) : Int) ≤ (9223372036854775807 : Int) then
     some (.inl (.h1m0 ((v7 + 1)) : Zas))
    else
    none
   )
  else
  none
 else
 some (.inr (.r0 (a7) (a8) : Za9))

def Zdb (L1 : List R_iiii) (n2 : Nat) (n3 : Nat) (L4 : List R_ii) (L5 : List Int) (a6 : Int) (a7 : Int) (a8 : Int) (N : Nat) : Zas → Option (Zas ⊕ Za9)
 | .h1m0 v7 => Zbc L1 n2 n3 L4 L5 a6 a7 a8 N v7

def ZfS (L1 : List R_iiii) (n2 : Nat) (n3 : Nat) (L4 : List R_ii) (L5 : List Int) (a6 : Int) (a7 : Int) (a8 : Int) (N : Nat) : Option (Zas ⊕ Za9) :=
 some (.inl (.h1m0 (0) : Zas))

def ZgA (L1 : List R_iiii) (n2 : Nat) (n3 : Nat) (L4 : List R_ii) (L5 : List Int) (a6 : Int) (a7 : Int) (a8 : Int) (N : Nat) : Option Za9 := goM (Zdb L1 n2 n3 L4 L5 a6 a7 a8 N) N (ZfS L1 n2 n3 L4 L5 a6 a7 a8 N)

inductive ZaA where
 | r0 (w9 : Int) (w10 : Int)

inductive Zat where
 | h1m0 (v9 : Nat)

def Zbd (L0 : List R_ii) (L2 : List R_iiii) (n3 : Nat) (n4 : Nat) (L5 : List R_ii) (L6 : List Int) (L7 : List Int) (a8 : Int) (a9 : Int) (a10 : Int) (N : Nat) (v9 : Nat) : Option (Zat ⊕ ZaA) :=
 if (v9 : Int) < (n3 : Int) then
  if v9 < L2.length then
   ((Zdm ((L2.getD v9 R_iiii.z).a0) ((L2.getD v9 R_iiii.z).a1) ((L2.getD v9 R_iiii.z).a2) ((L2.getD v9 R_iiii.z).a3) N).bind fun r => match r with
   | .r0 y2_0 y2_1 =>
    if y2_1 = true then
     if (n3 : Int) < y2_0 then
      some (.inr (.r0 ((v9 : Int)) ((120 : Int)) : ZaA))
     else
     if (0 : Int) ≤ y2_0 then
      if (y2_0).toNat < L5.length then
       if v9 < L5.length then
        if ¬ (((L5.getD (y2_0).toNat R_ii.z).a0 = (L5.getD v9 R_ii.z).a0 ∧ (L5.getD (y2_0).toNat R_ii.z).a1 = (L5.getD v9 R_ii.z).a1)) then
         some (.inr (.r0 ((v9 : Int)) ((120 : Int)) : ZaA))
        else
        if (((v9 + 1) : Nat) : Int) ≤ (9223372036854775807 : Int) then
         some (.inl (.h1m0 ((v9 + 1)) : Zat))
        else
        none
       else
       none
      else
      none
     else
     none
    else
    if (((v9 + 1) : Nat) : Int) ≤ (9223372036854775807 : Int) then
     some (.inl (.h1m0 ((v9 + 1)) : Zat))
    else
    none
   )
  else
  none
 else
 some (.inr (.r0 (a9) (a10) : ZaA))

def Zdc (L0 : List R_ii) (L2 : List R_iiii) (n3 : Nat) (n4 : Nat) (L5 : List R_ii) (L6 : List Int) (L7 : List Int) (a8 : Int) (a9 : Int) (a10 : Int) (N : Nat) : Zat → Option (Zat ⊕ ZaA)
 | .h1m0 v9 => Zbd L0 L2 n3 n4 L5 L6 L7 a8 a9 a10 N v9

def ZfT (L0 : List R_ii) (L2 : List R_iiii) (n3 : Nat) (n4 : Nat) (L5 : List R_ii) (L6 : List Int) (L7 : List Int) (a8 : Int) (a9 : Int) (a10 : Int) (N : Nat) : Option (Zat ⊕ ZaA) :=
 some (.inl (.h1m0 (0) : Zat))

def ZgB (L0 : List R_ii) (L2 : List R_iiii) (n3 : Nat) (n4 : Nat) (L5 : List R_ii) (L6 : List Int) (L7 : List Int) (a8 : Int) (a9 : Int) (a10 : Int) (N : Nat) : Option ZaA := goM (Zdc L0 L2 n3 n4 L5 L6 L7 a8 a9 a10 N) N (ZfT L0 L2 n3 n4 L5 L6 L7 a8 a9 a10 N)

inductive ZT where
 | r0 (w6 : Int)
 | r1 (w6 : Int) (w7 : Int)
 | r2 (w2 : List R_ii) (w5 : List R_ii) (w6 : List Int) (w7 : List Int) (w8 : Int) (w9 : Int) (w10 : Int)
 | r3 (w4 : List R_ii) (w5 : List Int) (w7 : Int) (w8 : Int)

inductive ZV where
 | h1m0
 | h1m1 (v7 : Nat) (v8 : List R_ii) (v11 : List R_ii) (v12 : List Int) (v13 : List Int) (v14 : Int)
 | h1m2 (v7 : Nat) (v10 : List R_ii) (v11 : List Int)

def Zdo (L1 : List R_iiii) (n2 : Nat) (n3 : Nat) (N : Nat) : Option (ZV ⊕ ZT) :=
 if (0 : Int) < (n2 : Int) then
  if 0 < L1.length then
   ((Zc6 ((L1.getD 0 R_iiii.z).a0) ((L1.getD 0 R_iiii.z).a1) ((L1.getD 0 R_iiii.z).a2) ((L1.getD 0 R_iiii.z).a3) (L1) (n2) (n3) ((0 : Int)) ((-1 : Int)) ((0 : Int)) N).bind fun r => match r with
   | .r0 y2_0 =>
    if ¬ (y2_0 = (0 : Int)) then
     some (.inr (.r0 (y2_0) : ZT))
    else
    ((ZdQ ((0 : Int)) ((L1.getD 0 R_iiii.z).a0) (L1) (n2) (n3) ((0 : Int)) ((-1 : Int)) ((0 : Int)) N).bind fun r => match r with
    | .r0 =>
     some (.inl (.h1m1 (1) (([(⟨(0 : Int), (-1 : Int)⟩ : R_ii)] : List R_ii)) (([(⟨(-1 : Int), (0 : Int)⟩ : R_ii)] : List R_ii)) ([(-1 : Int)]) (([(0 : Int)] : List Int)) ((if (1 : Int) > (0 : Int) then (1 : Int) else (0 : Int))) : ZV))
    | .r1 =>
     some (.inl (.h1m2 (1) (([(⟨(-1 : Int), (0 : Int)⟩ : R_ii)] : List R_ii)) ([(-1 : Int)]) : ZV))
    )
   )
  else
  none
 else
 ((Zhs (L1) (n2) (n3) (([(⟨(-1 : Int), (0 : Int)⟩ : R_ii)] : List R_ii)) ((0 : Int)) ((-1 : Int)) ((0 : Int)) N).bind fun r => match r with
 | .r0 y1_0 y1_1 =>
  some (.inr (.r1 (y1_0) (y1_1) : ZT))
 )

def Zb5 (L1 : List R_iiii) (n2 : Nat) (n3 : Nat) (N : Nat) (v7 : Nat) (v8 : List R_ii) (v11 : List R_ii) (v12 : List Int) (v13 : List Int) (v14 : Int) : Option (ZV ⊕ ZT) :=
 if (v7 : Int) < (n2 : Int) then
  if v7 < L1.length then
   ((Zcf ((L1.getD v7 R_iiii.z).a0) ((L1.getD v7 R_iiii.z).a1) ((L1.getD v7 R_iiii.z).a2) ((L1.getD v7 R_iiii.z).a3) (v8) (L1) (n2) (n3) (v11) (v12) (v13) (v14) ((-1 : Int)) ((0 : Int)) N).bind fun r => match r with
   | .r0 y2_0 =>
    if ¬ (y2_0 = (0 : Int)) then
     some (.inr (.r2 (v8) (v11) (v12) (v13) (v14) ((v7 : Int)) (y2_0) : ZT))
    else
    ((ZbA ((v7 : Int)) ((L1.getD v7 R_iiii.z).a0) (v8) (L1) (n2) (n3) (v11) (v12) (v13) (v14) ((-1 : Int)) ((0 : Int)) N).bind fun r => match r with
    | .r0 y4_0 =>
     if (((v7 + 1) : Nat) : Int) ≤ (9223372036854775807 : Int) then
      some (.inl (.h1m1 ((v7 + 1)) ((v8 ++ ([(⟨(v7 : Int), (-1 : Int)⟩ : R_ii)] : List R_ii))) (y4_0) ((v12 ++ [(-1 : Int)])) ((v13 ++ ([(v7 : Int)] : List Int))) ((if (((v8.length + 1) : Nat) : Int) > v14 then (((v8.length + 1) : Nat) : Int) else v14)) : ZV))
     else
     none
    | .r1 y4_0 y4_1 y4_2 y4_3 =>
     if (((v7 + 1) : Nat) : Int) ≤ (9223372036854775807 : Int) then
      some (.inl (.h1m1 ((v7 + 1)) (y4_0) (y4_1) (y4_2) (v13) (y4_3) : ZV))
     else
     none
    | .r2 y4_0 y4_1 y4_2 =>
     if (((v7 + 1) : Nat) : Int) ≤ (9223372036854775807 : Int) then
      some (.inl (.h1m1 ((v7 + 1)) (y4_0) (y4_1) (y4_2) (v13) (v14) : ZV))
     else
     none
    )
   )
  else
  none
 else
 if (0 : Int) < (v8.length : Int) then
  some (.inr (.r2 (v8) (v11) (v12) (v13) (v14) ((n2 : Int)) ((120 : Int)) : ZT))
 else
 if v11.length ≤ 100000 then
  ((ZgB (v8) (L1) (n2) (n3) ((v11 ++ ([(⟨(-1 : Int), (0 : Int)⟩ : R_ii)] : List R_ii))) (v12) (v13) (v14) ((-1 : Int)) ((0 : Int)) N).bind fun r => match r with
  | .r0 y3_0 y3_1 =>
   some (.inr (.r2 (v8) ((v11 ++ ([(⟨(-1 : Int), (0 : Int)⟩ : R_ii)] : List R_ii))) (v12) (v13) (v14) (y3_0) (y3_1) : ZT))
  )
 else
 none

def Zci (L1 : List R_iiii) (n2 : Nat) (n3 : Nat) (N : Nat) (v7 : Nat) (v10 : List R_ii) (v11 : List Int) : Option (ZV ⊕ ZT) :=
 if (v7 : Int) < (n2 : Int) then
  if v7 < L1.length then
   ((Zcg ((L1.getD v7 R_iiii.z).a0) ((L1.getD v7 R_iiii.z).a1) ((L1.getD v7 R_iiii.z).a2) ((L1.getD v7 R_iiii.z).a3) (L1) (n2) (n3) (v10) (v11) ((0 : Int)) ((-1 : Int)) ((0 : Int)) N).bind fun r => match r with
   | .r0 y2_0 =>
    if ¬ (y2_0 = (0 : Int)) then
     some (.inr (.r3 (v10) (v11) ((v7 : Int)) (y2_0) : ZT))
    else
    ((Zd1 ((v7 : Int)) ((L1.getD v7 R_iiii.z).a0) (L1) (n2) (n3) (v10) (v11) ((0 : Int)) ((-1 : Int)) ((0 : Int)) N).bind fun r => match r with
    | .r0 =>
     if (((v7 + 1) : Nat) : Int) ≤ (9223372036854775807 : Int) then
      some (.inl (.h1m1 ((v7 + 1)) (([(⟨(v7 : Int), (-1 : Int)⟩ : R_ii)] : List R_ii)) ((v10 ++ ([(⟨(-1 : Int), (0 : Int)⟩ : R_ii)] : List R_ii))) ((v11 ++ [(-1 : Int)])) (([(v7 : Int)] : List Int)) ((if (1 : Int) > (0 : Int) then (1 : Int) else (0 : Int))) : ZV))
     else
     none
    | .r1 =>
     if (((v7 + 1) : Nat) : Int) ≤ (9223372036854775807 : Int) then
      some (.inl (.h1m2 ((v7 + 1)) ((v10 ++ ([(⟨(-1 : Int), (0 : Int)⟩ : R_ii)] : List R_ii))) ((v11 ++ [(-1 : Int)])) : ZV))
     else
     none
    )
   )
  else
  none
 else
 if v10.length ≤ 100000 then
  ((ZgA (L1) (n2) (n3) ((v10 ++ ([(⟨(-1 : Int), (0 : Int)⟩ : R_ii)] : List R_ii))) (v11) ((0 : Int)) ((-1 : Int)) ((0 : Int)) N).bind fun r => match r with
  | .r0 y2_0 y2_1 =>
   some (.inr (.r3 ((v10 ++ ([(⟨(-1 : Int), (0 : Int)⟩ : R_ii)] : List R_ii))) (v11) (y2_0) (y2_1) : ZT))
  )
 else
 none

def ZbX (L1 : List R_iiii) (n2 : Nat) (n3 : Nat) (N : Nat) : ZV → Option (ZV ⊕ ZT)
 | .h1m0 => Zdo L1 n2 n3 N
 | .h1m1 v7 v8 v11 v12 v13 v14 => Zb5 L1 n2 n3 N v7 v8 v11 v12 v13 v14
 | .h1m2 v7 v10 v11 => Zci L1 n2 n3 N v7 v10 v11

def Zgg (L1 : List R_iiii) (n2 : Nat) (n3 : Nat) (N : Nat) : Option (ZV ⊕ ZT) :=
 if (n2 : Int) = (0 : Int) then
  some (.inr (.r0 ((120 : Int)) : ZT))
 else
 if (512 : Int) < (n2 : Int) then
  some (.inr (.r0 ((120 : Int)) : ZT))
 else
 some (.inl (.h1m0 : ZV))

def ZbP (L1 : List R_iiii) (n2 : Nat) (n3 : Nat) (N : Nat) : Option ZT := goM (ZbX L1 n2 n3 N) N (Zgg L1 n2 n3 N)

inductive ZaI where
 | r0 (w2 : Int)
 | r1 (w2 : List Int)

def ZeQ (L1 : List R_iiii) (n2 : Nat) (n3 : Nat) (N : Nat) : Option ZaI :=
 ((ZbP (L1) (n2) (n3) N).bind fun r => match r with
 | .r0 y0_0 =>
  if ¬ (y0_0 = (0 : Int)) then
   some (.r0 (y0_0) : ZaI)
  else
  some (.r0 ((0 : Int)) : ZaI)
 | .r1 y0_0 y0_1 =>
  if ¬ (y0_1 = (0 : Int)) then
   some (.r0 (y0_1) : ZaI)
  else
  some (.r0 ((0 : Int)) : ZaI)
 | .r2 y0_0 y0_1 y0_2 y0_3 y0_4 y0_5 y0_6 =>
  if ¬ (y0_6 = (0 : Int)) then
   some (.r0 (y0_6) : ZaI)
  else
  some (.r1 (y0_2) : ZaI)
 | .r3 y0_0 y0_1 y0_2 y0_3 =>
  if ¬ (y0_3 = (0 : Int)) then
   some (.r0 (y0_3) : ZaI)
  else
  some (.r1 (y0_1) : ZaI)
 )

inductive Zb6 where
 | r0
 | r1 (w0 : Bool)

def Zei (a0 : Int) (a1 : Int) (a2 : Int) (a3 : Int) (a4 : Int) (N : Nat) : Option Zb6 :=
 if a0 = (15 : Int) then
  some (.r0 : Zb6)
 else
 if a0 = (16 : Int) then
  some (.r1 (false) : Zb6)
 else
 if a0 = (17 : Int) then
  some (.r1 (false) : Zb6)
 else
 if a0 = (18 : Int) then
  some (.r1 (false) : Zb6)
 else
 some (.r1 (true) : Zb6)

inductive ZD where
 | r0 (w0 : Int) (w1 : Int) (w2 : Int) (w3 : Bool)

def ZeJ (a0 : Int) (N : Nat) : Option ZD :=
 if a0 = (1 : Int) then
  some (.r0 ((1 : Int)) ((2 : Int)) ((0 : Int)) (true) : ZD)
 else
 if a0 = (2 : Int) then
  some (.r0 ((1 : Int)) ((0 : Int)) ((0 : Int)) (true) : ZD)
 else
 if a0 = (10 : Int) then
  some (.r0 ((1 : Int)) ((0 : Int)) ((0 : Int)) (true) : ZD)
 else
 if a0 = (12 : Int) then
  some (.r0 ((1 : Int)) ((0 : Int)) ((0 : Int)) (true) : ZD)
 else
 if a0 = (19 : Int) then
  some (.r0 ((1 : Int)) ((0 : Int)) ((0 : Int)) (true) : ZD)
 else
 if a0 = (3 : Int) then
  some (.r0 ((1 : Int)) ((1 : Int)) ((0 : Int)) (true) : ZD)
 else
 if a0 = (4 : Int) then
  some (.r0 ((1 : Int)) ((1 : Int)) ((1 : Int)) (true) : ZD)
 else
 if a0 = (5 : Int) then
  some (.r0 ((1 : Int)) ((1 : Int)) ((1 : Int)) (true) : ZD)
 else
 if a0 = (6 : Int) then
  some (.r0 ((1 : Int)) ((1 : Int)) ((1 : Int)) (true) : ZD)
 else
 if a0 = (7 : Int) then
  some (.r0 ((1 : Int)) ((1 : Int)) ((1 : Int)) (true) : ZD)
 else
 if a0 = (8 : Int) then
  some (.r0 ((3 : Int)) ((0 : Int)) ((0 : Int)) (true) : ZD)
 else
 if a0 = (9 : Int) then
  some (.r0 ((1 : Int)) ((3 : Int)) ((0 : Int)) (true) : ZD)
 else
 if a0 = (11 : Int) then
  some (.r0 ((1 : Int)) ((5 : Int)) ((6 : Int)) (true) : ZD)
 else
 if a0 = (13 : Int) then
  some (.r0 ((1 : Int)) ((1 : Int)) ((4 : Int)) (true) : ZD)
 else
 if a0 = (14 : Int) then
  some (.r0 ((1 : Int)) ((4 : Int)) ((1 : Int)) (true) : ZD)
 else
 if a0 = (15 : Int) then
  some (.r0 ((0 : Int)) ((0 : Int)) ((0 : Int)) (true) : ZD)
 else
 if a0 = (16 : Int) then
  some (.r0 ((0 : Int)) ((0 : Int)) ((0 : Int)) (true) : ZD)
 else
 if a0 = (17 : Int) then
  some (.r0 ((0 : Int)) ((0 : Int)) ((0 : Int)) (true) : ZD)
 else
 if a0 = (18 : Int) then
  some (.r0 ((0 : Int)) ((0 : Int)) ((0 : Int)) (true) : ZD)
 else
 if a0 = (20 : Int) then
  some (.r0 ((0 : Int)) ((0 : Int)) ((0 : Int)) (true) : ZD)
 else
 some (.r0 ((0 : Int)) ((0 : Int)) ((0 : Int)) (false) : ZD)

inductive Z6 where
 | r0 (w0 : Bool)

def Zav (a0 : Int) (a1 : Int) (a2 : Int) (N : Nat) : Option Z6 :=
 if a0 = (1 : Int) then
  if (0 : Int) ≤ a1 then
   if a1 < (8 : Int) then
    some (.r0 (true) : Z6)
   else
   some (.r0 (false) : Z6)
  else
  some (.r0 (false) : Z6)
 else
 if a0 = (2 : Int) then
  if (-1099511627776 : Int) ≤ a1 then
   if a1 ≤ (1099511627776 : Int) then
    some (.r0 (true) : Z6)
   else
   some (.r0 (false) : Z6)
  else
  some (.r0 (false) : Z6)
 else
 if a0 = (3 : Int) then
  if (0 : Int) ≤ a1 then
   if a1 ≤ (512 : Int) then
    some (.r0 (true) : Z6)
   else
   some (.r0 (false) : Z6)
  else
  some (.r0 (false) : Z6)
 else
 if a0 = (4 : Int) then
  if (0 : Int) ≤ a1 then
   if a1 < (16 : Int) then
    some (.r0 (true) : Z6)
   else
   some (.r0 (false) : Z6)
  else
  some (.r0 (false) : Z6)
 else
 if a0 = (5 : Int) then
  if (1 : Int) ≤ a1 then
   if a1 ≤ (16 : Int) then
    some (.r0 (true) : Z6)
   else
   some (.r0 (false) : Z6)
  else
  some (.r0 (false) : Z6)
 else
 if a0 = (6 : Int) then
  if (1 : Int) ≤ a2 then
   if a2 ≤ (16 : Int) then
    if (0 : Int) ≤ a1 then
     if a1 < (IntKind.i64.wrap ((1 : Int) * (2 ^ (a2).toNat : Int))) then
      some (.r0 (true) : Z6)
     else
     some (.r0 (false) : Z6)
    else
    some (.r0 (false) : Z6)
   else
   some (.r0 (false) : Z6)
  else
  some (.r0 (false) : Z6)
 else
 if a1 = (0 : Int) then
  some (.r0 (true) : Z6)
 else
 some (.r0 (false) : Z6)

inductive ZcA where
 | r0 (w0 : Bool)

def Zaz (a0 : Int) (a1 : Int) (a2 : Int) (a3 : Int) (N : Nat) : Option ZcA :=
 ((ZeJ (a0) N).bind fun r => match r with
 | .r0 y0_0 y0_1 y0_2 y0_3 =>
  if y0_3 = true then
   ((Zav (y0_0) (a1) ((0 : Int)) N).bind fun r => match r with
   | .r0 y2_0 =>
    if y2_0 = true then
     ((Zav (y0_1) (a2) ((0 : Int)) N).bind fun r => match r with
     | .r0 y4_0 =>
      if y4_0 = true then
       ((Zav (y0_2) (a3) (a2) N).bind fun r => match r with
       | .r0 y6_0 =>
        if y6_0 = true then
         some (.r0 (true) : ZcA)
        else
        some (.r0 (false) : ZcA)
       )
      else
      some (.r0 (false) : ZcA)
     )
    else
    some (.r0 (false) : ZcA)
   )
  else
  some (.r0 (false) : ZcA)
 )

inductive ZE where
 | r0 (w1 : Bool)
 | r1 (w1 : List R_ii)
 | r2

def ZcC (L0 : List R_ii) (a1 : Int) (a2 : Int) (a3 : Int) (a4 : Int) (a5 : Int) (N : Nat) : Option ZE :=
 if a1 = (15 : Int) then
  if (8 : Int) ≤ (L0.length : Int) then
   some (.r0 (false) : ZE)
  else
  if L0.length = 0 then
   some (.r1 (([(⟨a5, (0 : Int)⟩ : R_ii)] : List R_ii)) : ZE)
  else
  some (.r1 ((L0 ++ ([(⟨a5, (0 : Int)⟩ : R_ii)] : List R_ii))) : ZE)
 else
 if a1 = (16 : Int) then
  if (L0.length : Int) = (0 : Int) then
   some (.r0 (false) : ZE)
  else
  if ((L0.length : Int) - (1 : Int)) ≤ (9223372036854775807 : Int) then
   if (L0.getD (L0.length - 1) R_ii.z).a1 = (1 : Int) then
    some (.r0 (false) : ZE)
   else
   if ((L0.length - 1) - 0) = 0 then
    some (.r1 (([(⟨(L0.getD (L0.length - 1) R_ii.z).a0, (1 : Int)⟩ : R_ii)] : List R_ii)) : ZE)
   else
   if ((L0.length - 1) - 0) ≤ 100000 then
    some (.r1 (((L0.take ((L0.length - 1) - 0)) ++ ([(⟨(L0.getD (L0.length - 1) R_ii.z).a0, (1 : Int)⟩ : R_ii)] : List R_ii))) : ZE)
   else
   none
  else
  none
 else
 if a1 = (17 : Int) then
  if (L0.length : Int) = (0 : Int) then
   some (.r0 (false) : ZE)
  else
  if ((L0.length : Int) - (1 : Int)) ≤ (9223372036854775807 : Int) then
   some (.r2 : ZE)
  else
  none
 else
 if a1 = (18 : Int) then
  if (0 : Int) < (L0.length : Int) then
   some (.r0 (true) : ZE)
  else
  some (.r0 (false) : ZE)
 else
 if a1 = (20 : Int) then
  if (L0.length : Int) = (0 : Int) then
   some (.r0 (true) : ZE)
  else
  some (.r0 (false) : ZE)
 else
 some (.r0 (true) : ZE)

inductive Zcz where
 | r0 (w0 : Int) (w1 : Bool)

def Ze3 (a0 : Int) (a1 : Int) (a2 : Int) (a3 : Int) (N : Nat) : Option Zcz :=
 if a0 = (8 : Int) then
  some (.r0 (a1) (true) : Zcz)
 else
 if a0 = (9 : Int) then
  some (.r0 (a2) (true) : Zcz)
 else
 some (.r0 ((0 : Int)) (false) : Zcz)

inductive ZaY where
 | r0
 | r1 (w2 : List R_ii)

inductive Zan where
 | h1m0 (v5 : Nat)
 | h1m1 (v5 : List R_ii) (v6 : Nat)

def ZcV (L1 : List R_iiii) (n2 : Nat) (n3 : Nat) (a4 : Int) (N : Nat) (v5 : Nat) : Option (Zan ⊕ ZaY) :=
 if (v5 : Int) < a4 then
  if (v5 : Int) < (n2 : Int) then
   if v5 < L1.length then
    ((Zei ((L1.getD v5 R_iiii.z).a0) ((L1.getD v5 R_iiii.z).a1) ((L1.getD v5 R_iiii.z).a2) ((L1.getD v5 R_iiii.z).a3) ((v5 : Int)) N).bind fun r => match r with
    | .r0 =>
     if (((v5 + 1) : Nat) : Int) ≤ (9223372036854775807 : Int) then
      some (.inl (.h1m1 (([(⟨(v5 : Int), (0 : Int)⟩ : R_ii)] : List R_ii)) ((v5 + 1)) : Zan))
     else
     none
    | .r1 y3_0 =>
     if (((v5 + 1) : Nat) : Int) ≤ (9223372036854775807 : Int) then
      some (.inl (.h1m0 ((v5 + 1)) : Zan))
     else
     none
    )
   else
   none
  else
  some (.inr (.r0 : ZaY))
 else
 some (.inr (.r0 : ZaY))

def ZcW (L1 : List R_iiii) (n2 : Nat) (n3 : Nat) (a4 : Int) (N : Nat) (v5 : List R_ii) (v6 : Nat) : Option (Zan ⊕ ZaY) :=
 if (v6 : Int) < a4 then
  if (v6 : Int) < (n2 : Int) then
   if v6 < L1.length then
    ((ZcC (v5) ((L1.getD v6 R_iiii.z).a0) ((L1.getD v6 R_iiii.z).a1) ((L1.getD v6 R_iiii.z).a2) ((L1.getD v6 R_iiii.z).a3) ((v6 : Int)) N).bind fun r => match r with
    | .r0 y3_0 =>
     if (((v6 + 1) : Nat) : Int) ≤ (9223372036854775807 : Int) then
      some (.inl (.h1m1 (v5) ((v6 + 1)) : Zan))
     else
     none
    | .r1 y3_0 =>
     if (((v6 + 1) : Nat) : Int) ≤ (9223372036854775807 : Int) then
      some (.inl (.h1m1 (y3_0) ((v6 + 1)) : Zan))
     else
     none
    | .r2 =>
     if (((v6 + 1) : Nat) : Int) ≤ (9223372036854775807 : Int) then
      some (.inl (.h1m1 ((v5.take (v5.length - 1))) ((v6 + 1)) : Zan))
     else
     none
    )
   else
   none
  else
  some (.inr (.r1 (v5) : ZaY))
 else
 some (.inr (.r1 (v5) : ZaY))

def Zdp (L1 : List R_iiii) (n2 : Nat) (n3 : Nat) (a4 : Int) (N : Nat) : Zan → Option (Zan ⊕ ZaY)
 | .h1m0 v5 => ZcV L1 n2 n3 a4 N v5
 | .h1m1 v5 v6 => ZcW L1 n2 n3 a4 N v5 v6

def Zi8 (L1 : List R_iiii) (n2 : Nat) (n3 : Nat) (a4 : Int) (N : Nat) : Option (Zan ⊕ ZaY) :=
 some (.inl (.h1m0 (0) : Zan))

def ZdI (L1 : List R_iiii) (n2 : Nat) (n3 : Nat) (a4 : Int) (N : Nat) : Option ZaY := goM (Zdp L1 n2 n3 a4 N) N (Zi8 L1 n2 n3 a4 N)

inductive Zc0 where
 | r0 (w2 : Int) (w3 : Int)

def Zcp (L1 : List R_iiii) (n2 : Nat) (n3 : Nat) (a4 : Int) (N : Nat) : Option Zc0 :=
 ((ZdI (L1) (n2) (n3) (a4) N).bind fun r => match r with
 | .r0 =>
  some (.r0 ((-1 : Int)) ((0 : Int)) : Zc0)
 | .r1 y0_0 =>
  if (y0_0.length : Int) = (0 : Int) then
   some (.r0 ((-1 : Int)) ((0 : Int)) : Zc0)
  else
  if ((y0_0.length : Int) - (1 : Int)) ≤ (9223372036854775807 : Int) then
   some (.r0 ((y0_0.getD (y0_0.length - 1) R_ii.z).a0) ((y0_0.getD (y0_0.length - 1) R_ii.z).a1) : Zc0)
  else
  none
 )

inductive ZJ where
 | r0 (w2 : Int)

inductive ZA where
 | h1m0 (v4 : Nat)
 | h1m1 (v4 : List R_ii) (v5 : Nat)
 | h2m0 (v4 : Nat)

def Zb7 (L1 : List R_iiii) (n2 : Nat) (n3 : Nat) (N : Nat) (v4 : Nat) : Option (ZA ⊕ ZJ) :=
 if (v4 : Int) < (n2 : Int) then
  if v4 < L1.length then
   ((Zei ((L1.getD v4 R_iiii.z).a0) ((L1.getD v4 R_iiii.z).a1) ((L1.getD v4 R_iiii.z).a2) ((L1.getD v4 R_iiii.z).a3) ((v4 : Int)) N).bind fun r => match r with
   | .r0 =>
    ((Zaz ((L1.getD v4 R_iiii.z).a0) ((L1.getD v4 R_iiii.z).a1) ((L1.getD v4 R_iiii.z).a2) ((L1.getD v4 R_iiii.z).a3) N).bind fun r => match r with
    | .r0 y3_0 =>
     if ¬ (y3_0 = true) then
      some (.inr (.r0 ((v4 : Int)) : ZJ))
     else
     if (((v4 + 1) : Nat) : Int) ≤ (9223372036854775807 : Int) then
      some (.inl (.h1m1 (([(⟨(v4 : Int), (0 : Int)⟩ : R_ii)] : List R_ii)) ((v4 + 1)) : ZA))
     else
     none
    )
   | .r1 y2_0 =>
    ((Zaz ((L1.getD v4 R_iiii.z).a0) ((L1.getD v4 R_iiii.z).a1) ((L1.getD v4 R_iiii.z).a2) ((L1.getD v4 R_iiii.z).a3) N).bind fun r => match r with
    | .r0 y3_0 =>
     if ¬ (y3_0 = true) then
      some (.inr (.r0 ((v4 : Int)) : ZJ))
     else
     if ¬ (y2_0 = true) then
      some (.inr (.r0 ((v4 : Int)) : ZJ))
     else
     if (((v4 + 1) : Nat) : Int) ≤ (9223372036854775807 : Int) then
      some (.inl (.h1m0 ((v4 + 1)) : ZA))
     else
     none
    )
   )
  else
  none
 else
 some (.inl (.h2m0 (0) : ZA))

def ZbQ (L1 : List R_iiii) (n2 : Nat) (n3 : Nat) (N : Nat) (v4 : List R_ii) (v5 : Nat) : Option (ZA ⊕ ZJ) :=
 if (v5 : Int) < (n2 : Int) then
  if v5 < L1.length then
   ((ZcC (v4) ((L1.getD v5 R_iiii.z).a0) ((L1.getD v5 R_iiii.z).a1) ((L1.getD v5 R_iiii.z).a2) ((L1.getD v5 R_iiii.z).a3) ((v5 : Int)) N).bind fun r => match r with
   | .r0 y2_0 =>
    ((Zaz ((L1.getD v5 R_iiii.z).a0) ((L1.getD v5 R_iiii.z).a1) ((L1.getD v5 R_iiii.z).a2) ((L1.getD v5 R_iiii.z).a3) N).bind fun r => match r with
    | .r0 y3_0 =>
     if ¬ (y3_0 = true) then
      some (.inr (.r0 ((v5 : Int)) : ZJ))
     else
     if ¬ (y2_0 = true) then
      some (.inr (.r0 ((v5 : Int)) : ZJ))
     else
     if (((v5 + 1) : Nat) : Int) ≤ (9223372036854775807 : Int) then
      some (.inl (.h1m1 (v4) ((v5 + 1)) : ZA))
     else
     none
    )
   | .r1 y2_0 =>
    ((Zaz ((L1.getD v5 R_iiii.z).a0) ((L1.getD v5 R_iiii.z).a1) ((L1.getD v5 R_iiii.z).a2) ((L1.getD v5 R_iiii.z).a3) N).bind fun r => match r with
    | .r0 y3_0 =>
     if ¬ (y3_0 = true) then
      some (.inr (.r0 ((v5 : Int)) : ZJ))
     else
     if (((v5 + 1) : Nat) : Int) ≤ (9223372036854775807 : Int) then
      some (.inl (.h1m1 (y2_0) ((v5 + 1)) : ZA))
     else
     none
    )
   | .r2 =>
    ((Zaz ((L1.getD v5 R_iiii.z).a0) ((L1.getD v5 R_iiii.z).a1) ((L1.getD v5 R_iiii.z).a2) ((L1.getD v5 R_iiii.z).a3) N).bind fun r => match r with
    | .r0 y3_0 =>
     if ¬ (y3_0 = true) then
      some (.inr (.r0 ((v5 : Int)) : ZJ))
     else
     if (((v5 + 1) : Nat) : Int) ≤ (9223372036854775807 : Int) then
      some (.inl (.h1m1 ((v4.take (v4.length - 1))) ((v5 + 1)) : ZA))
     else
     none
    )
   )
  else
  none
 else
 if (0 : Int) < (v4.length : Int) then
  some (.inr (.r0 ((n2 : Int)) : ZJ))
 else
 some (.inl (.h2m0 (0) : ZA))

def ZbR (L1 : List R_iiii) (n2 : Nat) (n3 : Nat) (N : Nat) (v4 : Nat) : Option (ZA ⊕ ZJ) :=
 if (v4 : Int) < (n2 : Int) then
  if v4 < L1.length then
   ((Ze3 ((L1.getD v4 R_iiii.z).a0) ((L1.getD v4 R_iiii.z).a1) ((L1.getD v4 R_iiii.z).a2) ((L1.getD v4 R_iiii.z).a3) N).bind fun r => match r with
   | .r0 y2_0 y2_1 =>
    if y2_1 = true then
     if (n2 : Int) < y2_0 then
      some (.inr (.r0 ((v4 : Int)) : ZJ))
     else
     ((Zcp (L1) (n2) (n3) (y2_0) N).bind fun r => match r with
     | .r0 y5_0 y5_1 =>
      ((Zcp (L1) (n2) (n3) ((v4 : Int)) N).bind fun r => match r with
      | .r0 y6_0 y6_1 =>
       if ¬ ((y5_0 = y6_0 ∧ y5_1 = y6_1)) then
        some (.inr (.r0 ((v4 : Int)) : ZJ))
       else
       if (((v4 + 1) : Nat) : Int) ≤ (9223372036854775807 : Int) then
        some (.inl (.h2m0 ((v4 + 1)) : ZA))
       else
       none
      )
     )
    else
    if (((v4 + 1) : Nat) : Int) ≤ (9223372036854775807 : Int) then
     some (.inl (.h2m0 ((v4 + 1)) : ZA))
    else
    none
   )
  else
  none
 else
 some (.inr (.r0 ((-1 : Int)) : ZJ))

def Zbj (L1 : List R_iiii) (n2 : Nat) (n3 : Nat) (N : Nat) : ZA → Option (ZA ⊕ ZJ)
 | .h1m0 v4 => Zb7 L1 n2 n3 N v4
 | .h1m1 v4 v5 => ZbQ L1 n2 n3 N v4 v5
 | .h2m0 v4 => ZbR L1 n2 n3 N v4

def ZeC (L1 : List R_iiii) (n2 : Nat) (n3 : Nat) (N : Nat) : Option (ZA ⊕ ZJ) :=
 if (n2 : Int) < (1 : Int) then
  some (.inr (.r0 ((0 : Int)) : ZJ))
 else
 if (512 : Int) < (n2 : Int) then
  some (.inr (.r0 ((0 : Int)) : ZJ))
 else
 some (.inl (.h1m0 (0) : ZA))

def ZgL (L1 : List R_iiii) (n2 : Nat) (n3 : Nat) (N : Nat) : Option ZJ := goM (Zbj L1 n2 n3 N) N (ZeC L1 n2 n3 N)

inductive ref12_CheckR where
 | r0 (w2 : Int)

def Zdk (L1 : List R_iiii) (n2 : Nat) (n3 : Nat) (N : Nat) : Option ref12_CheckR :=
 ((ZgL (L1) (n2) (n3) N).bind fun r => match r with
 | .r0 y0_0 =>
  if y0_0 < (0 : Int) then
   some (.r0 ((0 : Int)) : ref12_CheckR)
  else
  if y0_0 < (n2 : Int) then
   if (n2 : Int) ≤ (512 : Int) then
    if (y0_0).toNat < L1.length then
     if ((L1.getD (y0_0).toNat R_iiii.z).a0 = (15 : Int) ∧ (L1.getD (y0_0).toNat R_iiii.z).a1 = (0 : Int) ∧ (L1.getD (y0_0).toNat R_iiii.z).a2 = (0 : Int) ∧ (L1.getD (y0_0).toNat R_iiii.z).a3 = (0 : Int)) then
      some (.r0 ((140 : Int)) : ref12_CheckR)
     else
     some (.r0 ((120 : Int)) : ref12_CheckR)
    else
    none
   else
   some (.r0 ((120 : Int)) : ref12_CheckR)
  else
  some (.r0 ((120 : Int)) : ref12_CheckR)
 )

inductive Zbl where
 | r0 (w2 : Int)

inductive Za5 where
 | h1m0 (v4 : Nat) (v5 : Int)

def Zdq (L1 : List R_iiii) (n2 : Nat) (n3 : Nat) (a4 : Int) (N : Nat) (v4 : Nat) (v5 : Int) : Option (Za5 ⊕ Zbl) :=
 if v5 < (n2 : Int) then
  if (v4 : Int) = (0 : Int) then
   if (0 : Int) ≤ v5 then
    if (v5).toNat < L1.length then
     if (L1.getD (v5).toNat R_iiii.z).a0 = (17 : Int) then
      some (.inr (.r0 (v5) : Zbl))
     else
     if (L1.getD (v5).toNat R_iiii.z).a0 = (16 : Int) then
      some (.inr (.r0 (v5) : Zbl))
     else
     if (L1.getD (v5).toNat R_iiii.z).a0 = (15 : Int) then
      some (.inl (.h1m0 ((v4 + 1)) ((IntKind.i64.wrap (v5 + (1 : Int)))) : Za5))
     else
     some (.inl (.h1m0 (v4) ((IntKind.i64.wrap (v5 + (1 : Int)))) : Za5))
    else
    none
   else
   none
  else
  if (0 : Int) ≤ v5 then
   if (v5).toNat < L1.length then
    if (L1.getD (v5).toNat R_iiii.z).a0 = (15 : Int) then
     if (((v4 + 1) : Nat) : Int) ≤ (9223372036854775807 : Int) then
      some (.inl (.h1m0 ((v4 + 1)) ((IntKind.i64.wrap (v5 + (1 : Int)))) : Za5))
     else
     none
    else
    if (L1.getD (v5).toNat R_iiii.z).a0 = (17 : Int) then
     if ((v4 : Int) - (1 : Int)) ≤ (9223372036854775807 : Int) then
      some (.inl (.h1m0 ((v4 - 1)) ((IntKind.i64.wrap (v5 + (1 : Int)))) : Za5))
     else
     none
    else
    some (.inl (.h1m0 (v4) ((IntKind.i64.wrap (v5 + (1 : Int)))) : Za5))
   else
   none
  else
  none
 else
 some (.inr (.r0 ((-1 : Int)) : Zbl))

def Zeq (L1 : List R_iiii) (n2 : Nat) (n3 : Nat) (a4 : Int) (N : Nat) : Za5 → Option (Za5 ⊕ Zbl)
 | .h1m0 v4 v5 => Zdq L1 n2 n3 a4 N v4 v5

def ZdM (L1 : List R_iiii) (n2 : Nat) (n3 : Nat) (a4 : Int) (N : Nat) : Option (Za5 ⊕ Zbl) :=
 if (0 : Int) ≤ a4 then
  if (a4).toNat < n2 then
   if (a4).toNat < L1.length then
    if (L1.getD (a4).toNat R_iiii.z).a0 = (15 : Int) then
     some (.inl (.h1m0 (0) ((IntKind.i64.wrap (a4 + (1 : Int)))) : Za5))
    else
    if (L1.getD (a4).toNat R_iiii.z).a0 = (16 : Int) then
     some (.inl (.h1m0 (0) ((IntKind.i64.wrap (a4 + (1 : Int)))) : Za5))
    else
    if (L1.getD (a4).toNat R_iiii.z).a0 = (17 : Int) then
     ((Zcp (L1) (n2) (n3) (a4) N).bind fun r => match r with
     | .r0 y6_0 y6_1 =>
      some (.inr (.r0 (y6_0) : Zbl))
     )
    else
    some (.inr (.r0 ((-1 : Int)) : Zbl))
   else
   none
  else
  none
 else
 none

def Zgu (L1 : List R_iiii) (n2 : Nat) (n3 : Nat) (a4 : Int) (N : Nat) : Option Zbl := goM (Zeq L1 n2 n3 a4 N) N (ZdM L1 n2 n3 a4 N)

inductive Zbs where
 | r0 (w2 : Int)
 | r1 (w2 : List Int)

inductive ZaE where
 | h1m0
 | h1m1 (v4 : List Int) (v5 : Nat)

def Ze4 (L1 : List R_iiii) (n2 : Nat) (n3 : Nat) (N : Nat) : Option (ZaE ⊕ Zbs) :=
 if (0 : Int) < (n2 : Int) then
  ((Zgu (L1) (n2) (n3) ((0 : Int)) N).bind fun r => match r with
  | .r0 y1_0 =>
   some (.inl (.h1m1 (([y1_0] : List Int)) (1) : ZaE))
  )
 else
 some (.inr (.r0 ((0 : Int)) : Zbs))

def ZcX (L1 : List R_iiii) (n2 : Nat) (n3 : Nat) (N : Nat) (v4 : List Int) (v5 : Nat) : Option (ZaE ⊕ Zbs) :=
 if (v5 : Int) < (n2 : Int) then
  ((Zgu (L1) (n2) (n3) ((v5 : Int)) N).bind fun r => match r with
  | .r0 y1_0 =>
   if v4.length ≤ 100000 then
    if (((v5 + 1) : Nat) : Int) ≤ (9223372036854775807 : Int) then
     some (.inl (.h1m1 ((v4 ++ ([y1_0] : List Int))) ((v5 + 1)) : ZaE))
    else
    none
   else
   none
  )
 else
 some (.inr (.r1 (v4) : Zbs))

def ZdR (L1 : List R_iiii) (n2 : Nat) (n3 : Nat) (N : Nat) : ZaE → Option (ZaE ⊕ Zbs)
 | .h1m0 => Ze4 L1 n2 n3 N
 | .h1m1 v4 v5 => ZcX L1 n2 n3 N v4 v5

def ZeD (L1 : List R_iiii) (n2 : Nat) (n3 : Nat) (N : Nat) : Option (ZaE ⊕ Zbs) :=
 ((Zdk (L1) (n2) (n3) N).bind fun r => match r with
 | .r0 y0_0 =>
  if ¬ (y0_0 = (0 : Int)) then
   some (.inr (.r0 (y0_0) : Zbs))
  else
  some (.inl (.h1m0 : ZaE))
 )

def ZeR (L1 : List R_iiii) (n2 : Nat) (n3 : Nat) (N : Nat) : Option Zbs := goM (ZdR L1 n2 n3 N) N (ZeD L1 n2 n3 N)

inductive ZF where
 | r0 (w2 : Int) (w3 : Int)

def ZcD (L1 : List R_iiii) (n2 : Nat) (n3 : Nat) (a4 : Int) (N : Nat) : Option ZF :=
 ((ZbP (L1) (n2) (n3) N).bind fun r => match r with
 | .r0 y0_0 =>
  if ¬ (y0_0 = (0 : Int)) then
   some (.r0 ((-1 : Int)) ((0 : Int)) : ZF)
  else
  if a4 < (0 : Int) then
   some (.r0 ((-1 : Int)) ((0 : Int)) : ZF)
  else
  if (n2 : Int) < a4 then
   some (.r0 ((-1 : Int)) ((0 : Int)) : ZF)
  else
  none
 | .r1 y0_0 y0_1 =>
  if ¬ (y0_1 = (0 : Int)) then
   some (.r0 ((-1 : Int)) ((0 : Int)) : ZF)
  else
  if a4 < (0 : Int) then
   some (.r0 ((-1 : Int)) ((0 : Int)) : ZF)
  else
  if (n2 : Int) < a4 then
   some (.r0 ((-1 : Int)) ((0 : Int)) : ZF)
  else
  if (a4).toNat < 1 then
   some (.r0 ((([(⟨(-1 : Int), (0 : Int)⟩ : R_ii)] : List R_ii).getD (a4).toNat R_ii.z).a0) ((([(⟨(-1 : Int), (0 : Int)⟩ : R_ii)] : List R_ii).getD (a4).toNat R_ii.z).a1) : ZF)
  else
  none
 | .r2 y0_0 y0_1 y0_2 y0_3 y0_4 y0_5 y0_6 =>
  if ¬ (y0_6 = (0 : Int)) then
   some (.r0 ((-1 : Int)) ((0 : Int)) : ZF)
  else
  if a4 < (0 : Int) then
   some (.r0 ((-1 : Int)) ((0 : Int)) : ZF)
  else
  if (n2 : Int) < a4 then
   some (.r0 ((-1 : Int)) ((0 : Int)) : ZF)
  else
  if (a4).toNat < y0_1.length then
   some (.r0 ((y0_1.getD (a4).toNat R_ii.z).a0) ((y0_1.getD (a4).toNat R_ii.z).a1) : ZF)
  else
  none
 | .r3 y0_0 y0_1 y0_2 y0_3 =>
  if ¬ (y0_3 = (0 : Int)) then
   some (.r0 ((-1 : Int)) ((0 : Int)) : ZF)
  else
  if a4 < (0 : Int) then
   some (.r0 ((-1 : Int)) ((0 : Int)) : ZF)
  else
  if (n2 : Int) < a4 then
   some (.r0 ((-1 : Int)) ((0 : Int)) : ZF)
  else
  if (a4).toNat < y0_0.length then
   some (.r0 ((y0_0.getD (a4).toNat R_ii.z).a0) ((y0_0.getD (a4).toNat R_ii.z).a1) : ZF)
  else
  none
 )

inductive ZbB where
 | r0 (w2 : Int) (w3 : Int)

def Zdr (L1 : List R_iiii) (n2 : Nat) (n3 : Nat) (a4 : Int) (N : Nat) : Option ZbB :=
 if a4 < (0 : Int) then
  some (.r0 ((-1 : Int)) ((0 : Int)) : ZbB)
 else
 if (n2 : Int) < a4 then
  some (.r0 ((-1 : Int)) ((0 : Int)) : ZbB)
 else
 ((Zdk (L1) (n2) (n3) N).bind fun r => match r with
 | .r0 y2_0 =>
  if ¬ (y2_0 = (0 : Int)) then
   some (.r0 ((-1 : Int)) ((0 : Int)) : ZbB)
  else
  ((Zcp (L1) (n2) (n3) (a4) N).bind fun r => match r with
  | .r0 y4_0 y4_1 =>
   some (.r0 (y4_0) (y4_1) : ZbB)
  )
 )

inductive ZbJ where
 | r0

inductive Zbk where
 | h1m0

def ZfU  (N : Nat) : Option (Zbk ⊕ ZbJ) :=
 some (.inr (.r0 : ZbJ))

def ZeK  (N : Nat) : Zbk → Option (Zbk ⊕ ZbJ)
 | .h1m0 => ZfU  N

def Zhb  (N : Nat) : Option (Zbk ⊕ ZbJ) :=
 some (.inl (.h1m0 : Zbk))

def ZbE  (N : Nat) : Option ZbJ := goM (ZeK  N) N (Zhb  N)

inductive Zbe where
 | r0 (w2 : Int)

def ZdJ (L1 : List R_iiii) (n2 : Nat) (n3 : Nat) (N : Nat) : Option Zbe :=
 ((ZbP (L1) (n2) (n3) N).bind fun r => match r with
 | .r0 y0_0 =>
  some (.r0 ((0 : Int)) : Zbe)
 | .r1 y0_0 y0_1 =>
  some (.r0 ((0 : Int)) : Zbe)
 | .r2 y0_0 y0_1 y0_2 y0_3 y0_4 y0_5 y0_6 =>
  if ¬ (y0_6 = (0 : Int)) then
   some (.r0 ((0 : Int)) : Zbe)
  else
  some (.r0 (y0_4) : Zbe)
 | .r3 y0_0 y0_1 y0_2 y0_3 =>
  some (.r0 ((0 : Int)) : Zbe)
 )

inductive ZbU where
 | r0 (w2 : Int)

inductive Zbf where
 | h1m0 (v4 : Int) (v5 : Nat)

def ZcY (L1 : List R_iiii) (n2 : Nat) (n3 : Nat) (N : Nat) (v4 : Int) (v5 : Nat) : Option (Zbf ⊕ ZbU) :=
 if (v5 : Int) ≤ (n2 : Int) then
  ((ZdI (L1) (n2) (n3) ((v5 : Int)) N).bind fun r => match r with
  | .r0 =>
   if (((v5 + 1) : Nat) : Int) ≤ (9223372036854775807 : Int) then
    some (.inl (.h1m0 ((if (0 : Int) > v4 then (0 : Int) else v4)) ((v5 + 1)) : Zbf))
   else
   none
  | .r1 y1_0 =>
   if (((v5 + 1) : Nat) : Int) ≤ (9223372036854775807 : Int) then
    some (.inl (.h1m0 ((if (y1_0.length : Int) > v4 then (y1_0.length : Int) else v4)) ((v5 + 1)) : Zbf))
   else
   none
  )
 else
 some (.inr (.r0 (v4) : ZbU))

def ZdS (L1 : List R_iiii) (n2 : Nat) (n3 : Nat) (N : Nat) : Zbf → Option (Zbf ⊕ ZbU)
 | .h1m0 v4 v5 => ZcY L1 n2 n3 N v4 v5

def ZgX (L1 : List R_iiii) (n2 : Nat) (n3 : Nat) (N : Nat) : Option (Zbf ⊕ ZbU) :=
 ((Zdk (L1) (n2) (n3) N).bind fun r => match r with
 | .r0 y0_0 =>
  if ¬ (y0_0 = (0 : Int)) then
   some (.inr (.r0 ((0 : Int)) : ZbU))
  else
  some (.inl (.h1m0 ((0 : Int)) (0) : Zbf))
 )

def Zem (L1 : List R_iiii) (n2 : Nat) (n3 : Nat) (N : Nat) : Option ZbU := goM (ZdS L1 n2 n3 N) N (ZgX L1 n2 n3 N)

inductive ZaL where
 | r0
 | r1 (w2 : List Int)

def Zcq (L1 : List R_iiii) (n2 : Nat) (n3 : Nat) (N : Nat) : Option ZaL :=
 ((ZbP (L1) (n2) (n3) N).bind fun r => match r with
 | .r0 y0_0 =>
  some (.r0 : ZaL)
 | .r1 y0_0 y0_1 =>
  some (.r0 : ZaL)
 | .r2 y0_0 y0_1 y0_2 y0_3 y0_4 y0_5 y0_6 =>
  if ¬ (y0_6 = (0 : Int)) then
   some (.r0 : ZaL)
  else
  some (.r1 (y0_3) : ZaL)
 | .r3 y0_0 y0_1 y0_2 y0_3 =>
  some (.r0 : ZaL)
 )

inductive ZaZ where
 | r0
 | r1 (w2 : List Int)

inductive ZK where
 | h1m0 (v4 : Nat)
 | h1m1 (v4 : List Int) (v5 : Nat)

def Zcb (L1 : List R_iiii) (n2 : Nat) (n3 : Nat) (N : Nat) (v4 : Nat) : Option (ZK ⊕ ZaZ) :=
 if (v4 : Int) < (n2 : Int) then
  if v4 < L1.length then
   if (L1.getD v4 R_iiii.z).a0 = (15 : Int) then
    ((ZdI (L1) (n2) (n3) ((v4 : Int)) N).bind fun r => match r with
    | .r0 =>
     if (((v4 + 1) : Nat) : Int) ≤ (9223372036854775807 : Int) then
      some (.inl (.h1m1 (([(v4 : Int)] : List Int)) ((v4 + 1)) : ZK))
     else
     none
    | .r1 y3_0 =>
     if (y3_0.length : Int) = (0 : Int) then
      if (((v4 + 1) : Nat) : Int) ≤ (9223372036854775807 : Int) then
       some (.inl (.h1m1 (([(v4 : Int)] : List Int)) ((v4 + 1)) : ZK))
      else
      none
     else
     if (((v4 + 1) : Nat) : Int) ≤ (9223372036854775807 : Int) then
      some (.inl (.h1m0 ((v4 + 1)) : ZK))
     else
     none
    )
   else
   if (((v4 + 1) : Nat) : Int) ≤ (9223372036854775807 : Int) then
    some (.inl (.h1m0 ((v4 + 1)) : ZK))
   else
   none
  else
  none
 else
 some (.inr (.r0 : ZaZ))

def Zc7 (L1 : List R_iiii) (n2 : Nat) (n3 : Nat) (N : Nat) (v4 : List Int) (v5 : Nat) : Option (ZK ⊕ ZaZ) :=
 if (v5 : Int) < (n2 : Int) then
  if v5 < L1.length then
   if (L1.getD v5 R_iiii.z).a0 = (15 : Int) then
    ((ZdI (L1) (n2) (n3) ((v5 : Int)) N).bind fun r => match r with
    | .r0 =>
     if v4.length ≤ 100000 then
      if (((v5 + 1) : Nat) : Int) ≤ (9223372036854775807 : Int) then
       some (.inl (.h1m1 ((v4 ++ ([(v5 : Int)] : List Int))) ((v5 + 1)) : ZK))
      else
      none
     else
     none
    | .r1 y3_0 =>
     if (y3_0.length : Int) = (0 : Int) then
      if v4.length ≤ 100000 then
       if (((v5 + 1) : Nat) : Int) ≤ (9223372036854775807 : Int) then
        some (.inl (.h1m1 ((v4 ++ ([(v5 : Int)] : List Int))) ((v5 + 1)) : ZK))
       else
       none
      else
      none
     else
     if (((v5 + 1) : Nat) : Int) ≤ (9223372036854775807 : Int) then
      some (.inl (.h1m1 (v4) ((v5 + 1)) : ZK))
     else
     none
    )
   else
   if (((v5 + 1) : Nat) : Int) ≤ (9223372036854775807 : Int) then
    some (.inl (.h1m1 (v4) ((v5 + 1)) : ZK))
   else
   none
  else
  none
 else
 some (.inr (.r1 (v4) : ZaZ))

def Zcr (L1 : List R_iiii) (n2 : Nat) (n3 : Nat) (N : Nat) : ZK → Option (ZK ⊕ ZaZ)
 | .h1m0 v4 => Zcb L1 n2 n3 N v4
 | .h1m1 v4 v5 => Zc7 L1 n2 n3 N v4 v5

def Zgv (L1 : List R_iiii) (n2 : Nat) (n3 : Nat) (N : Nat) : Option (ZK ⊕ ZaZ) :=
 ((Zdk (L1) (n2) (n3) N).bind fun r => match r with
 | .r0 y0_0 =>
  if ¬ (y0_0 = (0 : Int)) then
   some (.inr (.r0 : ZaZ))
  else
  some (.inl (.h1m0 (0) : ZK))
 )

def ZbF (L1 : List R_iiii) (n2 : Nat) (n3 : Nat) (N : Nat) : Option ZaZ := goM (Zcr L1 n2 n3 N) N (Zgv L1 n2 n3 N)

inductive Zba where
 | r0 (w1 : Bool)

inductive ZaQ where
 | h1m0

def Zfc (L0 : List Int) (N : Nat) : Option (ZaQ ⊕ Zba) :=
 some (.inr (.r0 (true) : Zba))

def Zej (L0 : List Int) (N : Nat) : ZaQ → Option (ZaQ ⊕ Zba)
 | .h1m0 => Zfc L0 N

def Zgh (L0 : List Int) (N : Nat) : Option (ZaQ ⊕ Zba) :=
 if ¬ ((0 : Int) = (L0.length : Int)) then
  some (.inr (.r0 (false) : Zba))
 else
 some (.inl (.h1m0 : ZaQ))

def Zcs (L0 : List Int) (N : Nat) : Option Zba := goM (Zej L0 N) N (Zgh L0 N)

inductive Zbb where
 | r0 (w1 : Bool)

inductive ZaR where
 | h1m0

def Zfd (L0 : List Int) (N : Nat) : Option (ZaR ⊕ Zbb) :=
 if (0 : Int) < (L0.length : Int) then
  none
 else
 some (.inr (.r0 (true) : Zbb))

def Zek (L0 : List Int) (N : Nat) : ZaR → Option (ZaR ⊕ Zbb)
 | .h1m0 => Zfd L0 N

def Zgi (L0 : List Int) (N : Nat) : Option (ZaR ⊕ Zbb) :=
 if ¬ ((L0.length : Int) = (0 : Int)) then
  some (.inr (.r0 (false) : Zbb))
 else
 some (.inl (.h1m0 : ZaR))

def Zct (L0 : List Int) (N : Nat) : Option Zbb := goM (Zek L0 N) N (Zgi L0 N)

inductive ZaH where
 | r0 (w2 : Bool)

inductive Za8 where
 | h1m0 (v2 : Nat)

def ZbG (L0 : List Int) (L1 : List Int) (N : Nat) (v2 : Nat) : Option (Za8 ⊕ ZaH) :=
 if (v2 : Int) < (L0.length : Int) then
  if v2 < L1.length then
   if ¬ ((L0.getD v2 0) = (L1.getD v2 0)) then
    some (.inr (.r0 (false) : ZaH))
   else
   if (((v2 + 1) : Nat) : Int) ≤ (9223372036854775807 : Int) then
    some (.inl (.h1m0 ((v2 + 1)) : Za8))
   else
   none
  else
  none
 else
 some (.inr (.r0 (true) : ZaH))

def Zds (L0 : List Int) (L1 : List Int) (N : Nat) : Za8 → Option (Za8 ⊕ ZaH)
 | .h1m0 v2 => ZbG L0 L1 N v2

def ZeL (L0 : List Int) (L1 : List Int) (N : Nat) : Option (Za8 ⊕ ZaH) :=
 if ¬ ((L0.length : Int) = (L1.length : Int)) then
  some (.inr (.r0 (false) : ZaH))
 else
 some (.inl (.h1m0 (0) : Za8))

def ZbS (L0 : List Int) (L1 : List Int) (N : Nat) : Option ZaH := goM (Zds L0 L1 N) N (ZeL L0 L1 N)

inductive Zh where
 | r0 (w2 : Bool)

inductive Zo where
 | h1m0 (v2 : Nat) (v3 : Nat)
 | h2m0 (v2 : Nat) (v3 : Nat) (v5 : Int) (v6 : Int)
 | h2m1 (v2 : Nat) (v3 : Nat) (v5 : Int) (v6 : List Int)
 | h2m2 (v2 : Nat) (v3 : Nat) (v5 : List Int) (v7 : Int)
 | h2m3 (v2 : Nat) (v3 : Nat) (v5 : List Int) (v7 : List Int)
 | h3m0 (v2 : Nat) (v3 : Nat) (v4 : Int) (v5 : Int) (v6 : Int) (v7 : Int) (v8 : Int) (v9 : Int)
 | h3m1 (v2 : Nat) (v3 : Nat) (v4 : Int) (v5 : List Int) (v7 : Int) (v8 : Int) (v9 : Int) (v10 : Int)
 | h3m2 (v2 : Nat) (v3 : Nat) (v4 : List Int) (v6 : Int) (v7 : Int) (v8 : Int) (v9 : Int) (v10 : Int)
 | h3m3 (v2 : Nat) (v3 : Nat) (v4 : List Int) (v6 : List Int) (v8 : Int) (v9 : Int) (v10 : Int) (v11 : Int)

def Zfe (L1 : List R_iiii) (n2 : Nat) (n3 : Nat) (a4 : Int) (N : Nat) (v2 : Nat) (v3 : Nat) : Option (Zo ⊕ Zh) :=
 ((ZeQ (L1) (v2) (v3) N).bind fun r => match r with
 | .r0 y0_0 =>
  ((ZeR (L1) (v2) (v3) N).bind fun r => match r with
  | .r0 y1_0 =>
   some (.inl (.h2m0 (v2) (v3) (y0_0) (y1_0) : Zo))
  | .r1 y1_0 =>
   some (.inl (.h2m1 (v2) (v3) (y0_0) (y1_0) : Zo))
  )
 | .r1 y0_0 =>
  ((ZeR (L1) (v2) (v3) N).bind fun r => match r with
  | .r0 y1_0 =>
   some (.inl (.h2m2 (v2) (v3) (y0_0) (y1_0) : Zo))
  | .r1 y1_0 =>
   some (.inl (.h2m3 (v2) (v3) (y0_0) (y1_0) : Zo))
  )
 )

def Zff (L1 : List R_iiii) (n2 : Nat) (n3 : Nat) (a4 : Int) (N : Nat) (v2 : Nat) (v3 : Nat) (v5 : Int) (v6 : Int) : Option (Zo ⊕ Zh) :=
 ((ZcD (L1) (v2) (v3) (a4) N).bind fun r => match r with
 | .r0 y0_0 y0_1 =>
  ((Zdr (L1) (v2) (v3) (a4) N).bind fun r => match r with
  | .r0 y1_0 y1_1 =>
   some (.inl (.h3m0 (v2) (v3) (v5) (v6) (y0_0) (y0_1) (y1_0) (y1_1) : Zo))
  )
 )

def Zfg (L1 : List R_iiii) (n2 : Nat) (n3 : Nat) (a4 : Int) (N : Nat) (v2 : Nat) (v3 : Nat) (v5 : Int) (v6 : List Int) : Option (Zo ⊕ Zh) :=
 ((ZcD (L1) (v2) (v3) (a4) N).bind fun r => match r with
 | .r0 y0_0 y0_1 =>
  ((Zdr (L1) (v2) (v3) (a4) N).bind fun r => match r with
  | .r0 y1_0 y1_1 =>
   some (.inl (.h3m1 (v2) (v3) (v5) (v6) (y0_0) (y0_1) (y1_0) (y1_1) : Zo))
  )
 )

def Zfh (L1 : List R_iiii) (n2 : Nat) (n3 : Nat) (a4 : Int) (N : Nat) (v2 : Nat) (v3 : Nat) (v5 : List Int) (v7 : Int) : Option (Zo ⊕ Zh) :=
 ((ZcD (L1) (v2) (v3) (a4) N).bind fun r => match r with
 | .r0 y0_0 y0_1 =>
  ((Zdr (L1) (v2) (v3) (a4) N).bind fun r => match r with
  | .r0 y1_0 y1_1 =>
   some (.inl (.h3m2 (v2) (v3) (v5) (v7) (y0_0) (y0_1) (y1_0) (y1_1) : Zo))
  )
 )

def Zfi (L1 : List R_iiii) (n2 : Nat) (n3 : Nat) (a4 : Int) (N : Nat) (v2 : Nat) (v3 : Nat) (v5 : List Int) (v7 : List Int) : Option (Zo ⊕ Zh) :=
 ((ZcD (L1) (v2) (v3) (a4) N).bind fun r => match r with
 | .r0 y0_0 y0_1 =>
  ((Zdr (L1) (v2) (v3) (a4) N).bind fun r => match r with
  | .r0 y1_0 y1_1 =>
   some (.inl (.h3m3 (v2) (v3) (v5) (v7) (y0_0) (y0_1) (y1_0) (y1_1) : Zo))
  )
 )

def Zdd (L1 : List R_iiii) (n2 : Nat) (n3 : Nat) (a4 : Int) (N : Nat) (v2 : Nat) (v3 : Nat) (v4 : Int) (v5 : Int) (v6 : Int) (v7 : Int) (v8 : Int) (v9 : Int) : Option (Zo ⊕ Zh) :=
 ((ZbE N).bind fun r => match r with
 | .r0 =>
  if v4 = v5 then
   if v6 = v8 then
    if v7 = v9 then
     ((ZdJ (L1) (v2) (v3) N).bind fun r => match r with
     | .r0 y4_0 =>
      ((Zem (L1) (v2) (v3) N).bind fun r => match r with
      | .r0 y5_0 =>
       if y4_0 = y5_0 then
        ((Zcq (L1) (v2) (v3) N).bind fun r => match r with
        | .r0 =>
         ((ZbF (L1) (v2) (v3) N).bind fun r => match r with
         | .r0 =>
          ((ZbE N).bind fun r => match r with
          | .r0 =>
           some (.inr (.r0 (true) : Zh))
          )
         | .r1 y8_0 =>
          ((Zcs (y8_0) N).bind fun r => match r with
          | .r0 y9_0 =>
           if y9_0 = true then
            some (.inr (.r0 (true) : Zh))
           else
           some (.inr (.r0 (false) : Zh))
          )
         )
        | .r1 y7_0 =>
         ((ZbF (L1) (v2) (v3) N).bind fun r => match r with
         | .r0 =>
          ((Zct (y7_0) N).bind fun r => match r with
          | .r0 y9_0 =>
           if y9_0 = true then
            some (.inr (.r0 (true) : Zh))
           else
           some (.inr (.r0 (false) : Zh))
          )
         | .r1 y8_0 =>
          ((ZbS (y7_0) (y8_0) N).bind fun r => match r with
          | .r0 y9_0 =>
           if y9_0 = true then
            some (.inr (.r0 (true) : Zh))
           else
           some (.inr (.r0 (false) : Zh))
          )
         )
        )
       else
       some (.inr (.r0 (false) : Zh))
      )
     )
    else
    some (.inr (.r0 (false) : Zh))
   else
   some (.inr (.r0 (false) : Zh))
  else
  some (.inr (.r0 (false) : Zh))
 )

def Zfj (L1 : List R_iiii) (n2 : Nat) (n3 : Nat) (a4 : Int) (N : Nat) (v2 : Nat) (v3 : Nat) (v4 : Int) (v5 : List Int) (v7 : Int) (v8 : Int) (v9 : Int) (v10 : Int) : Option (Zo ⊕ Zh) :=
 ((Zcs (v5) N).bind fun r => match r with
 | .r0 y0_0 =>
  if y0_0 = true then
   if v4 = (0 : Int) then
    if v7 = v9 then
     if v8 = v10 then
      ((ZdJ (L1) (v2) (v3) N).bind fun r => match r with
      | .r0 y5_0 =>
       ((Zem (L1) (v2) (v3) N).bind fun r => match r with
       | .r0 y6_0 =>
        if y5_0 = y6_0 then
         ((Zcq (L1) (v2) (v3) N).bind fun r => match r with
         | .r0 =>
          ((ZbF (L1) (v2) (v3) N).bind fun r => match r with
          | .r0 =>
           ((ZbE N).bind fun r => match r with
           | .r0 =>
            some (.inr (.r0 (true) : Zh))
           )
          | .r1 y9_0 =>
           ((Zcs (y9_0) N).bind fun r => match r with
           | .r0 y10_0 =>
            if y10_0 = true then
             some (.inr (.r0 (true) : Zh))
            else
            some (.inr (.r0 (false) : Zh))
           )
          )
         | .r1 y8_0 =>
          ((ZbF (L1) (v2) (v3) N).bind fun r => match r with
          | .r0 =>
           ((Zct (y8_0) N).bind fun r => match r with
           | .r0 y10_0 =>
            if y10_0 = true then
             some (.inr (.r0 (true) : Zh))
            else
            some (.inr (.r0 (false) : Zh))
           )
          | .r1 y9_0 =>
           ((ZbS (y8_0) (y9_0) N).bind fun r => match r with
           | .r0 y10_0 =>
            if y10_0 = true then
             some (.inr (.r0 (true) : Zh))
            else
            some (.inr (.r0 (false) : Zh))
           )
          )
         )
        else
        some (.inr (.r0 (false) : Zh))
       )
      )
     else
     some (.inr (.r0 (false) : Zh))
    else
    some (.inr (.r0 (false) : Zh))
   else
   some (.inr (.r0 (false) : Zh))
  else
  some (.inr (.r0 (false) : Zh))
 )

def Zfk (L1 : List R_iiii) (n2 : Nat) (n3 : Nat) (a4 : Int) (N : Nat) (v2 : Nat) (v3 : Nat) (v4 : List Int) (v6 : Int) (v7 : Int) (v8 : Int) (v9 : Int) (v10 : Int) : Option (Zo ⊕ Zh) :=
 ((Zct (v4) N).bind fun r => match r with
 | .r0 y0_0 =>
  if y0_0 = true then
   if (0 : Int) = v6 then
    if v7 = v9 then
     if v8 = v10 then
      ((ZdJ (L1) (v2) (v3) N).bind fun r => match r with
      | .r0 y5_0 =>
       ((Zem (L1) (v2) (v3) N).bind fun r => match r with
       | .r0 y6_0 =>
        if y5_0 = y6_0 then
         ((Zcq (L1) (v2) (v3) N).bind fun r => match r with
         | .r0 =>
          ((ZbF (L1) (v2) (v3) N).bind fun r => match r with
          | .r0 =>
           ((ZbE N).bind fun r => match r with
           | .r0 =>
            some (.inr (.r0 (true) : Zh))
           )
          | .r1 y9_0 =>
           ((Zcs (y9_0) N).bind fun r => match r with
           | .r0 y10_0 =>
            if y10_0 = true then
             some (.inr (.r0 (true) : Zh))
            else
            some (.inr (.r0 (false) : Zh))
           )
          )
         | .r1 y8_0 =>
          ((ZbF (L1) (v2) (v3) N).bind fun r => match r with
          | .r0 =>
           ((Zct (y8_0) N).bind fun r => match r with
           | .r0 y10_0 =>
            if y10_0 = true then
             some (.inr (.r0 (true) : Zh))
            else
            some (.inr (.r0 (false) : Zh))
           )
          | .r1 y9_0 =>
           ((ZbS (y8_0) (y9_0) N).bind fun r => match r with
           | .r0 y10_0 =>
            if y10_0 = true then
             some (.inr (.r0 (true) : Zh))
            else
            some (.inr (.r0 (false) : Zh))
           )
          )
         )
        else
        some (.inr (.r0 (false) : Zh))
       )
      )
     else
     some (.inr (.r0 (false) : Zh))
    else
    some (.inr (.r0 (false) : Zh))
   else
   some (.inr (.r0 (false) : Zh))
  else
  some (.inr (.r0 (false) : Zh))
 )

def Zde (L1 : List R_iiii) (n2 : Nat) (n3 : Nat) (a4 : Int) (N : Nat) (v2 : Nat) (v3 : Nat) (v4 : List Int) (v6 : List Int) (v8 : Int) (v9 : Int) (v10 : Int) (v11 : Int) : Option (Zo ⊕ Zh) :=
 ((ZbS (v4) (v6) N).bind fun r => match r with
 | .r0 y0_0 =>
  if y0_0 = true then
   if v8 = v10 then
    if v9 = v11 then
     ((ZdJ (L1) (v2) (v3) N).bind fun r => match r with
     | .r0 y4_0 =>
      ((Zem (L1) (v2) (v3) N).bind fun r => match r with
      | .r0 y5_0 =>
       if y4_0 = y5_0 then
        ((Zcq (L1) (v2) (v3) N).bind fun r => match r with
        | .r0 =>
         ((ZbF (L1) (v2) (v3) N).bind fun r => match r with
         | .r0 =>
          ((ZbE N).bind fun r => match r with
          | .r0 =>
           some (.inr (.r0 (true) : Zh))
          )
         | .r1 y8_0 =>
          ((Zcs (y8_0) N).bind fun r => match r with
          | .r0 y9_0 =>
           if y9_0 = true then
            some (.inr (.r0 (true) : Zh))
           else
           some (.inr (.r0 (false) : Zh))
          )
         )
        | .r1 y7_0 =>
         ((ZbF (L1) (v2) (v3) N).bind fun r => match r with
         | .r0 =>
          ((Zct (y7_0) N).bind fun r => match r with
          | .r0 y9_0 =>
           if y9_0 = true then
            some (.inr (.r0 (true) : Zh))
           else
           some (.inr (.r0 (false) : Zh))
          )
         | .r1 y8_0 =>
          ((ZbS (y7_0) (y8_0) N).bind fun r => match r with
          | .r0 y9_0 =>
           if y9_0 = true then
            some (.inr (.r0 (true) : Zh))
           else
           some (.inr (.r0 (false) : Zh))
          )
         )
        )
       else
       some (.inr (.r0 (false) : Zh))
      )
     )
    else
    some (.inr (.r0 (false) : Zh))
   else
   some (.inr (.r0 (false) : Zh))
  else
  some (.inr (.r0 (false) : Zh))
 )

def Zax (L1 : List R_iiii) (n2 : Nat) (n3 : Nat) (a4 : Int) (N : Nat) : Zo → Option (Zo ⊕ Zh)
 | .h1m0 v2 v3 => Zfe L1 n2 n3 a4 N v2 v3
 | .h2m0 v2 v3 v5 v6 => Zff L1 n2 n3 a4 N v2 v3 v5 v6
 | .h2m1 v2 v3 v5 v6 => Zfg L1 n2 n3 a4 N v2 v3 v5 v6
 | .h2m2 v2 v3 v5 v7 => Zfh L1 n2 n3 a4 N v2 v3 v5 v7
 | .h2m3 v2 v3 v5 v7 => Zfi L1 n2 n3 a4 N v2 v3 v5 v7
 | .h3m0 v2 v3 v4 v5 v6 v7 v8 v9 => Zdd L1 n2 n3 a4 N v2 v3 v4 v5 v6 v7 v8 v9
 | .h3m1 v2 v3 v4 v5 v7 v8 v9 v10 => Zfj L1 n2 n3 a4 N v2 v3 v4 v5 v7 v8 v9 v10
 | .h3m2 v2 v3 v4 v6 v7 v8 v9 v10 => Zfk L1 n2 n3 a4 N v2 v3 v4 v6 v7 v8 v9 v10
 | .h3m3 v2 v3 v4 v6 v8 v9 v10 v11 => Zde L1 n2 n3 a4 N v2 v3 v4 v6 v8 v9 v10 v11

def ZdN (L1 : List R_iiii) (n2 : Nat) (n3 : Nat) (a4 : Int) (N : Nat) : Option (Zo ⊕ Zh) :=
 if (60 : Int) < (n2 : Int) then
  if (60 : Int) ≤ (n3 : Int) then
   some (.inl (.h1m0 ((60 - 0)) ((n3 - 0)) : Zo))
  else
  none
 else
 some (.inl (.h1m0 (n2) (n3) : Zo))

def Zhc (L1 : List R_iiii) (n2 : Nat) (n3 : Nat) (a4 : Int) (N : Nat) : Option Zh := goM (Zax L1 n2 n3 a4 N) N (ZdN L1 n2 n3 a4 N)

inductive ZeE where
 | r0

def ZdO  (N : Nat) : Option ZeE :=
 some (.r0 : ZeE)

inductive Zer where
 | r0

def ZfC  (N : Nat) : Option Zer :=
 ((ZdO N).bind fun r => match r with
 | .r0 =>
  some (.r0 : Zer)
 )

inductive Zes where
 | r0

def ZfD  (N : Nat) : Option Zes :=
 some (.r0 : Zes)

inductive Zet where
 | r0

def Zd6  (N : Nat) : Option Zet :=
 ((ZfD N).bind fun r => match r with
 | .r0 =>
  some (.r0 : Zet)
 )

inductive Zeu where
 | r0

def ZfE  (N : Nat) : Option Zeu :=
 ((Zd6 N).bind fun r => match r with
 | .r0 =>
  some (.r0 : Zeu)
 )

inductive ZdT where
 | r0

def Zfl (a0 : Int) (N : Nat) : Option ZdT :=
 ((ZdO N).bind fun r => match r with
 | .r0 =>
  some (.r0 : ZdT)
 )

inductive ZbK where
 | r0

def Zev (a0 : Int) (N : Nat) : Option ZbK :=
 if a0 < (0 : Int) then
  some (.r0 : ZbK)
 else
 if (0 : Int) < a0 then
  some (.r0 : ZbK)
 else
 ((Zd6 N).bind fun r => match r with
 | .r0 =>
  some (.r0 : ZbK)
 )

inductive Zew where
 | r0

def ZfF  (N : Nat) : Option Zew :=
 ((ZdO N).bind fun r => match r with
 | .r0 =>
  some (.r0 : Zew)
 )

inductive Zex where
 | r0

def ZfG  (N : Nat) : Option Zex :=
 ((Zd6 N).bind fun r => match r with
 | .r0 =>
  some (.r0 : Zex)
 )

inductive ZdU where
 | r0

def Zfm  (N : Nat) : Option ZdU :=
 ((ZdO N).bind fun r => match r with
 | .r0 =>
  some (.r0 : ZdU)
 )

inductive ZdV where
 | r0

def Zfn  (N : Nat) : Option ZdV :=
 ((Zd6 N).bind fun r => match r with
 | .r0 =>
  some (.r0 : ZdV)
 )

inductive ZaM where
 | r0

inductive Z9 where
 | h1m0
 | h2m0
 | h3m0

def ZeA (a0 : Int) (N : Nat) : Option (Z9 ⊕ ZaM) :=
 ((ZfC N).bind fun r => match r with
 | .r0 =>
  ((ZfE N).bind fun r => match r with
  | .r0 =>
   some (.inl (.h2m0 : Z9))
  )
 )

def ZeB (a0 : Int) (N : Nat) : Option (Z9 ⊕ ZaM) :=
 ((Zfl (a0) N).bind fun r => match r with
 | .r0 =>
  ((Zev (a0) N).bind fun r => match r with
  | .r0 =>
   some (.inl (.h3m0 : Z9))
  )
 )

def Zc4 (a0 : Int) (N : Nat) : Option (Z9 ⊕ ZaM) :=
 ((ZbE N).bind fun r => match r with
 | .r0 =>
  ((ZfF N).bind fun r => match r with
  | .r0 =>
   ((ZfG N).bind fun r => match r with
   | .r0 =>
    ((Zfm N).bind fun r => match r with
    | .r0 =>
     ((Zfn N).bind fun r => match r with
     | .r0 =>
      ((ZbE N).bind fun r => match r with
      | .r0 =>
       some (.inr (.r0 : ZaM))
      )
     )
    )
   )
  )
 )

def ZbY (a0 : Int) (N : Nat) : Z9 → Option (Z9 ⊕ ZaM)
 | .h1m0 => ZeA a0 N
 | .h2m0 => ZeB a0 N
 | .h3m0 => Zc4 a0 N

def Zf4 (a0 : Int) (N : Nat) : Option (Z9 ⊕ ZaM) :=
 some (.inl (.h1m0 : Z9))

def Zgj (a0 : Int) (N : Nat) : Option ZaM := goM (ZbY a0 N) N (Zf4 a0 N)
end Ev
end Go.Proofs.Ytpgbennpiihajaa
