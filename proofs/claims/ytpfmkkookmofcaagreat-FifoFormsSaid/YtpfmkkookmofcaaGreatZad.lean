/- Part 4. -/
import Derived.Test.YtpfmkkookmofcaaGreatZac
/- Records, and the program's functions as plain ones. -/
namespace Go.Proofs.YtpfmkkookmofcaaGreat
open Go.RowKit
namespace Ev
set_option linter.unusedVariables false
structure R_ii where
 a0 : Int
 a1 : Int
def R_ii.z : R_ii := ⟨0, 0⟩
structure RA where
 a0 : Int
 a1 : Int
 a2 : Int
 a3 : Int
def RA.z : RA := ⟨0, 0, 0, 0⟩
inductive Zav where
 | r0 (w0 : List RA)
 | r1

def Zbl (a0 : Int) (a1 : Int) (a2 : Int) (a3 : Int) (N : Nat) : Option Zav :=
 if (0 : Int) ≤ a1 then
  if a1 ≤ (3 : Int) then
   if (0 : Int) ≤ a0 then
    if a0 ≤ (400 : Int) then
     if (-1099511627776 : Int) ≤ a2 then
      if a2 ≤ (1099511627776 : Int) then
       if (1 : Int) ≤ a3 then
        if a3 ≤ (1099511627776 : Int) then
         some (.r0 (([(⟨(10 : Int), (0 : Int), (0 : Int), (0 : Int)⟩ : RA), (⟨(1 : Int), (1 : Int), a2, (0 : Int)⟩ : RA), (⟨(1 : Int), (2 : Int), a3, (0 : Int)⟩ : RA), (⟨(1 : Int), (3 : Int), (1 : Int), (0 : Int)⟩ : RA), (⟨(15 : Int), (0 : Int), (0 : Int), (0 : Int)⟩ : RA), (⟨(13 : Int), (6 : Int), (0 : Int), ((8 : Int) + a1)⟩ : RA), (⟨(6 : Int), (5 : Int), (6 : Int), (2 : Int)⟩ : RA), (⟨(9 : Int), (5 : Int), (a0 + (19 : Int)), (0 : Int)⟩ : RA), (⟨(11 : Int), (4 : Int), (2 : Int), (1 : Int)⟩ : RA), (⟨(14 : Int), (4 : Int), (1 : Int), (1 : Int)⟩ : RA), (⟨(13 : Int), (5 : Int), (0 : Int), (((2 : Int) * a1) + (1 : Int))⟩ : RA), (⟨(9 : Int), (5 : Int), (a0 + (14 : Int)), (0 : Int)⟩ : RA), (⟨(14 : Int), (5 : Int), (0 : Int), (4 : Int)⟩ : RA), (⟨(8 : Int), (a0 + (15 : Int)), (0 : Int), (0 : Int)⟩ : RA), (⟨(14 : Int), (0 : Int), ((2 : Int) * a1), (4 : Int)⟩ : RA), (⟨(14 : Int), (0 : Int), (((2 : Int) * a1) + (1 : Int)), (4 : Int)⟩ : RA), (⟨(4 : Int), (6 : Int), (6 : Int), (3 : Int)⟩ : RA), (⟨(14 : Int), (0 : Int), ((8 : Int) + a1), (6 : Int)⟩ : RA), (⟨(8 : Int), (a0 + (20 : Int)), (0 : Int), (0 : Int)⟩ : RA), (⟨(18 : Int), (0 : Int), (0 : Int), (0 : Int)⟩ : RA), (⟨(1 : Int), (7 : Int), (1 : Int), (0 : Int)⟩ : RA), (⟨(17 : Int), (0 : Int), (0 : Int), (0 : Int)⟩ : RA)] : List RA)) : Zav)
        else
        some (.r1 : Zav)
       else
       some (.r1 : Zav)
      else
      some (.r1 : Zav)
     else
     some (.r1 : Zav)
    else
    some (.r1 : Zav)
   else
   some (.r1 : Zav)
  else
  some (.r1 : Zav)
 else
 some (.r1 : Zav)

inductive ZaU where
 | r0 (w0 : List RA)
 | r1

def ZaK (a0 : Int) (a1 : Int) (N : Nat) : Option ZaU :=
 if (0 : Int) ≤ a1 then
  if a1 ≤ (3 : Int) then
   if (0 : Int) ≤ a0 then
    if a0 ≤ (400 : Int) then
     some (.r0 (([(⟨(10 : Int), (0 : Int), (0 : Int), (0 : Int)⟩ : RA), (⟨(1 : Int), (1 : Int), (0 : Int), (0 : Int)⟩ : RA), (⟨(1 : Int), (2 : Int), (0 : Int), (0 : Int)⟩ : RA), (⟨(1 : Int), (3 : Int), (1 : Int), (0 : Int)⟩ : RA), (⟨(15 : Int), (0 : Int), (0 : Int), (0 : Int)⟩ : RA), (⟨(13 : Int), (4 : Int), (0 : Int), ((2 : Int) * a1)⟩ : RA), (⟨(9 : Int), (4 : Int), (a0 + (18 : Int)), (0 : Int)⟩ : RA), (⟨(13 : Int), (7 : Int), (4 : Int), (1 : Int)⟩ : RA), (⟨(13 : Int), (5 : Int), (4 : Int), (0 : Int)⟩ : RA), (⟨(14 : Int), (0 : Int), ((2 : Int) * a1), (5 : Int)⟩ : RA), (⟨(9 : Int), (5 : Int), (a0 + (12 : Int)), (0 : Int)⟩ : RA), (⟨(8 : Int), (a0 + (13 : Int)), (0 : Int), (0 : Int)⟩ : RA), (⟨(14 : Int), (0 : Int), (((2 : Int) * a1) + (1 : Int)), (5 : Int)⟩ : RA), (⟨(13 : Int), (6 : Int), (0 : Int), ((8 : Int) + a1)⟩ : RA), (⟨(5 : Int), (6 : Int), (6 : Int), (3 : Int)⟩ : RA), (⟨(14 : Int), (0 : Int), ((8 : Int) + a1), (6 : Int)⟩ : RA), (⟨(12 : Int), (4 : Int), (0 : Int), (0 : Int)⟩ : RA), (⟨(8 : Int), (a0 + (19 : Int)), (0 : Int), (0 : Int)⟩ : RA), (⟨(18 : Int), (0 : Int), (0 : Int), (0 : Int)⟩ : RA), (⟨(17 : Int), (0 : Int), (0 : Int), (0 : Int)⟩ : RA)] : List RA)) : ZaU)
    else
    some (.r1 : ZaU)
   else
   some (.r1 : ZaU)
  else
  some (.r1 : ZaU)
 else
 some (.r1 : ZaU)

inductive ZaF where
 | r0 (w0 : List RA)
 | r1

def ZaQ (a0 : Int) (a1 : Int) (a2 : Int) (N : Nat) : Option ZaF :=
 if (0 : Int) ≤ a1 then
  if a1 ≤ (3 : Int) then
   if (0 : Int) ≤ a0 then
    if a0 ≤ (400 : Int) then
     if (-1099511627776 : Int) ≤ a2 then
      if a2 ≤ (1099511627776 : Int) then
       some (.r0 (([(⟨(10 : Int), (0 : Int), (0 : Int), (0 : Int)⟩ : RA), (⟨(1 : Int), (1 : Int), a2, (0 : Int)⟩ : RA), (⟨(1 : Int), (2 : Int), (0 : Int), (0 : Int)⟩ : RA), (⟨(1 : Int), (3 : Int), (1 : Int), (0 : Int)⟩ : RA), (⟨(15 : Int), (0 : Int), (0 : Int), (0 : Int)⟩ : RA), (⟨(13 : Int), (4 : Int), (0 : Int), ((2 : Int) * a1)⟩ : RA), (⟨(9 : Int), (4 : Int), (a0 + (18 : Int)), (0 : Int)⟩ : RA), (⟨(13 : Int), (7 : Int), (4 : Int), (1 : Int)⟩ : RA), (⟨(13 : Int), (5 : Int), (4 : Int), (0 : Int)⟩ : RA), (⟨(14 : Int), (0 : Int), ((2 : Int) * a1), (5 : Int)⟩ : RA), (⟨(9 : Int), (5 : Int), (a0 + (12 : Int)), (0 : Int)⟩ : RA), (⟨(8 : Int), (a0 + (13 : Int)), (0 : Int), (0 : Int)⟩ : RA), (⟨(14 : Int), (0 : Int), (((2 : Int) * a1) + (1 : Int)), (5 : Int)⟩ : RA), (⟨(13 : Int), (6 : Int), (0 : Int), ((8 : Int) + a1)⟩ : RA), (⟨(5 : Int), (6 : Int), (6 : Int), (3 : Int)⟩ : RA), (⟨(14 : Int), (0 : Int), ((8 : Int) + a1), (6 : Int)⟩ : RA), (⟨(12 : Int), (4 : Int), (0 : Int), (0 : Int)⟩ : RA), (⟨(8 : Int), (a0 + (19 : Int)), (0 : Int), (0 : Int)⟩ : RA), (⟨(1 : Int), (7 : Int), a2, (0 : Int)⟩ : RA), (⟨(17 : Int), (0 : Int), (0 : Int), (0 : Int)⟩ : RA)] : List RA)) : ZaF)
      else
      some (.r1 : ZaF)
     else
     some (.r1 : ZaF)
    else
    some (.r1 : ZaF)
   else
   some (.r1 : ZaF)
  else
  some (.r1 : ZaF)
 else
 some (.r1 : ZaF)

inductive Zaj where
 | r0 (w0 : List RA)
 | r1

def ZaB (a0 : Int) (a1 : Int) (a2 : Int) (a3 : Int) (N : Nat) : Option Zaj :=
 if (0 : Int) ≤ a1 then
  if a1 ≤ (3 : Int) then
   if (0 : Int) ≤ a2 then
    if a2 ≤ (3 : Int) then
     if (0 : Int) ≤ a0 then
      if a0 ≤ (400 : Int) then
       if (1 : Int) ≤ a3 then
        if a3 ≤ (1099511627776 : Int) then
         some (.r0 (([(⟨(10 : Int), (0 : Int), (0 : Int), (0 : Int)⟩ : RA), (⟨(1 : Int), (1 : Int), (0 : Int), (0 : Int)⟩ : RA), (⟨(1 : Int), (2 : Int), a3, (0 : Int)⟩ : RA), (⟨(1 : Int), (3 : Int), (1 : Int), (0 : Int)⟩ : RA), (⟨(15 : Int), (0 : Int), (0 : Int), (0 : Int)⟩ : RA), (⟨(13 : Int), (4 : Int), (0 : Int), ((2 : Int) * a1)⟩ : RA), (⟨(9 : Int), (4 : Int), (a0 + (18 : Int)), (0 : Int)⟩ : RA), (⟨(13 : Int), (7 : Int), (4 : Int), (1 : Int)⟩ : RA), (⟨(13 : Int), (5 : Int), (4 : Int), (0 : Int)⟩ : RA), (⟨(14 : Int), (0 : Int), ((2 : Int) * a1), (5 : Int)⟩ : RA), (⟨(9 : Int), (5 : Int), (a0 + (12 : Int)), (0 : Int)⟩ : RA), (⟨(8 : Int), (a0 + (13 : Int)), (0 : Int), (0 : Int)⟩ : RA), (⟨(14 : Int), (0 : Int), (((2 : Int) * a1) + (1 : Int)), (5 : Int)⟩ : RA), (⟨(13 : Int), (6 : Int), (0 : Int), ((8 : Int) + a1)⟩ : RA), (⟨(5 : Int), (6 : Int), (6 : Int), (3 : Int)⟩ : RA), (⟨(14 : Int), (0 : Int), ((8 : Int) + a1), (6 : Int)⟩ : RA), (⟨(12 : Int), (4 : Int), (0 : Int), (0 : Int)⟩ : RA), (⟨(8 : Int), (a0 + (19 : Int)), (0 : Int), (0 : Int)⟩ : RA), (⟨(18 : Int), (0 : Int), (0 : Int), (0 : Int)⟩ : RA), (⟨(13 : Int), (6 : Int), (0 : Int), ((8 : Int) + a2)⟩ : RA), (⟨(6 : Int), (5 : Int), (6 : Int), (2 : Int)⟩ : RA), (⟨(9 : Int), (5 : Int), (a0 + (33 : Int)), (0 : Int)⟩ : RA), (⟨(11 : Int), (4 : Int), (2 : Int), (1 : Int)⟩ : RA), (⟨(14 : Int), (4 : Int), (1 : Int), (7 : Int)⟩ : RA), (⟨(13 : Int), (5 : Int), (0 : Int), (((2 : Int) * a2) + (1 : Int))⟩ : RA), (⟨(9 : Int), (5 : Int), (a0 + (28 : Int)), (0 : Int)⟩ : RA), (⟨(14 : Int), (5 : Int), (0 : Int), (4 : Int)⟩ : RA), (⟨(8 : Int), (a0 + (29 : Int)), (0 : Int), (0 : Int)⟩ : RA), (⟨(14 : Int), (0 : Int), ((2 : Int) * a2), (4 : Int)⟩ : RA), (⟨(14 : Int), (0 : Int), (((2 : Int) * a2) + (1 : Int)), (4 : Int)⟩ : RA), (⟨(4 : Int), (6 : Int), (6 : Int), (3 : Int)⟩ : RA), (⟨(14 : Int), (0 : Int), ((8 : Int) + a2), (6 : Int)⟩ : RA), (⟨(8 : Int), (a0 + (34 : Int)), (0 : Int), (0 : Int)⟩ : RA), (⟨(18 : Int), (0 : Int), (0 : Int), (0 : Int)⟩ : RA), (⟨(17 : Int), (0 : Int), (0 : Int), (0 : Int)⟩ : RA)] : List RA)) : Zaj)
        else
        some (.r1 : Zaj)
       else
       some (.r1 : Zaj)
      else
      some (.r1 : Zaj)
     else
     some (.r1 : Zaj)
    else
    some (.r1 : Zaj)
   else
   some (.r1 : Zaj)
  else
  some (.r1 : Zaj)
 else
 some (.r1 : Zaj)

inductive Zd1 where
 | r0

def Ze8  (N : Nat) : Option Zd1 :=
 some (.r0 : Zd1)

inductive Zd2 where
 | r0

def Ze9  (N : Nat) : Option Zd2 :=
 ((Ze8 N).bind fun r => match r with
 | .r0 =>
  some (.r0 : Zd2)
 )

inductive ZaE where
 | r0
 | r1 (w0 : Bool)

def ZcE (a0 : Int) (a1 : Int) (a2 : Int) (a3 : Int) (a4 : Int) (N : Nat) : Option ZaE :=
 if a0 = (15 : Int) then
  some (.r0 : ZaE)
 else
 if a0 = (16 : Int) then
  some (.r1 (false) : ZaE)
 else
 if a0 = (17 : Int) then
  some (.r1 (false) : ZaE)
 else
 if a0 = (18 : Int) then
  some (.r1 (false) : ZaE)
 else
 some (.r1 (true) : ZaE)

inductive Z8 where
 | r0 (w0 : Int) (w1 : Int) (w2 : Int) (w3 : Bool)

def ZeV (a0 : Int) (N : Nat) : Option Z8 :=
 if a0 = (1 : Int) then
  some (.r0 ((1 : Int)) ((2 : Int)) ((0 : Int)) (true) : Z8)
 else
 if a0 = (2 : Int) then
  some (.r0 ((1 : Int)) ((0 : Int)) ((0 : Int)) (true) : Z8)
 else
 if a0 = (10 : Int) then
  some (.r0 ((1 : Int)) ((0 : Int)) ((0 : Int)) (true) : Z8)
 else
 if a0 = (12 : Int) then
  some (.r0 ((1 : Int)) ((0 : Int)) ((0 : Int)) (true) : Z8)
 else
 if a0 = (19 : Int) then
  some (.r0 ((1 : Int)) ((0 : Int)) ((0 : Int)) (true) : Z8)
 else
 if a0 = (3 : Int) then
  some (.r0 ((1 : Int)) ((1 : Int)) ((0 : Int)) (true) : Z8)
 else
 if a0 = (4 : Int) then
  some (.r0 ((1 : Int)) ((1 : Int)) ((1 : Int)) (true) : Z8)
 else
 if a0 = (5 : Int) then
  some (.r0 ((1 : Int)) ((1 : Int)) ((1 : Int)) (true) : Z8)
 else
 if a0 = (6 : Int) then
  some (.r0 ((1 : Int)) ((1 : Int)) ((1 : Int)) (true) : Z8)
 else
 if a0 = (7 : Int) then
  some (.r0 ((1 : Int)) ((1 : Int)) ((1 : Int)) (true) : Z8)
 else
 if a0 = (8 : Int) then
  some (.r0 ((3 : Int)) ((0 : Int)) ((0 : Int)) (true) : Z8)
 else
 if a0 = (9 : Int) then
  some (.r0 ((1 : Int)) ((3 : Int)) ((0 : Int)) (true) : Z8)
 else
 if a0 = (11 : Int) then
  some (.r0 ((1 : Int)) ((5 : Int)) ((6 : Int)) (true) : Z8)
 else
 if a0 = (13 : Int) then
  some (.r0 ((1 : Int)) ((1 : Int)) ((4 : Int)) (true) : Z8)
 else
 if a0 = (14 : Int) then
  some (.r0 ((1 : Int)) ((4 : Int)) ((1 : Int)) (true) : Z8)
 else
 if a0 = (15 : Int) then
  some (.r0 ((0 : Int)) ((0 : Int)) ((0 : Int)) (true) : Z8)
 else
 if a0 = (16 : Int) then
  some (.r0 ((0 : Int)) ((0 : Int)) ((0 : Int)) (true) : Z8)
 else
 if a0 = (17 : Int) then
  some (.r0 ((0 : Int)) ((0 : Int)) ((0 : Int)) (true) : Z8)
 else
 if a0 = (18 : Int) then
  some (.r0 ((0 : Int)) ((0 : Int)) ((0 : Int)) (true) : Z8)
 else
 if a0 = (20 : Int) then
  some (.r0 ((0 : Int)) ((0 : Int)) ((0 : Int)) (true) : Z8)
 else
 some (.r0 ((0 : Int)) ((0 : Int)) ((0 : Int)) (false) : Z8)

inductive Z0 where
 | r0 (w0 : Bool)

def ZaG (a0 : Int) (a1 : Int) (a2 : Int) (N : Nat) : Option Z0 :=
 if a0 = (1 : Int) then
  if (0 : Int) ≤ a1 then
   if a1 < (8 : Int) then
    some (.r0 (true) : Z0)
   else
   some (.r0 (false) : Z0)
  else
  some (.r0 (false) : Z0)
 else
 if a0 = (2 : Int) then
  if (-1099511627776 : Int) ≤ a1 then
   if a1 ≤ (1099511627776 : Int) then
    some (.r0 (true) : Z0)
   else
   some (.r0 (false) : Z0)
  else
  some (.r0 (false) : Z0)
 else
 if a0 = (3 : Int) then
  if (0 : Int) ≤ a1 then
   if a1 ≤ (512 : Int) then
    some (.r0 (true) : Z0)
   else
   some (.r0 (false) : Z0)
  else
  some (.r0 (false) : Z0)
 else
 if a0 = (4 : Int) then
  if (0 : Int) ≤ a1 then
   if a1 < (16 : Int) then
    some (.r0 (true) : Z0)
   else
   some (.r0 (false) : Z0)
  else
  some (.r0 (false) : Z0)
 else
 if a0 = (5 : Int) then
  if (1 : Int) ≤ a1 then
   if a1 ≤ (16 : Int) then
    some (.r0 (true) : Z0)
   else
   some (.r0 (false) : Z0)
  else
  some (.r0 (false) : Z0)
 else
 if a0 = (6 : Int) then
  if (1 : Int) ≤ a2 then
   if a2 ≤ (16 : Int) then
    if (0 : Int) ≤ a1 then
     if a1 < (IntKind.i64.wrap ((1 : Int) * (2 ^ (a2).toNat : Int))) then
      some (.r0 (true) : Z0)
     else
     some (.r0 (false) : Z0)
    else
    some (.r0 (false) : Z0)
   else
   some (.r0 (false) : Z0)
  else
  some (.r0 (false) : Z0)
 else
 if a1 = (0 : Int) then
  some (.r0 (true) : Z0)
 else
 some (.r0 (false) : Z0)

inductive Zbq where
 | r0 (w0 : Bool)

def ZaR (a0 : Int) (a1 : Int) (a2 : Int) (a3 : Int) (N : Nat) : Option Zbq :=
 ((ZeV (a0) N).bind fun r => match r with
 | .r0 y0_0 y0_1 y0_2 y0_3 =>
  if y0_3 = true then
   ((ZaG (y0_0) (a1) ((0 : Int)) N).bind fun r => match r with
   | .r0 y2_0 =>
    if y2_0 = true then
     ((ZaG (y0_1) (a2) ((0 : Int)) N).bind fun r => match r with
     | .r0 y4_0 =>
      if y4_0 = true then
       ((ZaG (y0_2) (a3) (a2) N).bind fun r => match r with
       | .r0 y6_0 =>
        if y6_0 = true then
         some (.r0 (true) : Zbq)
        else
        some (.r0 (false) : Zbq)
       )
      else
      some (.r0 (false) : Zbq)
     )
    else
    some (.r0 (false) : Zbq)
   )
  else
  some (.r0 (false) : Zbq)
 )

inductive ZA where
 | r0 (w1 : Bool)
 | r1 (w1 : List R_ii)
 | r2

def Zbs (L0 : List R_ii) (a1 : Int) (a2 : Int) (a3 : Int) (a4 : Int) (a5 : Int) (N : Nat) : Option ZA :=
 if a1 = (15 : Int) then
  if (8 : Int) ≤ (L0.length : Int) then
   some (.r0 (false) : ZA)
  else
  if L0.length = 0 then
   some (.r1 (([(⟨a5, (0 : Int)⟩ : R_ii)] : List R_ii)) : ZA)
  else
  some (.r1 ((L0 ++ ([(⟨a5, (0 : Int)⟩ : R_ii)] : List R_ii))) : ZA)
 else
 if a1 = (16 : Int) then
  if (L0.length : Int) = (0 : Int) then
   some (.r0 (false) : ZA)
  else
  if ((L0.length : Int) - (1 : Int)) ≤ (9223372036854775807 : Int) then
   if (L0.getD (L0.length - 1) R_ii.z).a1 = (1 : Int) then
    some (.r0 (false) : ZA)
   else
   if ((L0.length - 1) - 0) = 0 then
    some (.r1 (([(⟨(L0.getD (L0.length - 1) R_ii.z).a0, (1 : Int)⟩ : R_ii)] : List R_ii)) : ZA)
   else
   if ((L0.length - 1) - 0) ≤ 100000 then
    some (.r1 (((L0.take ((L0.length - 1) - 0)) ++ ([(⟨(L0.getD (L0.length - 1) R_ii.z).a0, (1 : Int)⟩ : R_ii)] : List R_ii))) : ZA)
   else
   none
  else
  none
 else
 if a1 = (17 : Int) then
  if (L0.length : Int) = (0 : Int) then
   some (.r0 (false) : ZA)
  else
  if ((L0.length : Int) - (1 : Int)) ≤ (9223372036854775807 : Int) then
   some (.r2 : ZA)
  else
  none
 else
 if a1 = (18 : Int) then
  if (0 : Int) < (L0.length : Int) then
   some (.r0 (true) : ZA)
  else
  some (.r0 (false) : ZA)
 else
 if a1 = (20 : Int) then
  if (L0.length : Int) = (0 : Int) then
   some (.r0 (true) : ZA)
  else
  some (.r0 (false) : ZA)
 else
 some (.r0 (true) : ZA)

inductive Zbb where
 | r0 (w0 : Int) (w1 : Bool)

def ZcR (a0 : Int) (a1 : Int) (a2 : Int) (a3 : Int) (N : Nat) : Option Zbb :=
 if a0 = (8 : Int) then
  some (.r0 (a1) (true) : Zbb)
 else
 if a0 = (9 : Int) then
  some (.r0 (a2) (true) : Zbb)
 else
 some (.r0 ((0 : Int)) (false) : Zbb)

inductive Zak where
 | r0
 | r1 (w1 : List R_ii)

inductive ZL where
 | h1m0 (v2 : Nat)
 | h1m1 (v2 : List R_ii) (v3 : Nat)

def Zbw (L0 : List RA) (a1 : Int) (N : Nat) (v2 : Nat) : Option (ZL ⊕ Zak) :=
 if (v2 : Int) < a1 then
  if (v2 : Int) < (L0.length : Int) then
   ((ZcE ((L0.getD v2 RA.z).a0) ((L0.getD v2 RA.z).a1) ((L0.getD v2 RA.z).a2) ((L0.getD v2 RA.z).a3) ((v2 : Int)) N).bind fun r => match r with
   | .r0 =>
    if (((v2 + 1) : Nat) : Int) ≤ (9223372036854775807 : Int) then
     some (.inl (.h1m1 (([(⟨(v2 : Int), (0 : Int)⟩ : R_ii)] : List R_ii)) ((v2 + 1)) : ZL))
    else
    none
   | .r1 y2_0 =>
    if (((v2 + 1) : Nat) : Int) ≤ (9223372036854775807 : Int) then
     some (.inl (.h1m0 ((v2 + 1)) : ZL))
    else
    none
   )
  else
  some (.inr (.r0 : Zak))
 else
 some (.inr (.r0 : Zak))

def Zbx (L0 : List RA) (a1 : Int) (N : Nat) (v2 : List R_ii) (v3 : Nat) : Option (ZL ⊕ Zak) :=
 if (v3 : Int) < a1 then
  if (v3 : Int) < (L0.length : Int) then
   ((Zbs (v2) ((L0.getD v3 RA.z).a0) ((L0.getD v3 RA.z).a1) ((L0.getD v3 RA.z).a2) ((L0.getD v3 RA.z).a3) ((v3 : Int)) N).bind fun r => match r with
   | .r0 y2_0 =>
    if (((v3 + 1) : Nat) : Int) ≤ (9223372036854775807 : Int) then
     some (.inl (.h1m1 (v2) ((v3 + 1)) : ZL))
    else
    none
   | .r1 y2_0 =>
    if (((v3 + 1) : Nat) : Int) ≤ (9223372036854775807 : Int) then
     some (.inl (.h1m1 (y2_0) ((v3 + 1)) : ZL))
    else
    none
   | .r2 =>
    if (((v3 + 1) : Nat) : Int) ≤ (9223372036854775807 : Int) then
     some (.inl (.h1m1 ((v2.take (v2.length - 1))) ((v3 + 1)) : ZL))
    else
    none
   )
  else
  some (.inr (.r1 (v2) : Zak))
 else
 some (.inr (.r1 (v2) : Zak))

def ZbT (L0 : List RA) (a1 : Int) (N : Nat) : ZL → Option (ZL ⊕ Zak)
 | .h1m0 v2 => Zbw L0 a1 N v2
 | .h1m1 v2 v3 => Zbx L0 a1 N v2 v3

def Zgm (L0 : List RA) (a1 : Int) (N : Nat) : Option (ZL ⊕ Zak) :=
 some (.inl (.h1m0 (0) : ZL))

def Zdp (L0 : List RA) (a1 : Int) (N : Nat) : Option Zak := goM (ZbT L0 a1 N) N (Zgm L0 a1 N)

inductive Zbc where
 | r0 (w1 : Int) (w2 : Int)

def ZbU (L0 : List RA) (a1 : Int) (N : Nat) : Option Zbc :=
 ((Zdp (L0) (a1) N).bind fun r => match r with
 | .r0 =>
  some (.r0 ((-1 : Int)) ((0 : Int)) : Zbc)
 | .r1 y0_0 =>
  if (y0_0.length : Int) = (0 : Int) then
   some (.r0 ((-1 : Int)) ((0 : Int)) : Zbc)
  else
  if ((y0_0.length : Int) - (1 : Int)) ≤ (9223372036854775807 : Int) then
   some (.r0 ((y0_0.getD (y0_0.length - 1) R_ii.z).a0) ((y0_0.getD (y0_0.length - 1) R_ii.z).a1) : Zbc)
  else
  none
 )

inductive Z1 where
 | r0 (w1 : Int)

inductive ref12_Wrong_2X where
 | h1m0 (v1 : Nat)
 | h1m1 (v1 : List R_ii) (v2 : Nat)
 | h2m0 (v1 : Nat)

def ZaC (L0 : List RA) (N : Nat) (v1 : Nat) : Option (ref12_Wrong_2X ⊕ Z1) :=
 if (v1 : Int) < (L0.length : Int) then
  ((ZcE ((L0.getD v1 RA.z).a0) ((L0.getD v1 RA.z).a1) ((L0.getD v1 RA.z).a2) ((L0.getD v1 RA.z).a3) ((v1 : Int)) N).bind fun r => match r with
  | .r0 =>
   ((ZaR ((L0.getD v1 RA.z).a0) ((L0.getD v1 RA.z).a1) ((L0.getD v1 RA.z).a2) ((L0.getD v1 RA.z).a3) N).bind fun r => match r with
   | .r0 y2_0 =>
    if ¬ (y2_0 = true) then
     some (.inr (.r0 ((v1 : Int)) : Z1))
    else
    if (((v1 + 1) : Nat) : Int) ≤ (9223372036854775807 : Int) then
     some (.inl (.h1m1 (([(⟨(v1 : Int), (0 : Int)⟩ : R_ii)] : List R_ii)) ((v1 + 1)) : ref12_Wrong_2X))
    else
    none
   )
  | .r1 y1_0 =>
   ((ZaR ((L0.getD v1 RA.z).a0) ((L0.getD v1 RA.z).a1) ((L0.getD v1 RA.z).a2) ((L0.getD v1 RA.z).a3) N).bind fun r => match r with
   | .r0 y2_0 =>
    if ¬ (y2_0 = true) then
     some (.inr (.r0 ((v1 : Int)) : Z1))
    else
    if ¬ (y1_0 = true) then
     some (.inr (.r0 ((v1 : Int)) : Z1))
    else
    if (((v1 + 1) : Nat) : Int) ≤ (9223372036854775807 : Int) then
     some (.inl (.h1m0 ((v1 + 1)) : ref12_Wrong_2X))
    else
    none
   )
  )
 else
 some (.inl (.h2m0 (0) : ref12_Wrong_2X))

def ZaX (L0 : List RA) (N : Nat) (v1 : List R_ii) (v2 : Nat) : Option (ref12_Wrong_2X ⊕ Z1) :=
 if (v2 : Int) < (L0.length : Int) then
  ((Zbs (v1) ((L0.getD v2 RA.z).a0) ((L0.getD v2 RA.z).a1) ((L0.getD v2 RA.z).a2) ((L0.getD v2 RA.z).a3) ((v2 : Int)) N).bind fun r => match r with
  | .r0 y1_0 =>
   ((ZaR ((L0.getD v2 RA.z).a0) ((L0.getD v2 RA.z).a1) ((L0.getD v2 RA.z).a2) ((L0.getD v2 RA.z).a3) N).bind fun r => match r with
   | .r0 y2_0 =>
    if ¬ (y2_0 = true) then
     some (.inr (.r0 ((v2 : Int)) : Z1))
    else
    if ¬ (y1_0 = true) then
     some (.inr (.r0 ((v2 : Int)) : Z1))
    else
    if (((v2 + 1) : Nat) : Int) ≤ (9223372036854775807 : Int) then
     some (.inl (.h1m1 (v1) ((v2 + 1)) : ref12_Wrong_2X))
    else
    none
   )
  | .r1 y1_0 =>
   ((ZaR ((L0.getD v2 RA.z).a0) ((L0.getD v2 RA.z).a1) ((L0.getD v2 RA.z).a2) ((L0.getD v2 RA.z).a3) N).bind fun r => match r with
   | .r0 y2_0 =>
    if ¬ (y2_0 = true) then
     some (.inr (.r0 ((v2 : Int)) : Z1))
    else
    if (((v2 + 1) : Nat) : Int) ≤ (9223372036854775807 : Int) then
     some (.inl (.h1m1 (y1_0) ((v2 + 1)) : ref12_Wrong_2X))
    else
    none
   )
  | .r2 =>
   ((ZaR ((L0.getD v2 RA.z).a0) ((L0.getD v2 RA.z).a1) ((L0.getD v2 RA.z).a2) ((L0.getD v2 RA.z).a3) N).bind fun r => match r with
   | .r0 y2_0 =>
    if ¬ (y2_0 = true) then
     some (.inr (.r0 ((v2 : Int)) : Z1))
    else
    if (((v2 + 1) : Nat) : Int) ≤ (9223372036854775807 : Int) then
     some (.inl (.h1m1 ((v1.take (v1.length - 1))) ((v2 + 1)) : ref12_Wrong_2X))
    else
    none
   )
  )
 else
 if (0 : Int) < (v1.length : Int) then
  some (.inr (.r0 ((L0.length : Int)) : Z1))
 else
 some (.inl (.h2m0 (0) : ref12_Wrong_2X))

def ZaY (L0 : List RA) (N : Nat) (v1 : Nat) : Option (ref12_Wrong_2X ⊕ Z1) :=
 if (v1 : Int) < (L0.length : Int) then
  ((ZcR ((L0.getD v1 RA.z).a0) ((L0.getD v1 RA.z).a1) ((L0.getD v1 RA.z).a2) ((L0.getD v1 RA.z).a3) N).bind fun r => match r with
  | .r0 y1_0 y1_1 =>
   if y1_1 = true then
    if (L0.length : Int) < y1_0 then
     some (.inr (.r0 ((v1 : Int)) : Z1))
    else
    ((ZbU (L0) (y1_0) N).bind fun r => match r with
    | .r0 y4_0 y4_1 =>
     ((ZbU (L0) ((v1 : Int)) N).bind fun r => match r with
     | .r0 y5_0 y5_1 =>
      if ¬ ((y4_0 = y5_0 ∧ y4_1 = y5_1)) then
       some (.inr (.r0 ((v1 : Int)) : Z1))
      else
      if (((v1 + 1) : Nat) : Int) ≤ (9223372036854775807 : Int) then
       some (.inl (.h2m0 ((v1 + 1)) : ref12_Wrong_2X))
      else
      none
     )
    )
   else
   if (((v1 + 1) : Nat) : Int) ≤ (9223372036854775807 : Int) then
    some (.inl (.h2m0 ((v1 + 1)) : ref12_Wrong_2X))
   else
   none
  )
 else
 some (.inr (.r0 ((-1 : Int)) : Z1))

def ZaH (L0 : List RA) (N : Nat) : ref12_Wrong_2X → Option (ref12_Wrong_2X ⊕ Z1)
 | .h1m0 v1 => ZaC L0 N v1
 | .h1m1 v1 v2 => ZaX L0 N v1 v2
 | .h2m0 v1 => ZaY L0 N v1

def ZdU (L0 : List RA) (N : Nat) : Option (ref12_Wrong_2X ⊕ Z1) :=
 if (L0.length : Int) < (1 : Int) then
  some (.inr (.r0 ((0 : Int)) : Z1))
 else
 if (512 : Int) < (L0.length : Int) then
  some (.inr (.r0 ((0 : Int)) : Z1))
 else
 some (.inl (.h1m0 (0) : ref12_Wrong_2X))

def ZeH (L0 : List RA) (N : Nat) : Option Z1 := goM (ZaH L0 N) N (ZdU L0 N)

inductive Zat where
 | r0 (w1 : Int)

def Za8 (L0 : List RA) (N : Nat) : Option Zat :=
 ((ZeH (L0) N).bind fun r => match r with
 | .r0 y0_0 =>
  if y0_0 < (0 : Int) then
   some (.r0 ((0 : Int)) : Zat)
  else
  if y0_0 < (L0.length : Int) then
   if (L0.length : Int) ≤ (512 : Int) then
    if ((L0.getD (y0_0).toNat RA.z).a0 = (15 : Int) ∧ (L0.getD (y0_0).toNat RA.z).a1 = (0 : Int) ∧ (L0.getD (y0_0).toNat RA.z).a2 = (0 : Int) ∧ (L0.getD (y0_0).toNat RA.z).a3 = (0 : Int)) then
     some (.r0 ((140 : Int)) : Zat)
    else
    some (.r0 ((120 : Int)) : Zat)
   else
   some (.r0 ((120 : Int)) : Zat)
  else
  some (.r0 ((120 : Int)) : Zat)
 )

inductive Zao where
 | r0
 | r1 (w1 : List Int)

inductive ZB where
 | h1m0 (v1 : Nat)
 | h1m1 (v1 : List Int) (v2 : Nat)

def Zaw (L0 : List RA) (N : Nat) (v1 : Nat) : Option (ZB ⊕ Zao) :=
 if (v1 : Int) < (L0.length : Int) then
  if (L0.getD v1 RA.z).a0 = (15 : Int) then
   ((Zdp (L0) ((v1 : Int)) N).bind fun r => match r with
   | .r0 =>
    if (((v1 + 1) : Nat) : Int) ≤ (9223372036854775807 : Int) then
     some (.inl (.h1m1 (([(v1 : Int)] : List Int)) ((v1 + 1)) : ZB))
    else
    none
   | .r1 y2_0 =>
    if (y2_0.length : Int) = (0 : Int) then
     if (((v1 + 1) : Nat) : Int) ≤ (9223372036854775807 : Int) then
      some (.inl (.h1m1 (([(v1 : Int)] : List Int)) ((v1 + 1)) : ZB))
     else
     none
    else
    if (((v1 + 1) : Nat) : Int) ≤ (9223372036854775807 : Int) then
     some (.inl (.h1m0 ((v1 + 1)) : ZB))
    else
    none
   )
  else
  if (((v1 + 1) : Nat) : Int) ≤ (9223372036854775807 : Int) then
   some (.inl (.h1m0 ((v1 + 1)) : ZB))
  else
  none
 else
 some (.inr (.r0 : Zao))

def Zbm (L0 : List RA) (N : Nat) (v1 : List Int) (v2 : Nat) : Option (ZB ⊕ Zao) :=
 if (v2 : Int) < (L0.length : Int) then
  if (L0.getD v2 RA.z).a0 = (15 : Int) then
   ((Zdp (L0) ((v2 : Int)) N).bind fun r => match r with
   | .r0 =>
    if v1.length ≤ 100000 then
     if (((v2 + 1) : Nat) : Int) ≤ (9223372036854775807 : Int) then
      some (.inl (.h1m1 ((v1 ++ ([(v2 : Int)] : List Int))) ((v2 + 1)) : ZB))
     else
     none
    else
    none
   | .r1 y2_0 =>
    if (y2_0.length : Int) = (0 : Int) then
     if v1.length ≤ 100000 then
      if (((v2 + 1) : Nat) : Int) ≤ (9223372036854775807 : Int) then
       some (.inl (.h1m1 ((v1 ++ ([(v2 : Int)] : List Int))) ((v2 + 1)) : ZB))
      else
      none
     else
     none
    else
    if (((v2 + 1) : Nat) : Int) ≤ (9223372036854775807 : Int) then
     some (.inl (.h1m1 (v1) ((v2 + 1)) : ZB))
    else
    none
   )
  else
  if (((v2 + 1) : Nat) : Int) ≤ (9223372036854775807 : Int) then
   some (.inl (.h1m1 (v1) ((v2 + 1)) : ZB))
  else
  none
 else
 some (.inr (.r1 (v1) : Zao))

def Zby (L0 : List RA) (N : Nat) : ZB → Option (ZB ⊕ Zao)
 | .h1m0 v1 => Zaw L0 N v1
 | .h1m1 v1 v2 => Zbm L0 N v1 v2

def Zep (L0 : List RA) (N : Nat) : Option (ZB ⊕ Zao) :=
 ((Za8 (L0) N).bind fun r => match r with
 | .r0 y0_0 =>
  if ¬ (y0_0 = (0 : Int)) then
   some (.inr (.r0 : Zao))
  else
  some (.inl (.h1m0 (0) : ZB))
 )

def Zcz (L0 : List RA) (N : Nat) : Option Zao := goM (Zby L0 N) N (Zep L0 N)

inductive ZaI where
 | r0 (w1 : Int) (w2 : Int)

def ZaZ (L0 : List RA) (a1 : Int) (N : Nat) : Option ZaI :=
 if a1 < (0 : Int) then
  some (.r0 ((-1 : Int)) ((0 : Int)) : ZaI)
 else
 if (L0.length : Int) < a1 then
  some (.r0 ((-1 : Int)) ((0 : Int)) : ZaI)
 else
 ((Za8 (L0) N).bind fun r => match r with
 | .r0 y2_0 =>
  if ¬ (y2_0 = (0 : Int)) then
   some (.r0 ((-1 : Int)) ((0 : Int)) : ZaI)
  else
  ((ZbU (L0) (a1) N).bind fun r => match r with
  | .r0 y4_0 y4_1 =>
   some (.r0 (y4_0) (y4_1) : ZaI)
  )
 )

inductive Zy where
 | r0 (w1 : Bool)

inductive law32_standsX where
 | h1m0
 | h1m1 (v2 : List RA) (v3 : Nat)
 | h2m0 (v1 : List RA) (v2 : Int)

def Zbn (L0 : List RA) (a1 : Int) (N : Nat) : Option (law32_standsX ⊕ Zy) :=
 if (0 : Int) < a1 then
  some (.inl (.h1m1 (([(⟨(19 : Int), (0 : Int), (0 : Int), (0 : Int)⟩ : RA)] : List RA)) (1) : law32_standsX))
 else
 if L0.length = 0 then
  ((Ze9 N).bind fun r => match r with
  | .r0 =>
   some (.inr (.r0 (false) : Zy))
  )
 else
 if L0.length ≤ 100000 then
  ((Za8 (L0) N).bind fun r => match r with
  | .r0 y3_0 =>
   if ¬ (y3_0 = (0 : Int)) then
    some (.inr (.r0 (false) : Zy))
   else
   ((Zcz (L0) N).bind fun r => match r with
   | .r0 =>
    some (.inr (.r0 (false) : Zy))
   | .r1 y5_0 =>
    if ¬ ((y5_0.length : Int) = (1 : Int)) then
     some (.inr (.r0 (false) : Zy))
    else
    some (.inl (.h2m0 (L0) (a1) : law32_standsX))
   )
  )
 else
 none

def Zbo (L0 : List RA) (a1 : Int) (N : Nat) (v2 : List RA) (v3 : Nat) : Option (law32_standsX ⊕ Zy) :=
 if (v3 : Int) < a1 then
  if v2.length ≤ 100000 then
   if (((v3 + 1) : Nat) : Int) ≤ (9223372036854775807 : Int) then
    some (.inl (.h1m1 ((v2 ++ ([(⟨(19 : Int), (0 : Int), (0 : Int), (0 : Int)⟩ : RA)] : List RA))) ((v3 + 1)) : law32_standsX))
   else
   none
  else
  none
 else
 if L0.length = 0 then
  ((Za8 (v2) N).bind fun r => match r with
  | .r0 y2_0 =>
   if ¬ (y2_0 = (0 : Int)) then
    some (.inr (.r0 (false) : Zy))
   else
   ((Zcz (v2) N).bind fun r => match r with
   | .r0 =>
    some (.inr (.r0 (false) : Zy))
   | .r1 y4_0 =>
    if ¬ ((y4_0.length : Int) = (1 : Int)) then
     some (.inr (.r0 (false) : Zy))
    else
    some (.inl (.h2m0 (v2) (a1) : law32_standsX))
   )
  )
 else
 if L0.length ≤ 100000 then
  if v2.length ≤ 100000 then
   ((Za8 ((v2 ++ L0)) N).bind fun r => match r with
   | .r0 y4_0 =>
    if ¬ (y4_0 = (0 : Int)) then
     some (.inr (.r0 (false) : Zy))
    else
    ((Zcz ((v2 ++ L0)) N).bind fun r => match r with
    | .r0 =>
     some (.inr (.r0 (false) : Zy))
    | .r1 y6_0 =>
     if ¬ ((y6_0.length : Int) = (1 : Int)) then
      some (.inr (.r0 (false) : Zy))
     else
     some (.inl (.h2m0 ((v2 ++ L0)) (a1) : law32_standsX))
    )
   )
  else
  none
 else
 none

def Zbp (L0 : List RA) (a1 : Int) (N : Nat) (v1 : List RA) (v2 : Int) : Option (law32_standsX ⊕ Zy) :=
 if v2 < (v1.length : Int) then
  if (0 : Int) ≤ v2 then
   if (v1.getD (v2).toNat RA.z).a0 = (11 : Int) then
    ((ZaZ (v1) (v2) N).bind fun r => match r with
    | .r0 y3_0 y3_1 =>
     if y3_0 < (0 : Int) then
      some (.inr (.r0 (false) : Zy))
     else
     some (.inl (.h2m0 (v1) ((IntKind.i64.wrap (v2 + (1 : Int)))) : law32_standsX))
    )
   else
   if (v1.getD (v2).toNat RA.z).a0 = (12 : Int) then
    ((ZaZ (v1) (v2) N).bind fun r => match r with
    | .r0 y4_0 y4_1 =>
     if y4_0 < (0 : Int) then
      some (.inr (.r0 (false) : Zy))
     else
     some (.inl (.h2m0 (v1) ((IntKind.i64.wrap (v2 + (1 : Int)))) : law32_standsX))
    )
   else
   if (v1.getD (v2).toNat RA.z).a0 = (13 : Int) then
    ((ZaZ (v1) (v2) N).bind fun r => match r with
    | .r0 y5_0 y5_1 =>
     if y5_0 < (0 : Int) then
      some (.inr (.r0 (false) : Zy))
     else
     some (.inl (.h2m0 (v1) ((IntKind.i64.wrap (v2 + (1 : Int)))) : law32_standsX))
    )
   else
   if (v1.getD (v2).toNat RA.z).a0 = (14 : Int) then
    ((ZaZ (v1) (v2) N).bind fun r => match r with
    | .r0 y6_0 y6_1 =>
     if y6_0 < (0 : Int) then
      some (.inr (.r0 (false) : Zy))
     else
     some (.inl (.h2m0 (v1) ((IntKind.i64.wrap (v2 + (1 : Int)))) : law32_standsX))
    )
   else
   if (v1.getD (v2).toNat RA.z).a0 = (20 : Int) then
    some (.inr (.r0 (false) : Zy))
   else
   some (.inl (.h2m0 (v1) ((IntKind.i64.wrap (v2 + (1 : Int)))) : law32_standsX))
  else
  none
 else
 some (.inr (.r0 (true) : Zy))

def Zba (L0 : List RA) (a1 : Int) (N : Nat) : law32_standsX → Option (law32_standsX ⊕ Zy)
 | .h1m0 => Zbn L0 a1 N
 | .h1m1 v2 v3 => Zbo L0 a1 N v2 v3
 | .h2m0 v1 v2 => Zbp L0 a1 N v1 v2

def ZfD (L0 : List RA) (a1 : Int) (N : Nat) : Option (law32_standsX ⊕ Zy) :=
 some (.inl (.h1m0 : law32_standsX))

def Zz (L0 : List RA) (a1 : Int) (N : Nat) : Option Zy := goM (Zba L0 a1 N) N (ZfD L0 a1 N)

inductive Zeq where
 | r0
def Zgn (N : Nat) : Option Zeq := some .r0

inductive Zau where
 | r0 (w1 : Int)

inductive ZP where
 | h1m0 (v1 : Nat) (v2 : Int)

def Zfj (L0 : List RA) (a1 : Int) (N : Nat) (v1 : Nat) (v2 : Int) : Option (ZP ⊕ Zau) :=
 if v2 < (L0.length : Int) then
  if (v1 : Int) = (0 : Int) then
   if (0 : Int) ≤ v2 then
    if (L0.getD (v2).toNat RA.z).a0 = (17 : Int) then
     some (.inr (.r0 (v2) : Zau))
    else
    if (L0.getD (v2).toNat RA.z).a0 = (16 : Int) then
     some (.inr (.r0 (v2) : Zau))
    else
    if (L0.getD (v2).toNat RA.z).a0 = (15 : Int) then
     some (.inl (.h1m0 ((v1 + 1)) ((IntKind.i64.wrap (v2 + (1 : Int)))) : ZP))
    else
    some (.inl (.h1m0 (v1) ((IntKind.i64.wrap (v2 + (1 : Int)))) : ZP))
   else
   none
  else
  if (0 : Int) ≤ v2 then
   if (L0.getD (v2).toNat RA.z).a0 = (15 : Int) then
    if (((v1 + 1) : Nat) : Int) ≤ (9223372036854775807 : Int) then
     some (.inl (.h1m0 ((v1 + 1)) ((IntKind.i64.wrap (v2 + (1 : Int)))) : ZP))
    else
    none
   else
   if (L0.getD (v2).toNat RA.z).a0 = (17 : Int) then
    if ((v1 : Int) - (1 : Int)) ≤ (9223372036854775807 : Int) then
     some (.inl (.h1m0 ((v1 - 1)) ((IntKind.i64.wrap (v2 + (1 : Int)))) : ZP))
    else
    none
   else
   some (.inl (.h1m0 (v1) ((IntKind.i64.wrap (v2 + (1 : Int)))) : ZP))
  else
  none
 else
 some (.inr (.r0 ((-1 : Int)) : Zau))

def Zer (L0 : List RA) (a1 : Int) (N : Nat) : ZP → Option (ZP ⊕ Zau)
 | .h1m0 v1 v2 => Zfj L0 a1 N v1 v2

def ZgR (L0 : List RA) (a1 : Int) (N : Nat) : Option (ZP ⊕ Zau) :=
 if (0 : Int) ≤ a1 then
  if (a1).toNat < L0.length then
   if (L0.getD (a1).toNat RA.z).a0 = (15 : Int) then
    some (.inl (.h1m0 (0) ((IntKind.i64.wrap (a1 + (1 : Int)))) : ZP))
   else
   if (L0.getD (a1).toNat RA.z).a0 = (16 : Int) then
    some (.inl (.h1m0 (0) ((IntKind.i64.wrap (a1 + (1 : Int)))) : ZP))
   else
   if (L0.getD (a1).toNat RA.z).a0 = (17 : Int) then
    ((ZbU (L0) (a1) N).bind fun r => match r with
    | .r0 y5_0 y5_1 =>
     some (.inr (.r0 (y5_0) : Zau))
    )
   else
   some (.inr (.r0 ((-1 : Int)) : Zau))
  else
  none
 else
 none

def Zg3 (L0 : List RA) (a1 : Int) (N : Nat) : Option Zau := goM (Zer L0 a1 N) N (ZgR L0 a1 N)

inductive Za2 where
 | r0 (w1 : Int)
 | r1 (w1 : List Int)

inductive ZV where
 | h1m0
 | h1m1 (v1 : List Int) (v2 : Nat)

def ZeN (L0 : List RA) (N : Nat) : Option (ZV ⊕ Za2) :=
 if (0 : Int) < (L0.length : Int) then
  ((Zg3 (L0) ((0 : Int)) N).bind fun r => match r with
  | .r0 y1_0 =>
   some (.inl (.h1m1 (([y1_0] : List Int)) (1) : ZV))
  )
 else
 some (.inr (.r0 ((0 : Int)) : Za2))

def ZeO (L0 : List RA) (N : Nat) (v1 : List Int) (v2 : Nat) : Option (ZV ⊕ Za2) :=
 if (v2 : Int) < (L0.length : Int) then
  ((Zg3 (L0) ((v2 : Int)) N).bind fun r => match r with
  | .r0 y1_0 =>
   if v1.length ≤ 100000 then
    if (((v2 + 1) : Nat) : Int) ≤ (9223372036854775807 : Int) then
     some (.inl (.h1m1 ((v1 ++ ([y1_0] : List Int))) ((v2 + 1)) : ZV))
    else
    none
   else
   none
  )
 else
 some (.inr (.r1 (v1) : Za2))

def Zdi (L0 : List RA) (N : Nat) : ZV → Option (ZV ⊕ Za2)
 | .h1m0 => ZeN L0 N
 | .h1m1 v1 v2 => ZeO L0 N v1 v2

def Zgo (L0 : List RA) (N : Nat) : Option (ZV ⊕ Za2) :=
 ((Za8 (L0) N).bind fun r => match r with
 | .r0 y0_0 =>
  if ¬ (y0_0 = (0 : Int)) then
   some (.inr (.r0 (y0_0) : Za2))
  else
  some (.inl (.h1m0 : ZV))
 )

def Zp4 (L0 : List RA) (N : Nat) : Option Za2 := goM (Zdi L0 N) N (Zgo L0 N)

inductive Zes where
 | r0
def ZcA (N : Nat) : Option Zes := some .r0

inductive ZX where
 | r0

inductive Zn where
 | h1m0
 | h2m0
 | h2m1
 | h2m2
 | h2m3
 | h3m0
 | h3m1
 | h3m2
 | h3m3
 | h3m4
 | h3m5
 | h3m6
 | h3m7

def Zfk  (N : Nat) : Option (Zn ⊕ ZX) :=
 some (.inl (.h2m0 : Zn))

def Zfl  (N : Nat) : Option (Zn ⊕ ZX) :=
 some (.inl (.h3m0 : Zn))

def Zfm  (N : Nat) : Option (Zn ⊕ ZX) :=
 some (.inl (.h3m2 : Zn))

def Zfn  (N : Nat) : Option (Zn ⊕ ZX) :=
 some (.inl (.h3m4 : Zn))

def Zfo  (N : Nat) : Option (Zn ⊕ ZX) :=
 some (.inl (.h3m6 : Zn))

def Zfp  (N : Nat) : Option (Zn ⊕ ZX) :=
 ((ZcA N).bind fun r => match r with
 | .r0 =>
  ((ZcA N).bind fun r => match r with
  | .r0 =>
   some (.inl (.h3m1 : Zn))
  )
 )

def Zfq  (N : Nat) : Option (Zn ⊕ ZX) :=
 some (.inl (.h2m1 : Zn))

def Zfr  (N : Nat) : Option (Zn ⊕ ZX) :=
 ((ZcA N).bind fun r => match r with
 | .r0 =>
  ((ZcA N).bind fun r => match r with
  | .r0 =>
   some (.inl (.h3m3 : Zn))
  )
 )

def Zfs  (N : Nat) : Option (Zn ⊕ ZX) :=
 some (.inl (.h2m2 : Zn))

def Zft  (N : Nat) : Option (Zn ⊕ ZX) :=
 ((ZcA N).bind fun r => match r with
 | .r0 =>
  some (.inl (.h3m5 : Zn))
 )

def Zfu  (N : Nat) : Option (Zn ⊕ ZX) :=
 some (.inl (.h2m3 : Zn))

def Zfv  (N : Nat) : Option (Zn ⊕ ZX) :=
 some (.inl (.h3m7 : Zn))

def Zfw  (N : Nat) : Option (Zn ⊕ ZX) :=
 some (.inr (.r0 : ZX))

def Zaf  (N : Nat) : Zn → Option (Zn ⊕ ZX)
 | .h1m0 => Zfk  N
 | .h2m0 => Zfl  N
 | .h2m1 => Zfm  N
 | .h2m2 => Zfn  N
 | .h2m3 => Zfo  N
 | .h3m0 => Zfp  N
 | .h3m1 => Zfq  N
 | .h3m2 => Zfr  N
 | .h3m3 => Zfs  N
 | .h3m4 => Zft  N
 | .h3m5 => Zfu  N
 | .h3m6 => Zfv  N
 | .h3m7 => Zfw  N

def ZgS  (N : Nat) : Option (Zn ⊕ ZX) :=
 ((Zgn N).bind fun r => match r with
 | .r0 =>
  some (.inl (.h1m0 : Zn))
 )

def ZiT  (N : Nat) : Option ZX := goM (Zaf  N) N (ZgS  N)

inductive Zd3 where
 | r0

def Zaz  (N : Nat) : Option Zd3 :=
 ((ZiT N).bind fun r => match r with
 | .r0 =>
  some (.r0 : Zd3)
 )

inductive Zg where
 | r0 (w0 : Bool)

inductive law32_FifoFormsX where
 | h1m0 (v5 : List RA) (v6 : List RA) (v7 : List RA) (v8 : List RA)
 | h1m1 (v5 : List RA) (v6 : List RA) (v7 : List RA)
 | h1m2 (v5 : List RA) (v6 : List RA) (v7 : List RA)
 | h1m3 (v5 : List RA) (v6 : List RA)
 | h1m4 (v5 : List RA) (v6 : List RA)
 | h1m5 (v5 : List RA)
 | h1m6
 | h2m0 (v5 : List RA) (v6 : List RA) (v7 : List RA) (v8 : List RA)
 | h2m1 (v5 : List RA) (v6 : List RA) (v7 : List RA)
 | h2m2 (v4 : Bool) (v5 : List RA) (v6 : List RA)
 | h2m3 (v3 : Bool) (v5 : List RA) (v6 : List RA)
 | h2m4 (v3 : Bool) (v4 : Bool) (v5 : List RA)
 | h2m5 (v3 : Bool) (v4 : Bool)
 | h2m6 (v5 : List RA) (v6 : List RA) (v7 : List RA) (v8 : List RA)
 | h2m7 (v5 : List RA) (v6 : List RA) (v7 : List RA)
 | h2m8 (v5 : List RA) (v6 : List RA)
 | h2m9 (v5 : List RA) (v6 : List RA)
 | h2m10 (v4 : Bool) (v5 : List RA)
 | h2m11 (v3 : Bool) (v4 : Bool)
 | h2m12 (v5 : List RA) (v6 : List RA) (v7 : List RA) (v8 : List RA)
 | h2m13 (v5 : List RA) (v6 : List RA) (v7 : List RA)
 | h2m14 (v5 : List RA) (v6 : List RA)
 | h2m15 (v5 : List RA) (v6 : List RA)
 | h2m16 (v4 : Bool) (v5 : List RA)
 | h2m17 (v3 : Bool) (v4 : Bool)
 | h2m18 (v5 : List RA) (v6 : List RA) (v7 : List RA) (v8 : List RA)
 | h2m19 (v5 : List RA) (v6 : List RA) (v7 : List RA)
 | h2m20 (v5 : List RA) (v6 : List RA)
 | h2m21 (v5 : List RA) (v6 : List RA)
 | h2m22 (v4 : Bool) (v5 : List RA)
 | h2m23 (v3 : Bool) (v4 : Bool)
 | h2m24 (v5 : List RA) (v6 : List RA) (v7 : List RA) (v8 : List RA)
 | h2m25 (v5 : List RA) (v6 : List RA) (v7 : List RA)
 | h2m26 (v5 : List RA) (v6 : List RA)
 | h2m27 (v5 : List RA) (v6 : List RA)
 | h2m28 (v4 : Bool) (v5 : List RA)
 | h2m29 (v3 : Bool) (v4 : Bool)

def ZbV (a0 : Int) (a1 : Int) (a2 : Int) (a3 : Int) (a4 : Int) (N : Nat) (v5 : List RA) (v6 : List RA) (v7 : List RA) (v8 : List RA) : Option (law32_FifoFormsX ⊕ Zg) :=
 if (-1099511627776 : Int) ≤ a3 then
  if a3 ≤ (1099511627776 : Int) then
   if (1 : Int) ≤ a4 then
    if a4 ≤ (1099511627776 : Int) then
     some (.inl (.h2m0 (v5) (v6) (v7) (v8) : law32_FifoFormsX))
    else
    none
   else
   none
  else
  none
 else
 none

def ZbW (a0 : Int) (a1 : Int) (a2 : Int) (a3 : Int) (a4 : Int) (N : Nat) (v5 : List RA) (v6 : List RA) (v7 : List RA) : Option (law32_FifoFormsX ⊕ Zg) :=
 if (-1099511627776 : Int) ≤ a3 then
  if a3 ≤ (1099511627776 : Int) then
   if (1 : Int) ≤ a4 then
    if a4 ≤ (1099511627776 : Int) then
     some (.inl (.h2m1 (v5) (v6) (v7) : law32_FifoFormsX))
    else
    none
   else
   none
  else
  none
 else
 none

def ZdG (a0 : Int) (a1 : Int) (a2 : Int) (a3 : Int) (a4 : Int) (N : Nat) (v5 : List RA) (v6 : List RA) (v7 : List RA) : Option (law32_FifoFormsX ⊕ Zg) :=
 none

def ZbX (a0 : Int) (a1 : Int) (a2 : Int) (a3 : Int) (a4 : Int) (N : Nat) (v5 : List RA) (v6 : List RA) : Option (law32_FifoFormsX ⊕ Zg) :=
 if (-1099511627776 : Int) ≤ a3 then
  if a3 ≤ (1099511627776 : Int) then
   if (1 : Int) ≤ a4 then
    if a4 ≤ (1099511627776 : Int) then
     some (.inl (.h2m2 (true) (v5) (v6) : law32_FifoFormsX))
    else
    some (.inl (.h2m2 (false) (v5) (v6) : law32_FifoFormsX))
   else
   some (.inl (.h2m2 (false) (v5) (v6) : law32_FifoFormsX))
  else
  none
 else
 none

def ZbY (a0 : Int) (a1 : Int) (a2 : Int) (a3 : Int) (a4 : Int) (N : Nat) (v5 : List RA) (v6 : List RA) : Option (law32_FifoFormsX ⊕ Zg) :=
 if (1 : Int) ≤ a4 then
  if a4 ≤ (1099511627776 : Int) then
   if (-1099511627776 : Int) ≤ a3 then
    if a3 ≤ (1099511627776 : Int) then
     some (.inl (.h2m3 (true) (v5) (v6) : law32_FifoFormsX))
    else
    some (.inl (.h2m3 (false) (v5) (v6) : law32_FifoFormsX))
   else
   some (.inl (.h2m3 (false) (v5) (v6) : law32_FifoFormsX))
  else
  none
 else
 none

def ZaN (a0 : Int) (a1 : Int) (a2 : Int) (a3 : Int) (a4 : Int) (N : Nat) (v5 : List RA) : Option (law32_FifoFormsX ⊕ Zg) :=
 if (-1099511627776 : Int) ≤ a3 then
  if a3 ≤ (1099511627776 : Int) then
   if (1 : Int) ≤ a4 then
    if a4 ≤ (1099511627776 : Int) then
     some (.inl (.h2m4 (true) (true) (v5) : law32_FifoFormsX))
    else
    some (.inl (.h2m4 (true) (false) (v5) : law32_FifoFormsX))
   else
   some (.inl (.h2m4 (true) (false) (v5) : law32_FifoFormsX))
  else
  if (1 : Int) ≤ a4 then
   if a4 ≤ (1099511627776 : Int) then
    some (.inl (.h2m4 (false) (true) (v5) : law32_FifoFormsX))
   else
   some (.inl (.h2m4 (false) (false) (v5) : law32_FifoFormsX))
  else
  some (.inl (.h2m4 (false) (false) (v5) : law32_FifoFormsX))
 else
 if (1 : Int) ≤ a4 then
  if a4 ≤ (1099511627776 : Int) then
   some (.inl (.h2m4 (false) (true) (v5) : law32_FifoFormsX))
  else
  some (.inl (.h2m4 (false) (false) (v5) : law32_FifoFormsX))
 else
 some (.inl (.h2m4 (false) (false) (v5) : law32_FifoFormsX))

def Zac (a0 : Int) (a1 : Int) (a2 : Int) (a3 : Int) (a4 : Int) (N : Nat) : Option (law32_FifoFormsX ⊕ Zg) :=
 if (-1099511627776 : Int) ≤ a3 then
  if a3 ≤ (1099511627776 : Int) then
   if (1 : Int) ≤ a4 then
    if a4 ≤ (1099511627776 : Int) then
     some (.inl (.h2m5 (true) (true) : law32_FifoFormsX))
    else
    some (.inl (.h2m5 (true) (false) : law32_FifoFormsX))
   else
   some (.inl (.h2m5 (true) (false) : law32_FifoFormsX))
  else
  if (1 : Int) ≤ a4 then
   if a4 ≤ (1099511627776 : Int) then
    some (.inl (.h2m5 (false) (true) : law32_FifoFormsX))
   else
   some (.inl (.h2m5 (false) (false) : law32_FifoFormsX))
  else
  some (.inl (.h2m5 (false) (false) : law32_FifoFormsX))
 else
 if (1 : Int) ≤ a4 then
  if a4 ≤ (1099511627776 : Int) then
   some (.inl (.h2m5 (false) (true) : law32_FifoFormsX))
  else
  some (.inl (.h2m5 (false) (false) : law32_FifoFormsX))
 else
 some (.inl (.h2m5 (false) (false) : law32_FifoFormsX))

def ZbZ (a0 : Int) (a1 : Int) (a2 : Int) (a3 : Int) (a4 : Int) (N : Nat) (v5 : List RA) (v6 : List RA) (v7 : List RA) (v8 : List RA) : Option (law32_FifoFormsX ⊕ Zg) :=
 if (0 : Int) ≤ a0 then
  if a0 ≤ (400 : Int) then
   if (0 : Int) ≤ a1 then
    if a1 ≤ (3 : Int) then
     if (0 : Int) ≤ a2 then
      if a2 ≤ (3 : Int) then
       if (v5.length : Int) < (1 : Int) then
        some (.inr (.r0 (false) : Zg))
       else
       if (60 : Int) < (v5.length : Int) then
        some (.inr (.r0 (false) : Zg))
       else
       ((Zz (v5) (a0) N).bind fun r => match r with
       | .r0 y8_0 =>
        if ¬ (y8_0 = true) then
         some (.inr (.r0 (false) : Zg))
        else
        some (.inl (.h2m6 (v5) (v6) (v7) (v8) : law32_FifoFormsX))
       )
      else
      none
     else
     none
    else
    none
   else
   none
  else
  none
 else
 none

def Zca (a0 : Int) (a1 : Int) (a2 : Int) (a3 : Int) (a4 : Int) (N : Nat) (v5 : List RA) (v6 : List RA) (v7 : List RA) : Option (law32_FifoFormsX ⊕ Zg) :=
 if (0 : Int) ≤ a0 then
  if a0 ≤ (400 : Int) then
   if (0 : Int) ≤ a1 then
    if a1 ≤ (3 : Int) then
     if (v5.length : Int) < (1 : Int) then
      some (.inr (.r0 (false) : Zg))
     else
     if (60 : Int) < (v5.length : Int) then
      some (.inr (.r0 (false) : Zg))
     else
     ((Zz (v5) (a0) N).bind fun r => match r with
     | .r0 y6_0 =>
      if ¬ (y6_0 = true) then
       some (.inr (.r0 (false) : Zg))
      else
      some (.inl (.h2m7 (v5) (v6) (v7) : law32_FifoFormsX))
     )
    else
    none
   else
   none
  else
  none
 else
 none

def Zcb (a0 : Int) (a1 : Int) (a2 : Int) (a3 : Int) (a4 : Int) (N : Nat) (v4 : Bool) (v5 : List RA) (v6 : List RA) : Option (law32_FifoFormsX ⊕ Zg) :=
 if v4 = true then
  none
 else
 if (0 : Int) ≤ a0 then
  if a0 ≤ (400 : Int) then
   if (0 : Int) ≤ a1 then
    if a1 ≤ (3 : Int) then
     some (.inl (.h2m8 (v5) (v6) : law32_FifoFormsX))
    else
    none
   else
   none
  else
  none
 else
 none

def Zcc (a0 : Int) (a1 : Int) (a2 : Int) (a3 : Int) (a4 : Int) (N : Nat) (v3 : Bool) (v5 : List RA) (v6 : List RA) : Option (law32_FifoFormsX ⊕ Zg) :=
 if v3 = true then
  none
 else
 if (0 : Int) ≤ a0 then
  if a0 ≤ (400 : Int) then
   if (0 : Int) ≤ a1 then
    if a1 ≤ (3 : Int) then
     if (0 : Int) ≤ a2 then
      if a2 ≤ (3 : Int) then
       some (.inl (.h2m9 (v5) (v6) : law32_FifoFormsX))
      else
      none
     else
     none
    else
    none
   else
   none
  else
  none
 else
 none

def Zcd (a0 : Int) (a1 : Int) (a2 : Int) (a3 : Int) (a4 : Int) (N : Nat) (v3 : Bool) (v4 : Bool) (v5 : List RA) : Option (law32_FifoFormsX ⊕ Zg) :=
 if v3 = true then
  none
 else
 if (0 : Int) ≤ a0 then
  if a0 ≤ (400 : Int) then
   if (0 : Int) ≤ a1 then
    if a1 ≤ (3 : Int) then
     some (.inl (.h2m10 (v4) (v5) : law32_FifoFormsX))
    else
    none
   else
   none
  else
  none
 else
 none

def Zce (a0 : Int) (a1 : Int) (a2 : Int) (a3 : Int) (a4 : Int) (N : Nat) (v3 : Bool) (v4 : Bool) : Option (law32_FifoFormsX ⊕ Zg) :=
 if v3 = true then
  if v4 = true then
   if (0 : Int) ≤ a0 then
    if a0 ≤ (400 : Int) then
     if (0 : Int) ≤ a1 then
      if a1 ≤ (3 : Int) then
       some (.inr (.r0 (false) : Zg))
      else
      some (.inl (.h2m11 (true) (true) : law32_FifoFormsX))
     else
     some (.inl (.h2m11 (true) (true) : law32_FifoFormsX))
    else
    some (.inl (.h2m11 (true) (true) : law32_FifoFormsX))
   else
   some (.inl (.h2m11 (true) (true) : law32_FifoFormsX))
  else
  some (.inl (.h2m11 (true) (false) : law32_FifoFormsX))
 else
 if v4 = true then
  some (.inl (.h2m11 (false) (true) : law32_FifoFormsX))
 else
 some (.inl (.h2m11 (false) (false) : law32_FifoFormsX))

def Zcf (a0 : Int) (a1 : Int) (a2 : Int) (a3 : Int) (a4 : Int) (N : Nat) (v5 : List RA) (v6 : List RA) (v7 : List RA) (v8 : List RA) : Option (law32_FifoFormsX ⊕ Zg) :=
 if (0 : Int) ≤ a0 then
  if a0 ≤ (400 : Int) then
   if (0 : Int) ≤ a1 then
    if a1 ≤ (3 : Int) then
     if (0 : Int) ≤ a2 then
      if a2 ≤ (3 : Int) then
       if (v6.length : Int) < (1 : Int) then
        some (.inr (.r0 (false) : Zg))
       else
       if (60 : Int) < (v6.length : Int) then
        some (.inr (.r0 (false) : Zg))
       else
       ((Zz (v6) (a0) N).bind fun r => match r with
       | .r0 y8_0 =>
        if ¬ (y8_0 = true) then
         some (.inr (.r0 (false) : Zg))
        else
        some (.inl (.h2m12 (v5) (v6) (v7) (v8) : law32_FifoFormsX))
       )
      else
      none
     else
     none
    else
    none
   else
   none
  else
  none
 else
 none

def Zcg (a0 : Int) (a1 : Int) (a2 : Int) (a3 : Int) (a4 : Int) (N : Nat) (v5 : List RA) (v6 : List RA) (v7 : List RA) : Option (law32_FifoFormsX ⊕ Zg) :=
 if (0 : Int) ≤ a0 then
  if a0 ≤ (400 : Int) then
   if (0 : Int) ≤ a1 then
    if a1 ≤ (3 : Int) then
     if (v6.length : Int) < (1 : Int) then
      some (.inr (.r0 (false) : Zg))
     else
     if (60 : Int) < (v6.length : Int) then
      some (.inr (.r0 (false) : Zg))
     else
     ((Zz (v6) (a0) N).bind fun r => match r with
     | .r0 y6_0 =>
      if ¬ (y6_0 = true) then
       some (.inr (.r0 (false) : Zg))
      else
      some (.inl (.h2m13 (v5) (v6) (v7) : law32_FifoFormsX))
     )
    else
    none
   else
   none
  else
  none
 else
 none

def Zch (a0 : Int) (a1 : Int) (a2 : Int) (a3 : Int) (a4 : Int) (N : Nat) (v5 : List RA) (v6 : List RA) : Option (law32_FifoFormsX ⊕ Zg) :=
 if (0 : Int) ≤ a0 then
  if a0 ≤ (400 : Int) then
   if (0 : Int) ≤ a1 then
    if a1 ≤ (3 : Int) then
     if (v5.length : Int) < (1 : Int) then
      some (.inr (.r0 (false) : Zg))
     else
     if (60 : Int) < (v5.length : Int) then
      some (.inr (.r0 (false) : Zg))
     else
     ((Zz (v5) (a0) N).bind fun r => match r with
     | .r0 y6_0 =>
      if ¬ (y6_0 = true) then
       some (.inr (.r0 (false) : Zg))
      else
      some (.inl (.h2m14 (v5) (v6) : law32_FifoFormsX))
     )
    else
    none
   else
   none
  else
  none
 else
 none

def Zci (a0 : Int) (a1 : Int) (a2 : Int) (a3 : Int) (a4 : Int) (N : Nat) (v5 : List RA) (v6 : List RA) : Option (law32_FifoFormsX ⊕ Zg) :=
 if (0 : Int) ≤ a0 then
  if a0 ≤ (400 : Int) then
   if (0 : Int) ≤ a1 then
    if a1 ≤ (3 : Int) then
     if (0 : Int) ≤ a2 then
      if a2 ≤ (3 : Int) then
       if (v5.length : Int) < (1 : Int) then
        some (.inr (.r0 (false) : Zg))
       else
       if (60 : Int) < (v5.length : Int) then
        some (.inr (.r0 (false) : Zg))
       else
       ((Zz (v5) (a0) N).bind fun r => match r with
       | .r0 y8_0 =>
        if ¬ (y8_0 = true) then
         some (.inr (.r0 (false) : Zg))
        else
        some (.inl (.h2m15 (v5) (v6) : law32_FifoFormsX))
       )
      else
      none
     else
     none
    else
    none
   else
   none
  else
  none
 else
 none

def Zb1 (a0 : Int) (a1 : Int) (a2 : Int) (a3 : Int) (a4 : Int) (N : Nat) (v4 : Bool) (v5 : List RA) : Option (law32_FifoFormsX ⊕ Zg) :=
 if v4 = true then
  if (0 : Int) ≤ a0 then
   if a0 ≤ (400 : Int) then
    if (0 : Int) ≤ a1 then
     if a1 ≤ (3 : Int) then
      if (v5.length : Int) < (1 : Int) then
       some (.inr (.r0 (false) : Zg))
      else
      if (60 : Int) < (v5.length : Int) then
       some (.inr (.r0 (false) : Zg))
      else
      ((Zz (v5) (a0) N).bind fun r => match r with
      | .r0 y7_0 =>
       if ¬ (y7_0 = true) then
        some (.inr (.r0 (false) : Zg))
       else
       some (.inl (.h2m16 (true) (v5) : law32_FifoFormsX))
      )
     else
     none
    else
    none
   else
   none
  else
  none
 else
 if (0 : Int) ≤ a0 then
  if a0 ≤ (400 : Int) then
   if (0 : Int) ≤ a1 then
    if a1 ≤ (3 : Int) then
     if (v5.length : Int) < (1 : Int) then
      some (.inr (.r0 (false) : Zg))
     else
     if (60 : Int) < (v5.length : Int) then
      some (.inr (.r0 (false) : Zg))
     else
     ((Zz (v5) (a0) N).bind fun r => match r with
     | .r0 y7_0 =>
      if ¬ (y7_0 = true) then
       some (.inr (.r0 (false) : Zg))
      else
      some (.inl (.h2m16 (false) (v5) : law32_FifoFormsX))
     )
    else
    none
   else
   none
  else
  none
 else
 none

def Zb2 (a0 : Int) (a1 : Int) (a2 : Int) (a3 : Int) (a4 : Int) (N : Nat) (v3 : Bool) (v4 : Bool) : Option (law32_FifoFormsX ⊕ Zg) :=
 if v3 = true then
  if v4 = true then
   if (0 : Int) ≤ a0 then
    if a0 ≤ (400 : Int) then
     if (0 : Int) ≤ a1 then
      if a1 ≤ (3 : Int) then
       some (.inr (.r0 (false) : Zg))
      else
      some (.inl (.h2m17 (true) (true) : law32_FifoFormsX))
     else
     some (.inl (.h2m17 (true) (true) : law32_FifoFormsX))
    else
    some (.inl (.h2m17 (true) (true) : law32_FifoFormsX))
   else
   some (.inl (.h2m17 (true) (true) : law32_FifoFormsX))
  else
  if (0 : Int) ≤ a0 then
   if a0 ≤ (400 : Int) then
    if (0 : Int) ≤ a1 then
     if a1 ≤ (3 : Int) then
      some (.inr (.r0 (false) : Zg))
     else
     some (.inl (.h2m17 (true) (false) : law32_FifoFormsX))
    else
    some (.inl (.h2m17 (true) (false) : law32_FifoFormsX))
   else
   some (.inl (.h2m17 (true) (false) : law32_FifoFormsX))
  else
  some (.inl (.h2m17 (true) (false) : law32_FifoFormsX))
 else
 if v4 = true then
  if (0 : Int) ≤ a0 then
   if a0 ≤ (400 : Int) then
    if (0 : Int) ≤ a1 then
     if a1 ≤ (3 : Int) then
      some (.inr (.r0 (false) : Zg))
     else
     some (.inl (.h2m17 (false) (true) : law32_FifoFormsX))
    else
    some (.inl (.h2m17 (false) (true) : law32_FifoFormsX))
   else
   some (.inl (.h2m17 (false) (true) : law32_FifoFormsX))
  else
  some (.inl (.h2m17 (false) (true) : law32_FifoFormsX))
 else
 if (0 : Int) ≤ a0 then
  if a0 ≤ (400 : Int) then
   if (0 : Int) ≤ a1 then
    if a1 ≤ (3 : Int) then
     some (.inr (.r0 (false) : Zg))
    else
    some (.inl (.h2m17 (false) (false) : law32_FifoFormsX))
   else
   some (.inl (.h2m17 (false) (false) : law32_FifoFormsX))
  else
  some (.inl (.h2m17 (false) (false) : law32_FifoFormsX))
 else
 some (.inl (.h2m17 (false) (false) : law32_FifoFormsX))

def Zb3 (a0 : Int) (a1 : Int) (a2 : Int) (a3 : Int) (a4 : Int) (N : Nat) (v5 : List RA) (v6 : List RA) (v7 : List RA) (v8 : List RA) : Option (law32_FifoFormsX ⊕ Zg) :=
 if (0 : Int) ≤ a0 then
  if a0 ≤ (400 : Int) then
   if (0 : Int) ≤ a1 then
    if a1 ≤ (3 : Int) then
     if (0 : Int) ≤ a2 then
      if a2 ≤ (3 : Int) then
       if (v7.length : Int) < (1 : Int) then
        some (.inr (.r0 (false) : Zg))
       else
       if (60 : Int) < (v7.length : Int) then
        some (.inr (.r0 (false) : Zg))
       else
       ((Zz (v7) (a0) N).bind fun r => match r with
       | .r0 y8_0 =>
        if ¬ (y8_0 = true) then
         some (.inr (.r0 (false) : Zg))
        else
        some (.inl (.h2m18 (v5) (v6) (v7) (v8) : law32_FifoFormsX))
       )
      else
      none
     else
     none
    else
    none
   else
   none
  else
  none
 else
 none

def Zb4 (a0 : Int) (a1 : Int) (a2 : Int) (a3 : Int) (a4 : Int) (N : Nat) (v5 : List RA) (v6 : List RA) (v7 : List RA) : Option (law32_FifoFormsX ⊕ Zg) :=
 if (0 : Int) ≤ a0 then
  if a0 ≤ (400 : Int) then
   if (0 : Int) ≤ a1 then
    if a1 ≤ (3 : Int) then
     if (v7.length : Int) < (1 : Int) then
      some (.inr (.r0 (false) : Zg))
     else
     if (60 : Int) < (v7.length : Int) then
      some (.inr (.r0 (false) : Zg))
     else
     ((Zz (v7) (a0) N).bind fun r => match r with
     | .r0 y6_0 =>
      if ¬ (y6_0 = true) then
       some (.inr (.r0 (false) : Zg))
      else
      some (.inl (.h2m19 (v5) (v6) (v7) : law32_FifoFormsX))
     )
    else
    none
   else
   none
  else
  none
 else
 none

def Zb5 (a0 : Int) (a1 : Int) (a2 : Int) (a3 : Int) (a4 : Int) (N : Nat) (v5 : List RA) (v6 : List RA) : Option (law32_FifoFormsX ⊕ Zg) :=
 if (0 : Int) ≤ a0 then
  if a0 ≤ (400 : Int) then
   if (0 : Int) ≤ a1 then
    if a1 ≤ (3 : Int) then
     if (v6.length : Int) < (1 : Int) then
      some (.inr (.r0 (false) : Zg))
     else
     if (60 : Int) < (v6.length : Int) then
      some (.inr (.r0 (false) : Zg))
     else
     ((Zz (v6) (a0) N).bind fun r => match r with
     | .r0 y6_0 =>
      if ¬ (y6_0 = true) then
       some (.inr (.r0 (false) : Zg))
      else
      some (.inl (.h2m20 (v5) (v6) : law32_FifoFormsX))
     )
    else
    none
   else
   none
  else
  none
 else
 none

def Zb6 (a0 : Int) (a1 : Int) (a2 : Int) (a3 : Int) (a4 : Int) (N : Nat) (v5 : List RA) (v6 : List RA) : Option (law32_FifoFormsX ⊕ Zg) :=
 if (0 : Int) ≤ a0 then
  if a0 ≤ (400 : Int) then
   if (0 : Int) ≤ a1 then
    if a1 ≤ (3 : Int) then
     if (0 : Int) ≤ a2 then
      if a2 ≤ (3 : Int) then
       some (.inl (.h2m21 (v5) (v6) : law32_FifoFormsX))
      else
      none
     else
     none
    else
    none
   else
   none
  else
  none
 else
 none

def Zb7 (a0 : Int) (a1 : Int) (a2 : Int) (a3 : Int) (a4 : Int) (N : Nat) (v4 : Bool) (v5 : List RA) : Option (law32_FifoFormsX ⊕ Zg) :=
 if (0 : Int) ≤ a0 then
  if a0 ≤ (400 : Int) then
   if (0 : Int) ≤ a1 then
    if a1 ≤ (3 : Int) then
     some (.inl (.h2m22 (v4) (v5) : law32_FifoFormsX))
    else
    none
   else
   none
  else
  none
 else
 none

def Zb8 (a0 : Int) (a1 : Int) (a2 : Int) (a3 : Int) (a4 : Int) (N : Nat) (v3 : Bool) (v4 : Bool) : Option (law32_FifoFormsX ⊕ Zg) :=
 if v3 = true then
  if v4 = true then
   if (0 : Int) ≤ a0 then
    if a0 ≤ (400 : Int) then
     if (0 : Int) ≤ a1 then
      if a1 ≤ (3 : Int) then
       some (.inr (.r0 (false) : Zg))
      else
      some (.inl (.h2m23 (true) (true) : law32_FifoFormsX))
     else
     some (.inl (.h2m23 (true) (true) : law32_FifoFormsX))
    else
    some (.inl (.h2m23 (true) (true) : law32_FifoFormsX))
   else
   some (.inl (.h2m23 (true) (true) : law32_FifoFormsX))
  else
  if (0 : Int) ≤ a0 then
   if a0 ≤ (400 : Int) then
    if (0 : Int) ≤ a1 then
     if a1 ≤ (3 : Int) then
      some (.inr (.r0 (false) : Zg))
     else
     some (.inl (.h2m23 (true) (false) : law32_FifoFormsX))
    else
    some (.inl (.h2m23 (true) (false) : law32_FifoFormsX))
   else
   some (.inl (.h2m23 (true) (false) : law32_FifoFormsX))
  else
  some (.inl (.h2m23 (true) (false) : law32_FifoFormsX))
 else
 if v4 = true then
  some (.inl (.h2m23 (false) (true) : law32_FifoFormsX))
 else
 some (.inl (.h2m23 (false) (false) : law32_FifoFormsX))

def Zb9 (a0 : Int) (a1 : Int) (a2 : Int) (a3 : Int) (a4 : Int) (N : Nat) (v5 : List RA) (v6 : List RA) (v7 : List RA) (v8 : List RA) : Option (law32_FifoFormsX ⊕ Zg) :=
 if (0 : Int) ≤ a0 then
  if a0 ≤ (400 : Int) then
   if (0 : Int) ≤ a1 then
    if a1 ≤ (3 : Int) then
     if (0 : Int) ≤ a2 then
      if a2 ≤ (3 : Int) then
       if (v8.length : Int) < (1 : Int) then
        some (.inr (.r0 (false) : Zg))
       else
       if (60 : Int) < (v8.length : Int) then
        some (.inr (.r0 (false) : Zg))
       else
       ((Zz (v8) (a0) N).bind fun r => match r with
       | .r0 y8_0 =>
        if ¬ (y8_0 = true) then
         some (.inr (.r0 (false) : Zg))
        else
        some (.inl (.h2m24 (v5) (v6) (v7) (v8) : law32_FifoFormsX))
       )
      else
      none
     else
     none
    else
    none
   else
   none
  else
  none
 else
 none

def ZbA (a0 : Int) (a1 : Int) (a2 : Int) (a3 : Int) (a4 : Int) (N : Nat) (v5 : List RA) (v6 : List RA) (v7 : List RA) : Option (law32_FifoFormsX ⊕ Zg) :=
 if (0 : Int) ≤ a0 then
  if a0 ≤ (400 : Int) then
   if (0 : Int) ≤ a1 then
    if a1 ≤ (3 : Int) then
     if (0 : Int) ≤ a2 then
      if a2 ≤ (3 : Int) then
       some (.inr (.r0 (false) : Zg))
      else
      some (.inl (.h2m25 (v5) (v6) (v7) : law32_FifoFormsX))
     else
     some (.inl (.h2m25 (v5) (v6) (v7) : law32_FifoFormsX))
    else
    none
   else
   none
  else
  none
 else
 none

def ZbB (a0 : Int) (a1 : Int) (a2 : Int) (a3 : Int) (a4 : Int) (N : Nat) (v5 : List RA) (v6 : List RA) : Option (law32_FifoFormsX ⊕ Zg) :=
 if (0 : Int) ≤ a0 then
  if a0 ≤ (400 : Int) then
   if (0 : Int) ≤ a1 then
    if a1 ≤ (3 : Int) then
     some (.inl (.h2m26 (v5) (v6) : law32_FifoFormsX))
    else
    none
   else
   none
  else
  none
 else
 none

def ZbC (a0 : Int) (a1 : Int) (a2 : Int) (a3 : Int) (a4 : Int) (N : Nat) (v5 : List RA) (v6 : List RA) : Option (law32_FifoFormsX ⊕ Zg) :=
 if (0 : Int) ≤ a0 then
  if a0 ≤ (400 : Int) then
   if (0 : Int) ≤ a1 then
    if a1 ≤ (3 : Int) then
     if (0 : Int) ≤ a2 then
      if a2 ≤ (3 : Int) then
       if (v6.length : Int) < (1 : Int) then
        some (.inr (.r0 (false) : Zg))
       else
       if (60 : Int) < (v6.length : Int) then
        some (.inr (.r0 (false) : Zg))
       else
       ((Zz (v6) (a0) N).bind fun r => match r with
       | .r0 y8_0 =>
        if ¬ (y8_0 = true) then
         some (.inr (.r0 (false) : Zg))
        else
        some (.inl (.h2m27 (v5) (v6) : law32_FifoFormsX))
       )
      else
      none
     else
     none
    else
    none
   else
   none
  else
  none
 else
 none

def ZbD (a0 : Int) (a1 : Int) (a2 : Int) (a3 : Int) (a4 : Int) (N : Nat) (v4 : Bool) (v5 : List RA) : Option (law32_FifoFormsX ⊕ Zg) :=
 if v4 = true then
  if (0 : Int) ≤ a0 then
   if a0 ≤ (400 : Int) then
    if (0 : Int) ≤ a1 then
     if a1 ≤ (3 : Int) then
      if (0 : Int) ≤ a2 then
       if a2 ≤ (3 : Int) then
        some (.inr (.r0 (false) : Zg))
       else
       some (.inl (.h2m28 (true) (v5) : law32_FifoFormsX))
      else
      some (.inl (.h2m28 (true) (v5) : law32_FifoFormsX))
     else
     none
    else
    none
   else
   none
  else
  none
 else
 if (0 : Int) ≤ a0 then
  if a0 ≤ (400 : Int) then
   if (0 : Int) ≤ a1 then
    if a1 ≤ (3 : Int) then
     some (.inl (.h2m28 (false) (v5) : law32_FifoFormsX))
    else
    none
   else
   none
  else
  none
 else
 none

def ZbE (a0 : Int) (a1 : Int) (a2 : Int) (a3 : Int) (a4 : Int) (N : Nat) (v3 : Bool) (v4 : Bool) : Option (law32_FifoFormsX ⊕ Zg) :=
 if v3 = true then
  if v4 = true then
   if (0 : Int) ≤ a0 then
    if a0 ≤ (400 : Int) then
     if (0 : Int) ≤ a1 then
      if a1 ≤ (3 : Int) then
       if (0 : Int) ≤ a2 then
        if a2 ≤ (3 : Int) then
         some (.inr (.r0 (false) : Zg))
        else
        some (.inl (.h2m29 (true) (true) : law32_FifoFormsX))
       else
       some (.inl (.h2m29 (true) (true) : law32_FifoFormsX))
      else
      some (.inl (.h2m29 (true) (true) : law32_FifoFormsX))
     else
     some (.inl (.h2m29 (true) (true) : law32_FifoFormsX))
    else
    some (.inl (.h2m29 (true) (true) : law32_FifoFormsX))
   else
   some (.inl (.h2m29 (true) (true) : law32_FifoFormsX))
  else
  some (.inl (.h2m29 (true) (false) : law32_FifoFormsX))
 else
 if v4 = true then
  if (0 : Int) ≤ a0 then
   if a0 ≤ (400 : Int) then
    if (0 : Int) ≤ a1 then
     if a1 ≤ (3 : Int) then
      if (0 : Int) ≤ a2 then
       if a2 ≤ (3 : Int) then
        some (.inr (.r0 (false) : Zg))
       else
       some (.inl (.h2m29 (false) (true) : law32_FifoFormsX))
      else
      some (.inl (.h2m29 (false) (true) : law32_FifoFormsX))
     else
     some (.inl (.h2m29 (false) (true) : law32_FifoFormsX))
    else
    some (.inl (.h2m29 (false) (true) : law32_FifoFormsX))
   else
   some (.inl (.h2m29 (false) (true) : law32_FifoFormsX))
  else
  some (.inl (.h2m29 (false) (true) : law32_FifoFormsX))
 else
 some (.inl (.h2m29 (false) (false) : law32_FifoFormsX))

def ZbF (a0 : Int) (a1 : Int) (a2 : Int) (a3 : Int) (a4 : Int) (N : Nat) (v5 : List RA) (v6 : List RA) (v7 : List RA) (v8 : List RA) : Option (law32_FifoFormsX ⊕ Zg) :=
 if (0 : Int) ≤ a0 then
  if a0 ≤ (400 : Int) then
   if (0 : Int) ≤ a1 then
    if a1 ≤ (3 : Int) then
     if (0 : Int) ≤ a2 then
      if a2 ≤ (3 : Int) then
       ((Zaz N).bind fun r => match r with
       | .r0 =>
        some (.inr (.r0 (true) : Zg))
       )
      else
      none
     else
     none
    else
    none
   else
   none
  else
  none
 else
 none

def ZbG (a0 : Int) (a1 : Int) (a2 : Int) (a3 : Int) (a4 : Int) (N : Nat) (v5 : List RA) (v6 : List RA) (v7 : List RA) : Option (law32_FifoFormsX ⊕ Zg) :=
 if (0 : Int) ≤ a0 then
  if a0 ≤ (400 : Int) then
   if (0 : Int) ≤ a1 then
    if a1 ≤ (3 : Int) then
     ((Zaz N).bind fun r => match r with
     | .r0 =>
      some (.inr (.r0 (true) : Zg))
     )
    else
    none
   else
   none
  else
  none
 else
 none

def ZbH (a0 : Int) (a1 : Int) (a2 : Int) (a3 : Int) (a4 : Int) (N : Nat) (v5 : List RA) (v6 : List RA) : Option (law32_FifoFormsX ⊕ Zg) :=
 if (0 : Int) ≤ a0 then
  if a0 ≤ (400 : Int) then
   if (0 : Int) ≤ a1 then
    if a1 ≤ (3 : Int) then
     ((Zaz N).bind fun r => match r with
     | .r0 =>
      some (.inr (.r0 (true) : Zg))
     )
    else
    none
   else
   none
  else
  none
 else
 none

def ZbI (a0 : Int) (a1 : Int) (a2 : Int) (a3 : Int) (a4 : Int) (N : Nat) (v5 : List RA) (v6 : List RA) : Option (law32_FifoFormsX ⊕ Zg) :=
 if (0 : Int) ≤ a0 then
  if a0 ≤ (400 : Int) then
   if (0 : Int) ≤ a1 then
    if a1 ≤ (3 : Int) then
     if (0 : Int) ≤ a2 then
      if a2 ≤ (3 : Int) then
       ((Zaz N).bind fun r => match r with
       | .r0 =>
        some (.inr (.r0 (true) : Zg))
       )
      else
      none
     else
     none
    else
    none
   else
   none
  else
  none
 else
 none

def ZbJ (a0 : Int) (a1 : Int) (a2 : Int) (a3 : Int) (a4 : Int) (N : Nat) (v4 : Bool) (v5 : List RA) : Option (law32_FifoFormsX ⊕ Zg) :=
 if (0 : Int) ≤ a0 then
  if a0 ≤ (400 : Int) then
   if (0 : Int) ≤ a1 then
    if a1 ≤ (3 : Int) then
     ((Zaz N).bind fun r => match r with
     | .r0 =>
      some (.inr (.r0 (true) : Zg))
     )
    else
    none
   else
   none
  else
  none
 else
 none

def ZbK (a0 : Int) (a1 : Int) (a2 : Int) (a3 : Int) (a4 : Int) (N : Nat) (v3 : Bool) (v4 : Bool) : Option (law32_FifoFormsX ⊕ Zg) :=
 ((Zaz N).bind fun r => match r with
 | .r0 =>
  some (.inr (.r0 (true) : Zg))
 )

def Zp (a0 : Int) (a1 : Int) (a2 : Int) (a3 : Int) (a4 : Int) (N : Nat) : law32_FifoFormsX → Option (law32_FifoFormsX ⊕ Zg)
 | .h1m0 v5 v6 v7 v8 => ZbV a0 a1 a2 a3 a4 N v5 v6 v7 v8
 | .h1m1 v5 v6 v7 => ZbW a0 a1 a2 a3 a4 N v5 v6 v7
 | .h1m2 v5 v6 v7 => ZdG a0 a1 a2 a3 a4 N v5 v6 v7
 | .h1m3 v5 v6 => ZbX a0 a1 a2 a3 a4 N v5 v6
 | .h1m4 v5 v6 => ZbY a0 a1 a2 a3 a4 N v5 v6
 | .h1m5 v5 => ZaN a0 a1 a2 a3 a4 N v5
 | .h1m6 => Zac a0 a1 a2 a3 a4 N
 | .h2m0 v5 v6 v7 v8 => ZbZ a0 a1 a2 a3 a4 N v5 v6 v7 v8
 | .h2m1 v5 v6 v7 => Zca a0 a1 a2 a3 a4 N v5 v6 v7
 | .h2m2 v4 v5 v6 => Zcb a0 a1 a2 a3 a4 N v4 v5 v6
 | .h2m3 v3 v5 v6 => Zcc a0 a1 a2 a3 a4 N v3 v5 v6
 | .h2m4 v3 v4 v5 => Zcd a0 a1 a2 a3 a4 N v3 v4 v5
 | .h2m5 v3 v4 => Zce a0 a1 a2 a3 a4 N v3 v4
 | .h2m6 v5 v6 v7 v8 => Zcf a0 a1 a2 a3 a4 N v5 v6 v7 v8
 | .h2m7 v5 v6 v7 => Zcg a0 a1 a2 a3 a4 N v5 v6 v7
 | .h2m8 v5 v6 => Zch a0 a1 a2 a3 a4 N v5 v6
 | .h2m9 v5 v6 => Zci a0 a1 a2 a3 a4 N v5 v6
 | .h2m10 v4 v5 => Zb1 a0 a1 a2 a3 a4 N v4 v5
 | .h2m11 v3 v4 => Zb2 a0 a1 a2 a3 a4 N v3 v4
 | .h2m12 v5 v6 v7 v8 => Zb3 a0 a1 a2 a3 a4 N v5 v6 v7 v8
 | .h2m13 v5 v6 v7 => Zb4 a0 a1 a2 a3 a4 N v5 v6 v7
 | .h2m14 v5 v6 => Zb5 a0 a1 a2 a3 a4 N v5 v6
 | .h2m15 v5 v6 => Zb6 a0 a1 a2 a3 a4 N v5 v6
 | .h2m16 v4 v5 => Zb7 a0 a1 a2 a3 a4 N v4 v5
 | .h2m17 v3 v4 => Zb8 a0 a1 a2 a3 a4 N v3 v4
 | .h2m18 v5 v6 v7 v8 => Zb9 a0 a1 a2 a3 a4 N v5 v6 v7 v8
 | .h2m19 v5 v6 v7 => ZbA a0 a1 a2 a3 a4 N v5 v6 v7
 | .h2m20 v5 v6 => ZbB a0 a1 a2 a3 a4 N v5 v6
 | .h2m21 v5 v6 => ZbC a0 a1 a2 a3 a4 N v5 v6
 | .h2m22 v4 v5 => ZbD a0 a1 a2 a3 a4 N v4 v5
 | .h2m23 v3 v4 => ZbE a0 a1 a2 a3 a4 N v3 v4
 | .h2m24 v5 v6 v7 v8 => ZbF a0 a1 a2 a3 a4 N v5 v6 v7 v8
 | .h2m25 v5 v6 v7 => ZbG a0 a1 a2 a3 a4 N v5 v6 v7
 | .h2m26 v5 v6 => ZbH a0 a1 a2 a3 a4 N v5 v6
 | .h2m27 v5 v6 => ZbI a0 a1 a2 a3 a4 N v5 v6
 | .h2m28 v4 v5 => ZbJ a0 a1 a2 a3 a4 N v4 v5
 | .h2m29 v3 v4 => ZbK a0 a1 a2 a3 a4 N v3 v4

def Zag (a0 : Int) (a1 : Int) (a2 : Int) (a3 : Int) (a4 : Int) (N : Nat) : Option (law32_FifoFormsX ⊕ Zg) :=
 ((Zbl (a0) (a1) (a3) (a4) N).bind fun r => match r with
 | .r0 y0_0 =>
  ((ZaK (a0) (a1) N).bind fun r => match r with
  | .r0 y1_0 =>
   ((ZaQ (a0) (a1) (a3) N).bind fun r => match r with
   | .r0 y2_0 =>
    ((ZaB (a0) (a1) (a2) (a4) N).bind fun r => match r with
    | .r0 y3_0 =>
     some (.inl (.h1m0 (y0_0) (y1_0) (y2_0) (y3_0) : law32_FifoFormsX))
    | .r1 =>
     some (.inl (.h1m1 (y0_0) (y1_0) (y2_0) : law32_FifoFormsX))
    )
   | .r1 =>
    none
   )
  | .r1 =>
   none
  )
 | .r1 =>
  ((ZaK (a0) (a1) N).bind fun r => match r with
  | .r0 y1_0 =>
   ((ZaQ (a0) (a1) (a3) N).bind fun r => match r with
   | .r0 y2_0 =>
    ((ZaB (a0) (a1) (a2) (a4) N).bind fun r => match r with
    | .r0 y3_0 =>
     some (.inl (.h1m2 (y1_0) (y2_0) (y3_0) : law32_FifoFormsX))
    | .r1 =>
     some (.inl (.h1m3 (y1_0) (y2_0) : law32_FifoFormsX))
    )
   | .r1 =>
    ((ZaB (a0) (a1) (a2) (a4) N).bind fun r => match r with
    | .r0 y3_0 =>
     some (.inl (.h1m4 (y1_0) (y3_0) : law32_FifoFormsX))
    | .r1 =>
     some (.inl (.h1m5 (y1_0) : law32_FifoFormsX))
    )
   )
  | .r1 =>
   ((ZaQ (a0) (a1) (a3) N).bind fun r => match r with
   | .r0 _ =>
    none
   | .r1 =>
    ((ZaB (a0) (a1) (a2) (a4) N).bind fun r => match r with
    | .r0 _ =>
     none
    | .r1 =>
     some (.inl (.h1m6 : law32_FifoFormsX))
    )
   )
  )
 )

def Zbr (a0 : Int) (a1 : Int) (a2 : Int) (a3 : Int) (a4 : Int) (N : Nat) : Option Zg := goM (Zp a0 a1 a2 a3 a4 N) N (Zag a0 a1 a2 a3 a4 N)
end Ev
end Go.Proofs.YtpfmkkookmofcaaGreat
/- How records are written, and which functions are told. -/
namespace Go.Proofs.YtpfmkkookmofcaaGreat
open Go.RowKit
namespace Ev
set_option linter.unusedVariables false
theorem ZpX {P : Program} {f : FuncId} {A A' : Array Value} {pre pre' : List AObj} {v v' : Value} {post post' : List (Option AObj)} (hA : A' = A) (hp : pre' = pre) (hv : v' = v) (hq : post' = post) (h : LSpec P f A' pre' v' post') : LSpec P f A pre v post := by
 subst hA hp hv hq; exact h
theorem ZoI {P : Program} {ext : FuncId → Option Ext} (F : Fit P ext) (p : FuncId → Bool) : Fit P (fun f => bif p f then none else ext f) :=
 have h : ∀ f e, (bif p f then none else ext f) = some e → ext f = some e := fun f e h => by cases hp : p f <;> rw [hp] at h <;> first | cases h; done | exact h
 ⟨F.mixed, F.go, fun f g e => F.fn f g (h _ _ e), fun f g e => F.hp f g (h _ _ e), fun f S e => F.tc f S (h _ _ e), fun f n e => F.mark f n (h _ _ e), fun f k e' he => F.ext f k e' (h _ _ he)⟩
abbrev vq : Value := .int .i64 0
abbrev vf : Value := .bool false
abbrev vT : Value := .bool true
abbrev vn : Value := .slice none 0 0
noncomputable abbrev dS {α : Type} (a : α) : Bool := dP (a = a)
theorem ltA {p : Prop} (h : p := by first | omega | (simp only [List.length_set, List.length_append, List.length_cons, List.length_nil, List.length_replicate, List.length_take, List.length_drop] at * <;> omega)) : p := h
theorem eqA {p : Prop} (h : p := by first | rfl | omega | (simp only [List.length_set, List.length_append, List.length_cons, List.length_nil, List.length_replicate, List.length_take, List.length_drop] at * <;> omega)) : p := h
theorem rr {p q : Prop} (h : p := by rfl) (h2 : q := by rfl) : p ∧ q := ⟨h, h2⟩
section
variable {l : List (Bool × Bool)}
theorem oT {a b : Int} (hl : ∀ q ∈ l, q.1 = q.2) (h : a = b := by omega) : ∀ q ∈ ((a == b), true) :: l, q.1 = q.2 := Zd (bT h) hl
theorem oF {a b : Int} (hl : ∀ q ∈ l, q.1 = q.2) (h : ¬ a = b := by omega) : ∀ q ∈ ((a == b), false) :: l, q.1 = q.2 := Zd (bF h) hl
theorem oD {a b : Int} (hl : ∀ q ∈ l, q.1 = q.2) (h : a ≠ b := by omega) : ∀ q ∈ ((a != b), true) :: l, q.1 = q.2 := Zd (bne_iff_ne.2 h) hl
theorem oE {a b : Int} (hl : ∀ q ∈ l, q.1 = q.2) (h : a = b := by omega) : ∀ q ∈ ((a != b), false) :: l, q.1 = q.2 := Zd (bne_eq_false_iff_eq.2 h) hl
theorem oY {p : Prop} [Decidable p] (hl : ∀ q ∈ l, q.1 = q.2) (h : p := by omega) : ∀ q ∈ (decide p, true) :: l, q.1 = q.2 := Zd (decide_eq_true h) hl
theorem oN {p : Prop} [Decidable p] (hl : ∀ q ∈ l, q.1 = q.2) (h : ¬ p := by omega) : ∀ q ∈ (decide p, false) :: l, q.1 = q.2 := Zd (decide_eq_false h) hl
theorem oR {α : Type} {a b : α} (hl : ∀ q ∈ l, q.1 = q.2) (h : a = b := by rfl) : ∀ q ∈ (dP (a = b), true) :: l, q.1 = q.2 := Zd (Zm h) hl
theorem oB {a b : Nat} (hl : ∀ q ∈ l, q.1 = q.2) (h : a < b := by omega) : ∀ q ∈ (Nat.blt a b, true) :: l, q.1 = q.2 := Zd (Ztb h) hl
theorem oI {a b : Int} (hl : ∀ q ∈ l, q.1 = q.2) (h : a = b := by first | rfl | exact Zo7 (by omega)) : ∀ q ∈ ((a == b), true) :: l, q.1 = q.2 := Zd (bT h) hl
end
def Zw : Enc R_ii := ⟨fun x => [.i x.a0, .i x.a1], 2, R_ii.z, fun _ => rfl, fun _ => rfl⟩
def Zb : Enc RA := ⟨fun x => [.i x.a0, .i x.a1, .i x.a2, .i x.a3], 4, RA.z, fun _ => rfl, fun _ => rfl⟩
instance : Inhabited R_ii := ⟨R_ii.z⟩
instance : Inhabited RA := ⟨RA.z⟩
def Zsx : FuncId → Bool := fun f => Nat.beq f 8 || Nat.beq f 5 || Nat.beq f 6 || Nat.beq f 7 || Nat.beq f 3 || Nat.beq f 10 || Nat.beq f 9 || Nat.beq f 73 || Nat.beq f 61 || Nat.beq f 62 || Nat.beq f 74 || Nat.beq f 24 || Nat.beq f 25 || Nat.beq f 23 || Nat.beq f 103 || Nat.beq f 49 || Nat.beq f 51 || Nat.beq f 115 || Nat.beq f 50 || Nat.beq f 60 || Nat.beq f 27
noncomputable def Zo : FuncId → Option Ext := Zq9 (ZrZ Zo5) Zsx
theorem ZaV : Fit Tryz.prog Zo := fitT (fitS ZmD) (fun f h => by
 simp only [Zsx, Bool.or_eq_true] at h
 simp only [Nat.beq_eq] at h
 rcases h with (((((((((((((((((((rfl | rfl) | rfl) | rfl) | rfl) | rfl) | rfl) | rfl) | rfl) | rfl) | rfl) | rfl) | rfl) | rfl) | rfl) | rfl) | rfl) | rfl) | rfl) | rfl) | rfl
 ·exact ⟨_, _, Tryz.func8, rfl⟩
 ·exact ⟨_, _, Tryz.func5, rfl⟩
 ·exact ⟨_, _, Tryz.func6, rfl⟩
 ·exact ⟨_, _, Tryz.func7, rfl⟩
 ·exact ⟨_, _, Tryz.func3, rfl⟩
 ·exact ⟨_, _, Tryz.func10, rfl⟩
 ·exact ⟨_, _, Tryz.func9, rfl⟩
 ·exact ⟨_, _, Tryz.func73, rfl⟩
 ·exact ⟨_, _, Tryz.func61, rfl⟩
 ·exact ⟨_, _, Tryz.func62, rfl⟩
 ·exact ⟨_, _, Tryz.func74, rfl⟩
 ·exact ⟨_, _, Tryz.func24, rfl⟩
 ·exact ⟨_, _, Tryz.func25, rfl⟩
 ·exact ⟨_, _, Tryz.func23, rfl⟩
 ·exact ⟨_, _, Tryz.func103, rfl⟩
 ·exact ⟨_, _, Tryz.func49, rfl⟩
 ·exact ⟨_, _, Tryz.func51, rfl⟩
 ·exact ⟨_, _, Tryz.func115, rfl⟩
 ·exact ⟨_, _, Tryz.func50, rfl⟩
 ·exact ⟨_, _, Tryz.func60, rfl⟩
 ·exact ⟨_, _, Tryz.func27, rfl⟩
 )
end Ev
end Go.Proofs.YtpfmkkookmofcaaGreat
