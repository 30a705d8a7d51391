/- Records, and the program's functions as plain ones. -/
import Derived.Test.YtgnmjjakmeomiaaFm
namespace Go.Proofs.Ytgnmjjakmeomiaa
open Go.RowKit
namespace Ev
set_option linter.unusedVariables false
structure RB where
 a0 : Int
 a1 : Int
 a2 : Int
 a3 : Int
 a4 : Int
 a5 : Bool
 a6 : Int
def RB.z : RB := ⟨0, 0, 0, 0, 0, false, 0⟩
structure RA where
 a0 : Int
 a1 : Int
 a2 : Int
 a3 : Int
 a4 : Int
 a5 : Int
 a6 : Bool
 a7 : Int
def RA.z : RA := ⟨0, 0, 0, 0, 0, 0, false, 0⟩
inductive ZcX where
 | r0
 | r1

def ZbI (a0 : Int) (N : Nat) : Option ZcX :=
 if a0 < (1 : Int) then
  some (.r0 : ZcX)
 else
 if (4096 : Int) < a0 then
  some (.r0 : ZcX)
 else
 some (.r1 : ZcX)

inductive Zc6 where
 | r0 (w0 : Int) (w1 : Int)

def Zbd (a0 : Int) (N : Nat) : Option Zc6 :=
 if a0 < (1 : Int) then
  some (.r0 ((0 : Int)) ((1 : Int)) : Zc6)
 else
 if (4096 : Int) < a0 then
  some (.r0 ((0 : Int)) ((1 : Int)) : Zc6)
 else
 some (.r0 (a0) ((0 : Int)) : Zc6)

inductive ZbO where
 | r0
 | r1

def ZaA (a0 : Int) (a1 : Int) (a2 : Int) (a3 : Int) (a4 : Int) (b5 : Bool) (a6 : Int) (a7 : Int) (N : Nat) : Option ZbO :=
 if (0 : Int) < a7 then
  some (.r0 : ZbO)
 else
 some (.r1 : ZbO)

inductive ZcY where
 | r0
 | r1

def ZaM (a0 : Int) (a1 : Int) (a2 : Int) (a3 : Int) (a4 : Int) (a5 : Int) (b6 : Bool) (a7 : Int) (N : Nat) : Option ZcY :=
 if a0 ≤ (0 : Int) then
  some (.r0 : ZcY)
 else
 some (.r1 : ZcY)

inductive Zey where
 | r0

def Zb8 (a0 : Int) (N : Nat) : Option Zey :=
 some (.r0 : Zey)

inductive Zbp where
 | r0

inductive Zdv where
 | h1m0

def Ziz (a0 : Int) (a1 : Int) (a2 : Int) (a3 : Int) (N : Nat) : Option (Zdv ⊕ Zbp) :=
 some (.inr (.r0 : Zbp))

def ZiW (a0 : Int) (a1 : Int) (a2 : Int) (a3 : Int) (N : Nat) : Zdv → Option (Zdv ⊕ Zbp)
 | .h1m0 => Ziz a0 a1 a2 a3 N

def Zg1 (a0 : Int) (a1 : Int) (a2 : Int) (a3 : Int) (N : Nat) : Option (Zdv ⊕ Zbp) :=
 if (0 : Int) < a3 then
  some (.inl (.h1m0 : Zdv))
 else
 some (.inr (.r0 : Zbp))

def Zez (a0 : Int) (a1 : Int) (a2 : Int) (a3 : Int) (N : Nat) : Option Zbp := goM (ZiW a0 a1 a2 a3 N) N (Zg1 a0 a1 a2 a3 N)

inductive ZbD where
 | r0

inductive ZaS where
 | h1m0

def ZeJ (a0 : Int) (a1 : Int) (a2 : Int) (a3 : Int) (N : Nat) : Option (ZaS ⊕ ZbD) :=
 some (.inr (.r0 : ZbD))

def Zef (a0 : Int) (a1 : Int) (a2 : Int) (a3 : Int) (N : Nat) : ZaS → Option (ZaS ⊕ ZbD)
 | .h1m0 => ZeJ a0 a1 a2 a3 N

def ZeE (a0 : Int) (a1 : Int) (a2 : Int) (a3 : Int) (N : Nat) : Option (ZaS ⊕ ZbD) :=
 some (.inl (.h1m0 : ZaS))

def ZdY (a0 : Int) (a1 : Int) (a2 : Int) (a3 : Int) (N : Nat) : Option ZbD := goM (Zef a0 a1 a2 a3 N) N (ZeE a0 a1 a2 a3 N)

inductive ZbP where
 | r0
 | r1

def ZcL (a0 : Int) (N : Nat) : Option ZbP :=
 if (0 : Int) < a0 then
  some (.r0 : ZbP)
 else
 some (.r1 : ZbP)

inductive Zah where
 | r0 (w2 : Bool)

inductive ZX where
 | h1m0 (v2 : Nat)

def Zbt (L0 : List RB) (L1 : List RB) (N : Nat) (v2 : Nat) : Option (ZX ⊕ Zah) :=
 if (v2 : Int) < (L0.length : Int) then
  if v2 < L1.length then
   if ¬ ((((L0.getD v2 RB.z).a0 = (L1.getD v2 RB.z).a0 ∧ (L0.getD v2 RB.z).a1 = (L1.getD v2 RB.z).a1) ∧ (L0.getD v2 RB.z).a2 = (L1.getD v2 RB.z).a2 ∧ ((L0.getD v2 RB.z).a3 = (L1.getD v2 RB.z).a3 ∧ (L0.getD v2 RB.z).a4 = (L1.getD v2 RB.z).a4) ∧ (L0.getD v2 RB.z).a5 = (L1.getD v2 RB.z).a5 ∧ (L0.getD v2 RB.z).a6 = (L1.getD v2 RB.z).a6)) then
    some (.inr (.r0 (false) : Zah))
   else
   if (((v2 + 1) : Nat) : Int) ≤ (9223372036854775807 : Int) then
    some (.inl (.h1m0 ((v2 + 1)) : ZX))
   else
   none
  else
  none
 else
 some (.inr (.r0 (true) : Zah))

def ZcS (L0 : List RB) (L1 : List RB) (N : Nat) : ZX → Option (ZX ⊕ Zah)
 | .h1m0 v2 => Zbt L0 L1 N v2

def Zeg (L0 : List RB) (L1 : List RB) (N : Nat) : Option (ZX ⊕ Zah) :=
 if ¬ ((L0.length : Int) = (L1.length : Int)) then
  some (.inr (.r0 (false) : Zah))
 else
 some (.inl (.h1m0 (0) : ZX))

def ZcM (L0 : List RB) (L1 : List RB) (N : Nat) : Option Zah := goM (ZcS L0 L1 N) N (Zeg L0 L1 N)

inductive Zak where
 | r0 (w1 : Bool)

inductive ZY where
 | h1m0

def ZdK (L0 : List RB) (N : Nat) : Option (ZY ⊕ Zak) :=
 some (.inr (.r0 (true) : Zak))

def Zdj (L0 : List RB) (N : Nat) : ZY → Option (ZY ⊕ Zak)
 | .h1m0 => ZdK L0 N

def Ze3 (L0 : List RB) (N : Nat) : Option (ZY ⊕ Zak) :=
 if ¬ ((0 : Int) = (L0.length : Int)) then
  some (.inr (.r0 (false) : Zak))
 else
 some (.inl (.h1m0 : ZY))

def Zeh (L0 : List RB) (N : Nat) : Option Zak := goM (Zdj L0 N) N (Ze3 L0 N)

inductive ZaH where
 | r0

inductive ZZ where
 | h1m0

def ZdL  (N : Nat) : Option (ZZ ⊕ ZaH) :=
 some (.inr (.r0 : ZaH))

def Zdk  (N : Nat) : ZZ → Option (ZZ ⊕ ZaH)
 | .h1m0 => ZdL  N

def Zd3  (N : Nat) : Option (ZZ ⊕ ZaH) :=
 some (.inl (.h1m0 : ZZ))

def ZcE  (N : Nat) : Option ZaH := goM (Zdk  N) N (Zd3  N)

inductive ZaI where
 | r0 (w1 : Int)
 | r1

def ZN (a0 : Int) (a1 : Int) (a2 : Int) (a3 : Int) (a4 : Int) (b5 : Bool) (a6 : Int) (a7 : Int) (L8 : List RB) (N : Nat) : Option ZaI :=
 if (0 : Int) < a7 then
  if a7 ≤ (L8.length : Int) then
   some (.r0 ((70 : Int)) : ZaI)
  else
  if L8.length ≤ 100000 then
   some (.r1 : ZaI)
  else
  none
 else
 some (.r0 ((4 : Int)) : ZaI)

inductive Zbz where
 | r0
 | r1 (w2 : List RB)

def Zao (a0 : Int) (L1 : List RB) (a2 : Int) (a3 : Int) (a4 : Int) (a5 : Int) (a6 : Int) (b7 : Bool) (a8 : Int) (N : Nat) : Option Zbz :=
 if a0 ≤ (L1.length : Int) then
  some (.r0 : Zbz)
 else
 if L1.length = 0 then
  some (.r1 (([(⟨a2, a3, a4, a5, a6, b7, a8⟩ : RB)] : List RB)) : Zbz)
 else
 if L1.length ≤ 100000 then
  some (.r1 ((L1 ++ ([(⟨a2, a3, a4, a5, a6, b7, a8⟩ : RB)] : List RB))) : Zbz)
 else
 none

inductive ZbE where
 | r0
 | r1 (w2 : List RB)

def ZaV (a0 : Int) (L1 : List RB) (N : Nat) : Option ZbE :=
 if (L1.length : Int) = (0 : Int) then
  some (.r0 : ZbE)
 else
 if ((L1.length : Int) - (1 : Int)) ≤ (9223372036854775807 : Int) then
  if ((L1.length - 1) - 0) = 0 then
   some (.r1 (([] : List RB)) : ZbE)
  else
  if ((L1.length - 1) - 0) ≤ 100000 then
   some (.r1 ((L1.take ((L1.length - 1) - 0))) : ZbE)
  else
  none
 else
 none

inductive undo_Log_First_2R where
 | r0 (w1 : Int) (w2 : Int) (w3 : Bool)

inductive ZO where
 | h1m0 (v2 : Int) (v9 : Int) (v10 : Int) (v11 : Bool)

def Zai (a0 : Int) (a1 : Int) (a2 : Int) (a3 : Int) (L4 : List RB) (N : Nat) (v2 : Int) (v9 : Int) (v10 : Int) (v11 : Bool) : Option (ZO ⊕ undo_Log_First_2R) :=
 if (0 : Int) ≤ v2 then
  if (v2).toNat < L4.length then
   if ((L4.getD (v2).toNat RB.z).a0 = a0 ∧ (L4.getD (v2).toNat RB.z).a1 = a1) then
    if (L4.getD (v2).toNat RB.z).a2 = a2 then
     if (L4.getD (v2).toNat RB.z).a5 = true then
      some (.inl (.h1m0 ((IntKind.i64.wrap (v2 - (1 : Int)))) (v9) (v10) (v11) : ZO))
     else
     some (.inl (.h1m0 ((IntKind.i64.wrap (v2 - (1 : Int)))) ((L4.getD (v2).toNat RB.z).a3) ((L4.getD (v2).toNat RB.z).a4) (true) : ZO))
    else
    some (.inl (.h1m0 ((IntKind.i64.wrap (v2 - (1 : Int)))) (v9) (v10) (v11) : ZO))
   else
   some (.inl (.h1m0 ((IntKind.i64.wrap (v2 - (1 : Int)))) (v9) (v10) (v11) : ZO))
  else
  none
 else
 if v11 = true then
  some (.inr (.r0 (v9) (v10) (true) : undo_Log_First_2R))
 else
 some (.inr (.r0 (v9) (v10) (false) : undo_Log_First_2R))

def Zb2 (a0 : Int) (a1 : Int) (a2 : Int) (a3 : Int) (L4 : List RB) (N : Nat) : ZO → Option (ZO ⊕ undo_Log_First_2R)
 | .h1m0 v2 v9 v10 v11 => Zai a0 a1 a2 a3 L4 N v2 v9 v10 v11

def Zer (a0 : Int) (a1 : Int) (a2 : Int) (a3 : Int) (L4 : List RB) (N : Nat) : Option (ZO ⊕ undo_Log_First_2R) :=
 if (0 : Int) < a3 then
  if ((L4.length : Int) - (1 : Int)) ≤ (9223372036854775807 : Int) then
   some (.inl (.h1m0 (((L4.length : Int) - (1 : Int))) ((0 : Int)) ((0 : Int)) (false) : ZO))
  else
  none
 else
 some (.inr (.r0 ((0 : Int)) ((0 : Int)) (false) : undo_Log_First_2R))

def ZbJ (a0 : Int) (a1 : Int) (a2 : Int) (a3 : Int) (L4 : List RB) (N : Nat) : Option undo_Log_First_2R := goM (Zb2 a0 a1 a2 a3 L4 N) N (Zer a0 a1 a2 a3 L4 N)

inductive Zav where
 | r0 (w1 : Int) (w2 : Int) (w3 : Bool)

inductive ZF where
 | h1m0 (v2 : Nat)

def ZaD (a0 : Int) (L1 : List RB) (a2 : Int) (a3 : Int) (a4 : Int) (N : Nat) (v2 : Nat) : Option (ZF ⊕ Zav) :=
 if (v2 : Int) < (L1.length : Int) then
  if ((L1.getD v2 RB.z).a0 = a2 ∧ (L1.getD v2 RB.z).a1 = a3) then
   if (L1.getD v2 RB.z).a2 = a4 then
    if (L1.getD v2 RB.z).a5 = true then
     if (((v2 + 1) : Nat) : Int) ≤ (9223372036854775807 : Int) then
      some (.inl (.h1m0 ((v2 + 1)) : ZF))
     else
     none
    else
    some (.inr (.r0 ((L1.getD v2 RB.z).a3) ((L1.getD v2 RB.z).a4) (true) : Zav))
   else
   if (((v2 + 1) : Nat) : Int) ≤ (9223372036854775807 : Int) then
    some (.inl (.h1m0 ((v2 + 1)) : ZF))
   else
   none
  else
  if (((v2 + 1) : Nat) : Int) ≤ (9223372036854775807 : Int) then
   some (.inl (.h1m0 ((v2 + 1)) : ZF))
  else
  none
 else
 some (.inr (.r0 ((0 : Int)) ((0 : Int)) (false) : Zav))

def ZcT (a0 : Int) (L1 : List RB) (a2 : Int) (a3 : Int) (a4 : Int) (N : Nat) : ZF → Option (ZF ⊕ Zav)
 | .h1m0 v2 => ZaD a0 L1 a2 a3 a4 N v2

def Zei (a0 : Int) (L1 : List RB) (a2 : Int) (a3 : Int) (a4 : Int) (N : Nat) : Option (ZF ⊕ Zav) :=
 some (.inl (.h1m0 (0) : ZF))

def ZcN (a0 : Int) (L1 : List RB) (a2 : Int) (a3 : Int) (a4 : Int) (N : Nat) : Option Zav := goM (ZcT a0 L1 a2 a3 a4 N) N (Zei a0 L1 a2 a3 a4 N)

inductive ZaJ where
 | r0 (w3 : List RB)
 | r1

def Zbq (a0 : Int) (L1 : List RB) (N : Nat) : Option ZaJ :=
 if (0 : Int) < a0 then
  if L1.length = 0 then
   some (.r0 (([] : List RB)) : ZaJ)
  else
  if L1.length ≤ 100000 then
   some (.r0 (L1) : ZaJ)
  else
  none
 else
 some (.r1 : ZaJ)

inductive Zal where
 | r0 (w0 : List RB) (w1 : Int) (w3 : Nat)
 | r1

def Z0 (a0 : Int) (a1 : Int) (a2 : Int) (a3 : Int) (a4 : Int) (b5 : Bool) (a6 : Int) (a7 : Int) (L8 : List RB) (n9 : Nat) (n10 : Nat) (N : Nat) : Option Zal :=
 if (0 : Int) < a7 then
  if a7 ≤ (n9 : Int) then
   some (.r0 (L8) ((70 : Int)) (n9) : Zal)
  else
  if (n9 + 1) ≤ n10 then
   if n9 < L8.length then
    some (.r0 ((L8.set n9 (⟨a0, a1, a2, a3, a4, b5, a6⟩ : RB))) ((0 : Int)) ((n9 + 1)) : Zal)
   else
   none
  else
  if n9 ≤ 100000 then
   if n9 ≤ L8.length then
    some (.r1 : Zal)
   else
   none
  else
  none
 else
 some (.r0 (L8) ((4 : Int)) (n9) : Zal)

inductive undo_Log_First_3R where
 | r0 (w1 : Int) (w2 : Int) (w3 : Bool)

inductive ZP where
 | h1m0 (v2 : Int) (v11 : Int) (v12 : Int) (v13 : Bool)

def Zaj (a0 : Int) (a1 : Int) (a2 : Int) (a3 : Int) (L4 : List RB) (n5 : Nat) (n6 : Nat) (N : Nat) (v2 : Int) (v11 : Int) (v12 : Int) (v13 : Bool) : Option (ZP ⊕ undo_Log_First_3R) :=
 if (0 : Int) ≤ v2 then
  if (v2).toNat < n5 then
   if (v2).toNat < L4.length then
    if ((L4.getD (v2).toNat RB.z).a0 = a0 ∧ (L4.getD (v2).toNat RB.z).a1 = a1) then
     if (L4.getD (v2).toNat RB.z).a2 = a2 then
      if (L4.getD (v2).toNat RB.z).a5 = true then
       some (.inl (.h1m0 ((IntKind.i64.wrap (v2 - (1 : Int)))) (v11) (v12) (v13) : ZP))
      else
      some (.inl (.h1m0 ((IntKind.i64.wrap (v2 - (1 : Int)))) ((L4.getD (v2).toNat RB.z).a3) ((L4.getD (v2).toNat RB.z).a4) (true) : ZP))
     else
     some (.inl (.h1m0 ((IntKind.i64.wrap (v2 - (1 : Int)))) (v11) (v12) (v13) : ZP))
    else
    some (.inl (.h1m0 ((IntKind.i64.wrap (v2 - (1 : Int)))) (v11) (v12) (v13) : ZP))
   else
   none
  else
  none
 else
 if v13 = true then
  some (.inr (.r0 (v11) (v12) (true) : undo_Log_First_3R))
 else
 some (.inr (.r0 (v11) (v12) (false) : undo_Log_First_3R))

def Zb3 (a0 : Int) (a1 : Int) (a2 : Int) (a3 : Int) (L4 : List RB) (n5 : Nat) (n6 : Nat) (N : Nat) : ZP → Option (ZP ⊕ undo_Log_First_3R)
 | .h1m0 v2 v11 v12 v13 => Zaj a0 a1 a2 a3 L4 n5 n6 N v2 v11 v12 v13

def Zes (a0 : Int) (a1 : Int) (a2 : Int) (a3 : Int) (L4 : List RB) (n5 : Nat) (n6 : Nat) (N : Nat) : Option (ZP ⊕ undo_Log_First_3R) :=
 if (0 : Int) < a3 then
  if ((n5 : Int) - (1 : Int)) ≤ (9223372036854775807 : Int) then
   some (.inl (.h1m0 (((n5 : Int) - (1 : Int))) ((0 : Int)) ((0 : Int)) (false) : ZP))
  else
  none
 else
 some (.inr (.r0 ((0 : Int)) ((0 : Int)) (false) : undo_Log_First_3R))

def ZbK (a0 : Int) (a1 : Int) (a2 : Int) (a3 : Int) (L4 : List RB) (n5 : Nat) (n6 : Nat) (N : Nat) : Option undo_Log_First_3R := goM (Zb3 a0 a1 a2 a3 L4 n5 n6 N) N (Zes a0 a1 a2 a3 L4 n5 n6 N)

inductive ZaK where
 | r0 (w5 : List RB)
 | r1

def Zbr (a0 : Int) (L1 : List RB) (n2 : Nat) (n3 : Nat) (N : Nat) : Option ZaK :=
 if (0 : Int) < a0 then
  if n2 = 0 then
   some (.r0 (([] : List RB)) : ZaK)
  else
  if n2 ≤ 100000 then
   if n2 ≤ L1.length then
    some (.r0 ((L1.take n2)) : ZaK)
   else
   none
  else
  none
 else
 some (.r1 : ZaK)

inductive Zam where
 | r0 (w1 : Bool)

inductive Zaa where
 | h1m0

def ZdM (L0 : List RB) (N : Nat) : Option (Zaa ⊕ Zam) :=
 if (0 : Int) < (L0.length : Int) then
  none
 else
 some (.inr (.r0 (true) : Zam))

def Zdl (L0 : List RB) (N : Nat) : Zaa → Option (Zaa ⊕ Zam)
 | .h1m0 => ZdM L0 N

def Zd4 (L0 : List RB) (N : Nat) : Option (Zaa ⊕ Zam) :=
 if ¬ ((L0.length : Int) = (0 : Int)) then
  some (.inr (.r0 (false) : Zam))
 else
 some (.inl (.h1m0 : Zaa))

def Zcf (L0 : List RB) (N : Nat) : Option Zam := goM (Zdl L0 N) N (Zd4 L0 N)

inductive Zf where
 | r0 (w2 : Bool)

inductive Zc where
 | h1m0 (v5 : Int)
 | h1m1 (v4 : Nat) (v6 : Int)
 | h1m2 (v4 : Nat) (v6 : List RB) (v7 : Int) (v8 : List RB)
 | h1m3 (v4 : Nat) (v6 : List RB) (v7 : Nat) (v8 : Nat) (v9 : Int) (v10 : List RB)
 | h1m4 (v4 : Nat) (v6 : List RB) (v7 : Int)
 | h1m5 (v4 : Nat) (v6 : List RB) (v7 : Nat) (v8 : Nat) (v9 : Int)
 | h2m0 (v4 : Nat) (v6 : List RB) (v7 : Int) (v8 : List RB)
 | h2m1 (v4 : Nat) (v6 : Int)
 | h2m2 (v4 : Nat) (v6 : List RB) (v7 : Nat) (v8 : Nat) (v9 : Int) (v10 : List RB)
 | h2m3 (v4 : Nat) (v6 : List RB) (v7 : Int)
 | h2m4 (v4 : Nat) (v6 : List RB) (v7 : Nat) (v8 : Nat) (v9 : Int)
 | h3m0 (v4 : Nat) (v5 : List RB) (v6 : Nat) (v8 : List RB) (v9 : Int) (v10 : List RB)
 | h3m1 (v4 : Nat) (v7 : Int)
 | h3m2 (v4 : Nat) (v7 : List RB) (v8 : Int) (v9 : List RB)
 | h3m3 (v4 : Nat) (v7 : List RB) (v8 : Nat) (v9 : Nat) (v10 : Int) (v11 : List RB)
 | h3m4 (v4 : Nat) (v5 : List RB) (v6 : Nat) (v8 : List RB) (v9 : Nat) (v10 : Nat) (v11 : Int) (v12 : List RB)
 | h3m5 (v4 : Nat) (v8 : List RB) (v9 : Int)
 | h3m6 (v4 : Nat) (v7 : List RB) (v8 : Int)
 | h3m7 (v4 : Nat) (v7 : List RB) (v8 : Nat) (v9 : Nat) (v10 : Int)
 | h3m8 (v4 : Nat) (v8 : List RB) (v9 : Nat) (v10 : Nat) (v11 : Int)

def ZdZ (a0 : Int) (L2 : List RA) (n3 : Nat) (n4 : Nat) (N : Nat) (v5 : Int) : Option (Zc ⊕ Zf) :=
 some (.inr (.r0 (true) : Zf))

def Zcq (a0 : Int) (L2 : List RA) (n3 : Nat) (n4 : Nat) (N : Nat) (v4 : Nat) (v6 : Int) : Option (Zc ⊕ Zf) :=
 if (v4 : Int) < (n3 : Int) then
  if (v4 : Int) < (60 : Int) then
   if v4 < L2.length then
    if (L2.getD v4 RA.z).a0 = (1 : Int) then
     ((ZaA ((L2.getD v4 RA.z).a1) ((L2.getD v4 RA.z).a2) ((L2.getD v4 RA.z).a3) ((L2.getD v4 RA.z).a4) ((L2.getD v4 RA.z).a5) ((L2.getD v4 RA.z).a6) ((L2.getD v4 RA.z).a7) (a0) N).bind fun r => match r with
     | .r0 =>
      ((ZaM (v6) ((L2.getD v4 RA.z).a1) ((L2.getD v4 RA.z).a2) ((L2.getD v4 RA.z).a3) ((L2.getD v4 RA.z).a4) ((L2.getD v4 RA.z).a5) ((L2.getD v4 RA.z).a6) ((L2.getD v4 RA.z).a7) N).bind fun r => match r with
      | .r0 =>
       none
      | .r1 =>
       some (.inl (.h2m0 (v4) (([(⟨(L2.getD v4 RA.z).a1, (L2.getD v4 RA.z).a2, (L2.getD v4 RA.z).a3, (L2.getD v4 RA.z).a4, (L2.getD v4 RA.z).a5, (L2.getD v4 RA.z).a6, (L2.getD v4 RA.z).a7⟩ : RB)] : List RB)) (v6) (([(⟨(L2.getD v4 RA.z).a1, (L2.getD v4 RA.z).a2, (L2.getD v4 RA.z).a3, (L2.getD v4 RA.z).a4, (L2.getD v4 RA.z).a5, (L2.getD v4 RA.z).a6, (L2.getD v4 RA.z).a7⟩ : RB)] : List RB)) : Zc))
      )
     | .r1 =>
      none
     )
    else
    if (L2.getD v4 RA.z).a0 = (2 : Int) then
     ((ZaA ((L2.getD v4 RA.z).a1) ((L2.getD v4 RA.z).a2) ((L2.getD v4 RA.z).a3) ((L2.getD v4 RA.z).a4) ((L2.getD v4 RA.z).a5) ((L2.getD v4 RA.z).a6) ((L2.getD v4 RA.z).a7) (a0) N).bind fun r => match r with
     | .r0 =>
      ((ZaM (v6) ((L2.getD v4 RA.z).a1) ((L2.getD v4 RA.z).a2) ((L2.getD v4 RA.z).a3) ((L2.getD v4 RA.z).a4) ((L2.getD v4 RA.z).a5) ((L2.getD v4 RA.z).a6) ((L2.getD v4 RA.z).a7) N).bind fun r => match r with
      | .r0 =>
       none
      | .r1 =>
       some (.inl (.h2m0 (v4) (([(⟨(L2.getD v4 RA.z).a1, (L2.getD v4 RA.z).a2, (L2.getD v4 RA.z).a3, (L2.getD v4 RA.z).a4, (L2.getD v4 RA.z).a5, (L2.getD v4 RA.z).a6, (L2.getD v4 RA.z).a7⟩ : RB)] : List RB)) (v6) (([(⟨(L2.getD v4 RA.z).a1, (L2.getD v4 RA.z).a2, (L2.getD v4 RA.z).a3, (L2.getD v4 RA.z).a4, (L2.getD v4 RA.z).a5, (L2.getD v4 RA.z).a6, (L2.getD v4 RA.z).a7⟩ : RB)] : List RB)) : Zc))
      )
     | .r1 =>
      none
     )
    else
    if (L2.getD v4 RA.z).a0 = (3 : Int) then
     ((Zb8 (v6) N).bind fun r => match r with
     | .r0 =>
      some (.inl (.h2m1 (v4) (v6) : Zc))
     )
    else
    if (L2.getD v4 RA.z).a0 = (4 : Int) then
     ((Zez ((L2.getD v4 RA.z).a1) ((L2.getD v4 RA.z).a2) ((L2.getD v4 RA.z).a3) (a0) N).bind fun r => match r with
     | .r0 =>
      ((ZdY (v6) ((L2.getD v4 RA.z).a1) ((L2.getD v4 RA.z).a2) ((L2.getD v4 RA.z).a3) N).bind fun r => match r with
      | .r0 =>
       some (.inl (.h2m1 (v4) (v6) : Zc))
      )
     )
    else
    if (L2.getD v4 RA.z).a0 = (5 : Int) then
     some (.inl (.h2m1 (v4) (v6) : Zc))
    else
    if (L2.getD v4 RA.z).a0 = (6 : Int) then
     ((ZcL (a0) N).bind fun r => match r with
     | .r0 =>
      ((ZaA ((0 : Int)) ((0 : Int)) ((77 : Int)) ((0 : Int)) ((0 : Int)) (false) ((0 : Int)) (a0) N).bind fun r => match r with
      | .r0 =>
       some (.inl (.h2m1 (v4) (v6) : Zc))
      | .r1 =>
       some (.inl (.h2m1 (v4) (v6) : Zc))
      )
     | .r1 =>
      some (.inr (.r0 (false) : Zf))
     )
    else
    some (.inl (.h2m1 (v4) (v6) : Zc))
   else
   none
  else
  some (.inr (.r0 (true) : Zf))
 else
 some (.inr (.r0 (true) : Zf))

def Zcr (a0 : Int) (L2 : List RA) (n3 : Nat) (n4 : Nat) (N : Nat) (v4 : Nat) (v6 : List RB) (v7 : Int) (v8 : List RB) : Option (Zc ⊕ Zf) :=
 if (v4 : Int) < (n3 : Int) then
  if (v4 : Int) < (60 : Int) then
   if v4 < L2.length then
    if (L2.getD v4 RA.z).a0 = (1 : Int) then
     ((ZN ((L2.getD v4 RA.z).a1) ((L2.getD v4 RA.z).a2) ((L2.getD v4 RA.z).a3) ((L2.getD v4 RA.z).a4) ((L2.getD v4 RA.z).a5) ((L2.getD v4 RA.z).a6) ((L2.getD v4 RA.z).a7) (a0) (v6) N).bind fun r => match r with
     | .r0 y4_0 =>
      ((Zao (v7) (v8) ((L2.getD v4 RA.z).a1) ((L2.getD v4 RA.z).a2) ((L2.getD v4 RA.z).a3) ((L2.getD v4 RA.z).a4) ((L2.getD v4 RA.z).a5) ((L2.getD v4 RA.z).a6) ((L2.getD v4 RA.z).a7) N).bind fun r => match r with
      | .r0 =>
       if ¬ (y4_0 = (70 : Int)) then
        some (.inr (.r0 (false) : Zf))
       else
       some (.inl (.h2m0 (v4) (v6) (v7) (v8) : Zc))
      | .r1 _ =>
       none
      )
     | .r1 =>
      ((Zao (v7) (v8) ((L2.getD v4 RA.z).a1) ((L2.getD v4 RA.z).a2) ((L2.getD v4 RA.z).a3) ((L2.getD v4 RA.z).a4) ((L2.getD v4 RA.z).a5) ((L2.getD v4 RA.z).a6) ((L2.getD v4 RA.z).a7) N).bind fun r => match r with
      | .r0 =>
       none
      | .r1 y5_0 =>
       some (.inl (.h2m0 (v4) ((v6 ++ ([(⟨(L2.getD v4 RA.z).a1, (L2.getD v4 RA.z).a2, (L2.getD v4 RA.z).a3, (L2.getD v4 RA.z).a4, (L2.getD v4 RA.z).a5, (L2.getD v4 RA.z).a6, (L2.getD v4 RA.z).a7⟩ : RB)] : List RB))) (v7) (y5_0) : Zc))
      )
     )
    else
    if (L2.getD v4 RA.z).a0 = (2 : Int) then
     ((ZN ((L2.getD v4 RA.z).a1) ((L2.getD v4 RA.z).a2) ((L2.getD v4 RA.z).a3) ((L2.getD v4 RA.z).a4) ((L2.getD v4 RA.z).a5) ((L2.getD v4 RA.z).a6) ((L2.getD v4 RA.z).a7) (a0) (v6) N).bind fun r => match r with
     | .r0 y5_0 =>
      ((Zao (v7) (v8) ((L2.getD v4 RA.z).a1) ((L2.getD v4 RA.z).a2) ((L2.getD v4 RA.z).a3) ((L2.getD v4 RA.z).a4) ((L2.getD v4 RA.z).a5) ((L2.getD v4 RA.z).a6) ((L2.getD v4 RA.z).a7) N).bind fun r => match r with
      | .r0 =>
       if ¬ (y5_0 = (70 : Int)) then
        some (.inr (.r0 (false) : Zf))
       else
       some (.inl (.h2m0 (v4) (v6) (v7) (v8) : Zc))
      | .r1 _ =>
       none
      )
     | .r1 =>
      ((Zao (v7) (v8) ((L2.getD v4 RA.z).a1) ((L2.getD v4 RA.z).a2) ((L2.getD v4 RA.z).a3) ((L2.getD v4 RA.z).a4) ((L2.getD v4 RA.z).a5) ((L2.getD v4 RA.z).a6) ((L2.getD v4 RA.z).a7) N).bind fun r => match r with
      | .r0 =>
       none
      | .r1 y6_0 =>
       some (.inl (.h2m0 (v4) ((v6 ++ ([(⟨(L2.getD v4 RA.z).a1, (L2.getD v4 RA.z).a2, (L2.getD v4 RA.z).a3, (L2.getD v4 RA.z).a4, (L2.getD v4 RA.z).a5, (L2.getD v4 RA.z).a6, (L2.getD v4 RA.z).a7⟩ : RB)] : List RB))) (v7) (y6_0) : Zc))
      )
     )
    else
    if (L2.getD v4 RA.z).a0 = (3 : Int) then
     if (0 : Int) < a0 then
      if ((v6.length : Int) - (1 : Int)) ≤ (9223372036854775807 : Int) then
       if (0 : Int) ≤ ((v6.length : Int) - (1 : Int)) then
        ((ZaV (v7) (v8) N).bind fun r => match r with
        | .r0 =>
         some (.inr (.r0 (false) : Zf))
        | .r1 y9_0 =>
         if ¬ ((((v6.getD (((v6.length : Int) - (1 : Int))).toNat RB.z).a0 = (v8.getD (v8.length - 1) RB.z).a0 ∧ (v6.getD (((v6.length : Int) - (1 : Int))).toNat RB.z).a1 = (v8.getD (v8.length - 1) RB.z).a1) ∧ (v6.getD (((v6.length : Int) - (1 : Int))).toNat RB.z).a2 = (v8.getD (v8.length - 1) RB.z).a2 ∧ ((v6.getD (((v6.length : Int) - (1 : Int))).toNat RB.z).a3 = (v8.getD (v8.length - 1) RB.z).a3 ∧ (v6.getD (((v6.length : Int) - (1 : Int))).toNat RB.z).a4 = (v8.getD (v8.length - 1) RB.z).a4) ∧ (v6.getD (((v6.length : Int) - (1 : Int))).toNat RB.z).a5 = (v8.getD (v8.length - 1) RB.z).a5 ∧ (v6.getD (((v6.length : Int) - (1 : Int))).toNat RB.z).a6 = (v8.getD (v8.length - 1) RB.z).a6)) then
          some (.inr (.r0 (false) : Zf))
         else
         some (.inl (.h2m2 (v4) (v6) (((((v6.length : Int) - (1 : Int))).toNat - 0)) ((v6.length - 0)) (v7) (y9_0) : Zc))
        )
       else
       ((ZaV (v7) (v8) N).bind fun r => match r with
       | .r0 =>
        some (.inl (.h2m0 (v4) (v6) (v7) (v8) : Zc))
       | .r1 y9_0 =>
        some (.inr (.r0 (false) : Zf))
       )
      else
      none
     else
     ((ZaV (v7) (v8) N).bind fun r => match r with
     | .r0 =>
      some (.inl (.h2m0 (v4) (v6) (v7) (v8) : Zc))
     | .r1 y7_0 =>
      some (.inr (.r0 (false) : Zf))
     )
    else
    if (L2.getD v4 RA.z).a0 = (4 : Int) then
     ((ZbJ ((L2.getD v4 RA.z).a1) ((L2.getD v4 RA.z).a2) ((L2.getD v4 RA.z).a3) (a0) (v6) N).bind fun r => match r with
     | .r0 y7_0 y7_1 y7_2 =>
      ((ZcN (v7) (v8) ((L2.getD v4 RA.z).a1) ((L2.getD v4 RA.z).a2) ((L2.getD v4 RA.z).a3) N).bind fun r => match r with
      | .r0 y8_0 y8_1 y8_2 =>
       if ¬ ((y7_0 = y8_0 ∧ y7_1 = y8_1)) then
        some (.inr (.r0 (false) : Zf))
       else
       if ¬ (y7_2 = y8_2) then
        some (.inr (.r0 (false) : Zf))
       else
       some (.inl (.h2m0 (v4) (v6) (v7) (v8) : Zc))
      )
     )
    else
    if (L2.getD v4 RA.z).a0 = (5 : Int) then
     if (0 : Int) < a0 then
      if (0 : Int) < (v6.length : Int) then
       if ¬ ((v6.length : Int) = (v8.length : Int)) then
        some (.inr (.r0 (false) : Zf))
       else
       some (.inl (.h2m1 (v4) (v7) : Zc))
      else
      if ¬ ((v6.length : Int) = (v8.length : Int)) then
       some (.inr (.r0 (false) : Zf))
      else
      some (.inl (.h2m3 (v4) (v6) (v7) : Zc))
     else
     if ¬ ((0 : Int) = (v8.length : Int)) then
      some (.inr (.r0 (false) : Zf))
     else
     some (.inl (.h2m3 (v4) (v6) (v7) : Zc))
    else
    if (L2.getD v4 RA.z).a0 = (6 : Int) then
     ((Zbq (a0) (v6) N).bind fun r => match r with
     | .r0 y9_0 =>
      if (0 : Int) < a0 then
       if (0 : Int) < (v6.length : Int) then
        ((ZaA ((0 : Int)) ((0 : Int)) ((77 : Int)) ((0 : Int)) ((0 : Int)) (false) ((0 : Int)) (a0) N).bind fun r => match r with
        | .r0 =>
         some (.inl (.h2m0 (v4) (y9_0) (v7) (v8) : Zc))
        | .r1 =>
         some (.inl (.h2m0 (v4) (y9_0) (v7) (v8) : Zc))
        )
       else
       ((ZN ((0 : Int)) ((0 : Int)) ((77 : Int)) ((0 : Int)) ((0 : Int)) (false) ((0 : Int)) (a0) (v6) N).bind fun r => match r with
       | .r0 y12_0 =>
        some (.inl (.h2m0 (v4) (y9_0) (v7) (v8) : Zc))
       | .r1 =>
        some (.inl (.h2m0 (v4) (y9_0) (v7) (v8) : Zc))
       )
      else
      ((ZN ((0 : Int)) ((0 : Int)) ((77 : Int)) ((0 : Int)) ((0 : Int)) (false) ((0 : Int)) (a0) (v6) N).bind fun r => match r with
      | .r0 y11_0 =>
       some (.inl (.h2m0 (v4) (y9_0) (v7) (v8) : Zc))
      | .r1 =>
       some (.inl (.h2m0 (v4) (y9_0) (v7) (v8) : Zc))
      )
     | .r1 =>
      some (.inr (.r0 (false) : Zf))
     )
    else
    some (.inl (.h2m0 (v4) (v6) (v7) (v8) : Zc))
   else
   none
  else
  some (.inr (.r0 (true) : Zf))
 else
 some (.inr (.r0 (true) : Zf))

def Zcs (a0 : Int) (L2 : List RA) (n3 : Nat) (n4 : Nat) (N : Nat) (v4 : Nat) (v6 : List RB) (v7 : Nat) (v8 : Nat) (v9 : Int) (v10 : List RB) : Option (Zc ⊕ Zf) :=
 if (v4 : Int) < (n3 : Int) then
  if (v4 : Int) < (60 : Int) then
   if v4 < L2.length then
    if (L2.getD v4 RA.z).a0 = (1 : Int) then
     ((Z0 ((L2.getD v4 RA.z).a1) ((L2.getD v4 RA.z).a2) ((L2.getD v4 RA.z).a3) ((L2.getD v4 RA.z).a4) ((L2.getD v4 RA.z).a5) ((L2.getD v4 RA.z).a6) ((L2.getD v4 RA.z).a7) (a0) (v6) (v7) (v8) N).bind fun r => match r with
     | .r0 y4_0 y4_1 y4_2 =>
      ((Zao (v9) (v10) ((L2.getD v4 RA.z).a1) ((L2.getD v4 RA.z).a2) ((L2.getD v4 RA.z).a3) ((L2.getD v4 RA.z).a4) ((L2.getD v4 RA.z).a5) ((L2.getD v4 RA.z).a6) ((L2.getD v4 RA.z).a7) N).bind fun r => match r with
      | .r0 =>
       if ¬ (y4_1 = (70 : Int)) then
        some (.inr (.r0 (false) : Zf))
       else
       some (.inl (.h2m2 (v4) (y4_0) (y4_2) (v8) (v9) (v10) : Zc))
      | .r1 y5_0 =>
       if ¬ (y4_1 = (0 : Int)) then
        some (.inr (.r0 (false) : Zf))
       else
       some (.inl (.h2m2 (v4) (y4_0) (y4_2) (v8) (v9) (y5_0) : Zc))
      )
     | .r1 =>
      ((Zao (v9) (v10) ((L2.getD v4 RA.z).a1) ((L2.getD v4 RA.z).a2) ((L2.getD v4 RA.z).a3) ((L2.getD v4 RA.z).a4) ((L2.getD v4 RA.z).a5) ((L2.getD v4 RA.z).a6) ((L2.getD v4 RA.z).a7) N).bind fun r => match r with
      | .r0 =>
       none
      | .r1 y5_0 =>
       some (.inl (.h2m0 (v4) (((v6.take v7) ++ ([(⟨(L2.getD v4 RA.z).a1, (L2.getD v4 RA.z).a2, (L2.getD v4 RA.z).a3, (L2.getD v4 RA.z).a4, (L2.getD v4 RA.z).a5, (L2.getD v4 RA.z).a6, (L2.getD v4 RA.z).a7⟩ : RB)] : List RB))) (v9) (y5_0) : Zc))
      )
     )
    else
    if (L2.getD v4 RA.z).a0 = (2 : Int) then
     ((Z0 ((L2.getD v4 RA.z).a1) ((L2.getD v4 RA.z).a2) ((L2.getD v4 RA.z).a3) ((L2.getD v4 RA.z).a4) ((L2.getD v4 RA.z).a5) ((L2.getD v4 RA.z).a6) ((L2.getD v4 RA.z).a7) (a0) (v6) (v7) (v8) N).bind fun r => match r with
     | .r0 y5_0 y5_1 y5_2 =>
      ((Zao (v9) (v10) ((L2.getD v4 RA.z).a1) ((L2.getD v4 RA.z).a2) ((L2.getD v4 RA.z).a3) ((L2.getD v4 RA.z).a4) ((L2.getD v4 RA.z).a5) ((L2.getD v4 RA.z).a6) ((L2.getD v4 RA.z).a7) N).bind fun r => match r with
      | .r0 =>
       if ¬ (y5_1 = (70 : Int)) then
        some (.inr (.r0 (false) : Zf))
       else
       some (.inl (.h2m2 (v4) (y5_0) (y5_2) (v8) (v9) (v10) : Zc))
      | .r1 y6_0 =>
       if ¬ (y5_1 = (0 : Int)) then
        some (.inr (.r0 (false) : Zf))
       else
       some (.inl (.h2m2 (v4) (y5_0) (y5_2) (v8) (v9) (y6_0) : Zc))
      )
     | .r1 =>
      ((Zao (v9) (v10) ((L2.getD v4 RA.z).a1) ((L2.getD v4 RA.z).a2) ((L2.getD v4 RA.z).a3) ((L2.getD v4 RA.z).a4) ((L2.getD v4 RA.z).a5) ((L2.getD v4 RA.z).a6) ((L2.getD v4 RA.z).a7) N).bind fun r => match r with
      | .r0 =>
       none
      | .r1 y6_0 =>
       some (.inl (.h2m0 (v4) (((v6.take v7) ++ ([(⟨(L2.getD v4 RA.z).a1, (L2.getD v4 RA.z).a2, (L2.getD v4 RA.z).a3, (L2.getD v4 RA.z).a4, (L2.getD v4 RA.z).a5, (L2.getD v4 RA.z).a6, (L2.getD v4 RA.z).a7⟩ : RB)] : List RB))) (v9) (y6_0) : Zc))
      )
     )
    else
    if (L2.getD v4 RA.z).a0 = (3 : Int) then
     if (0 : Int) < a0 then
      if ((v7 : Int) - (1 : Int)) ≤ (9223372036854775807 : Int) then
       if (0 : Int) ≤ ((v7 : Int) - (1 : Int)) then
        if (((v7 : Int) - (1 : Int))).toNat < v6.length then
         if ((v7 : Int) - (1 : Int)) ≤ (v8 : Int) then
          ((ZaV (v9) (v10) N).bind fun r => match r with
          | .r0 =>
           some (.inr (.r0 (false) : Zf))
          | .r1 y11_0 =>
           if ¬ ((((v6.getD (((v7 : Int) - (1 : Int))).toNat RB.z).a0 = (v10.getD (v10.length - 1) RB.z).a0 ∧ (v6.getD (((v7 : Int) - (1 : Int))).toNat RB.z).a1 = (v10.getD (v10.length - 1) RB.z).a1) ∧ (v6.getD (((v7 : Int) - (1 : Int))).toNat RB.z).a2 = (v10.getD (v10.length - 1) RB.z).a2 ∧ ((v6.getD (((v7 : Int) - (1 : Int))).toNat RB.z).a3 = (v10.getD (v10.length - 1) RB.z).a3 ∧ (v6.getD (((v7 : Int) - (1 : Int))).toNat RB.z).a4 = (v10.getD (v10.length - 1) RB.z).a4) ∧ (v6.getD (((v7 : Int) - (1 : Int))).toNat RB.z).a5 = (v10.getD (v10.length - 1) RB.z).a5 ∧ (v6.getD (((v7 : Int) - (1 : Int))).toNat RB.z).a6 = (v10.getD (v10.length - 1) RB.z).a6)) then
            some (.inr (.r0 (false) : Zf))
           else
           some (.inl (.h2m2 (v4) (v6) (((((v7 : Int) - (1 : Int))).toNat - 0)) ((v8 - 0)) (v9) (y11_0) : Zc))
          )
         else
         none
        else
        none
       else
       ((ZaV (v9) (v10) N).bind fun r => match r with
       | .r0 =>
        some (.inl (.h2m2 (v4) (v6) (v7) (v8) (v9) (v10) : Zc))
       | .r1 y9_0 =>
        some (.inr (.r0 (false) : Zf))
       )
      else
      none
     else
     ((ZaV (v9) (v10) N).bind fun r => match r with
     | .r0 =>
      some (.inl (.h2m2 (v4) (v6) (v7) (v8) (v9) (v10) : Zc))
     | .r1 y7_0 =>
      some (.inr (.r0 (false) : Zf))
     )
    else
    if (L2.getD v4 RA.z).a0 = (4 : Int) then
     ((ZbK ((L2.getD v4 RA.z).a1) ((L2.getD v4 RA.z).a2) ((L2.getD v4 RA.z).a3) (a0) (v6) (v7) (v8) N).bind fun r => match r with
     | .r0 y7_0 y7_1 y7_2 =>
      ((ZcN (v9) (v10) ((L2.getD v4 RA.z).a1) ((L2.getD v4 RA.z).a2) ((L2.getD v4 RA.z).a3) N).bind fun r => match r with
      | .r0 y8_0 y8_1 y8_2 =>
       if ¬ ((y7_0 = y8_0 ∧ y7_1 = y8_1)) then
        some (.inr (.r0 (false) : Zf))
       else
       if ¬ (y7_2 = y8_2) then
        some (.inr (.r0 (false) : Zf))
       else
       some (.inl (.h2m2 (v4) (v6) (v7) (v8) (v9) (v10) : Zc))
      )
     )
    else
    if (L2.getD v4 RA.z).a0 = (5 : Int) then
     if (0 : Int) < a0 then
      if (0 : Int) < (v7 : Int) then
       if ¬ ((v7 : Int) = (v10.length : Int)) then
        some (.inr (.r0 (false) : Zf))
       else
       some (.inl (.h2m1 (v4) (v9) : Zc))
      else
      if ¬ ((v7 : Int) = (v10.length : Int)) then
       some (.inr (.r0 (false) : Zf))
      else
      some (.inl (.h2m4 (v4) (v6) (v7) (v8) (v9) : Zc))
     else
     if ¬ ((0 : Int) = (v10.length : Int)) then
      some (.inr (.r0 (false) : Zf))
     else
     some (.inl (.h2m4 (v4) (v6) (v7) (v8) (v9) : Zc))
    else
    if (L2.getD v4 RA.z).a0 = (6 : Int) then
     ((Zbr (a0) (v6) (v7) (v8) N).bind fun r => match r with
     | .r0 y9_0 =>
      if (0 : Int) < a0 then
       if (0 : Int) < (v7 : Int) then
        ((ZaA ((0 : Int)) ((0 : Int)) ((77 : Int)) ((0 : Int)) ((0 : Int)) (false) ((0 : Int)) (a0) N).bind fun r => match r with
        | .r0 =>
         some (.inl (.h2m0 (v4) (y9_0) (v9) (v10) : Zc))
        | .r1 =>
         some (.inl (.h2m0 (v4) (y9_0) (v9) (v10) : Zc))
        )
       else
       ((Z0 ((0 : Int)) ((0 : Int)) ((77 : Int)) ((0 : Int)) ((0 : Int)) (false) ((0 : Int)) (a0) (v6) (v7) (v8) N).bind fun r => match r with
       | .r0 y12_0 y12_1 y12_2 =>
        some (.inl (.h2m0 (v4) (y9_0) (v9) (v10) : Zc))
       | .r1 =>
        some (.inl (.h2m0 (v4) (y9_0) (v9) (v10) : Zc))
       )
      else
      ((Z0 ((0 : Int)) ((0 : Int)) ((77 : Int)) ((0 : Int)) ((0 : Int)) (false) ((0 : Int)) (a0) (v6) (v7) (v8) N).bind fun r => match r with
      | .r0 y11_0 y11_1 y11_2 =>
       some (.inl (.h2m0 (v4) (y9_0) (v9) (v10) : Zc))
      | .r1 =>
       some (.inl (.h2m0 (v4) (y9_0) (v9) (v10) : Zc))
      )
     | .r1 =>
      some (.inr (.r0 (false) : Zf))
     )
    else
    some (.inl (.h2m2 (v4) (v6) (v7) (v8) (v9) (v10) : Zc))
   else
   none
  else
  some (.inr (.r0 (true) : Zf))
 else
 some (.inr (.r0 (true) : Zf))

def Zct (a0 : Int) (L2 : List RA) (n3 : Nat) (n4 : Nat) (N : Nat) (v4 : Nat) (v6 : List RB) (v7 : Int) : Option (Zc ⊕ Zf) :=
 if (v4 : Int) < (n3 : Int) then
  if (v4 : Int) < (60 : Int) then
   if v4 < L2.length then
    if (L2.getD v4 RA.z).a0 = (1 : Int) then
     ((ZN ((L2.getD v4 RA.z).a1) ((L2.getD v4 RA.z).a2) ((L2.getD v4 RA.z).a3) ((L2.getD v4 RA.z).a4) ((L2.getD v4 RA.z).a5) ((L2.getD v4 RA.z).a6) ((L2.getD v4 RA.z).a7) (a0) (v6) N).bind fun r => match r with
     | .r0 y4_0 =>
      ((ZaM (v7) ((L2.getD v4 RA.z).a1) ((L2.getD v4 RA.z).a2) ((L2.getD v4 RA.z).a3) ((L2.getD v4 RA.z).a4) ((L2.getD v4 RA.z).a5) ((L2.getD v4 RA.z).a6) ((L2.getD v4 RA.z).a7) N).bind fun r => match r with
      | .r0 =>
       if ¬ (y4_0 = (70 : Int)) then
        some (.inr (.r0 (false) : Zf))
       else
       some (.inl (.h2m3 (v4) (v6) (v7) : Zc))
      | .r1 =>
       if ¬ (y4_0 = (0 : Int)) then
        some (.inr (.r0 (false) : Zf))
       else
       some (.inl (.h2m0 (v4) (v6) (v7) (([(⟨(L2.getD v4 RA.z).a1, (L2.getD v4 RA.z).a2, (L2.getD v4 RA.z).a3, (L2.getD v4 RA.z).a4, (L2.getD v4 RA.z).a5, (L2.getD v4 RA.z).a6, (L2.getD v4 RA.z).a7⟩ : RB)] : List RB)) : Zc))
      )
     | .r1 =>
      ((ZaM (v7) ((L2.getD v4 RA.z).a1) ((L2.getD v4 RA.z).a2) ((L2.getD v4 RA.z).a3) ((L2.getD v4 RA.z).a4) ((L2.getD v4 RA.z).a5) ((L2.getD v4 RA.z).a6) ((L2.getD v4 RA.z).a7) N).bind fun r => match r with
      | .r0 =>
       some (.inr (.r0 (false) : Zf))
      | .r1 =>
       some (.inl (.h2m0 (v4) ((v6 ++ ([(⟨(L2.getD v4 RA.z).a1, (L2.getD v4 RA.z).a2, (L2.getD v4 RA.z).a3, (L2.getD v4 RA.z).a4, (L2.getD v4 RA.z).a5, (L2.getD v4 RA.z).a6, (L2.getD v4 RA.z).a7⟩ : RB)] : List RB))) (v7) (([(⟨(L2.getD v4 RA.z).a1, (L2.getD v4 RA.z).a2, (L2.getD v4 RA.z).a3, (L2.getD v4 RA.z).a4, (L2.getD v4 RA.z).a5, (L2.getD v4 RA.z).a6, (L2.getD v4 RA.z).a7⟩ : RB)] : List RB)) : Zc))
      )
     )
    else
    if (L2.getD v4 RA.z).a0 = (2 : Int) then
     ((ZN ((L2.getD v4 RA.z).a1) ((L2.getD v4 RA.z).a2) ((L2.getD v4 RA.z).a3) ((L2.getD v4 RA.z).a4) ((L2.getD v4 RA.z).a5) ((L2.getD v4 RA.z).a6) ((L2.getD v4 RA.z).a7) (a0) (v6) N).bind fun r => match r with
     | .r0 y5_0 =>
      ((ZaM (v7) ((L2.getD v4 RA.z).a1) ((L2.getD v4 RA.z).a2) ((L2.getD v4 RA.z).a3) ((L2.getD v4 RA.z).a4) ((L2.getD v4 RA.z).a5) ((L2.getD v4 RA.z).a6) ((L2.getD v4 RA.z).a7) N).bind fun r => match r with
      | .r0 =>
       if ¬ (y5_0 = (70 : Int)) then
        some (.inr (.r0 (false) : Zf))
       else
       some (.inl (.h2m3 (v4) (v6) (v7) : Zc))
      | .r1 =>
       if ¬ (y5_0 = (0 : Int)) then
        some (.inr (.r0 (false) : Zf))
       else
       some (.inl (.h2m0 (v4) (v6) (v7) (([(⟨(L2.getD v4 RA.z).a1, (L2.getD v4 RA.z).a2, (L2.getD v4 RA.z).a3, (L2.getD v4 RA.z).a4, (L2.getD v4 RA.z).a5, (L2.getD v4 RA.z).a6, (L2.getD v4 RA.z).a7⟩ : RB)] : List RB)) : Zc))
      )
     | .r1 =>
      ((ZaM (v7) ((L2.getD v4 RA.z).a1) ((L2.getD v4 RA.z).a2) ((L2.getD v4 RA.z).a3) ((L2.getD v4 RA.z).a4) ((L2.getD v4 RA.z).a5) ((L2.getD v4 RA.z).a6) ((L2.getD v4 RA.z).a7) N).bind fun r => match r with
      | .r0 =>
       some (.inr (.r0 (false) : Zf))
      | .r1 =>
       some (.inl (.h2m0 (v4) ((v6 ++ ([(⟨(L2.getD v4 RA.z).a1, (L2.getD v4 RA.z).a2, (L2.getD v4 RA.z).a3, (L2.getD v4 RA.z).a4, (L2.getD v4 RA.z).a5, (L2.getD v4 RA.z).a6, (L2.getD v4 RA.z).a7⟩ : RB)] : List RB))) (v7) (([(⟨(L2.getD v4 RA.z).a1, (L2.getD v4 RA.z).a2, (L2.getD v4 RA.z).a3, (L2.getD v4 RA.z).a4, (L2.getD v4 RA.z).a5, (L2.getD v4 RA.z).a6, (L2.getD v4 RA.z).a7⟩ : RB)] : List RB)) : Zc))
      )
     )
    else
    if (L2.getD v4 RA.z).a0 = (3 : Int) then
     if (0 : Int) < a0 then
      if ((v6.length : Int) - (1 : Int)) ≤ (9223372036854775807 : Int) then
       if (0 : Int) ≤ ((v6.length : Int) - (1 : Int)) then
        ((Zb8 (v7) N).bind fun r => match r with
        | .r0 =>
         some (.inr (.r0 (false) : Zf))
        )
       else
       ((Zb8 (v7) N).bind fun r => match r with
       | .r0 =>
        some (.inl (.h2m3 (v4) (v6) (v7) : Zc))
       )
      else
      none
     else
     ((Zb8 (v7) N).bind fun r => match r with
     | .r0 =>
      some (.inl (.h2m3 (v4) (v6) (v7) : Zc))
     )
    else
    if (L2.getD v4 RA.z).a0 = (4 : Int) then
     ((ZbJ ((L2.getD v4 RA.z).a1) ((L2.getD v4 RA.z).a2) ((L2.getD v4 RA.z).a3) (a0) (v6) N).bind fun r => match r with
     | .r0 y7_0 y7_1 y7_2 =>
      ((ZdY (v7) ((L2.getD v4 RA.z).a1) ((L2.getD v4 RA.z).a2) ((L2.getD v4 RA.z).a3) N).bind fun r => match r with
      | .r0 =>
       if ¬ ((y7_0 = (0 : Int) ∧ y7_1 = (0 : Int))) then
        some (.inr (.r0 (false) : Zf))
       else
       if ¬ (y7_2 = false) then
        some (.inr (.r0 (false) : Zf))
       else
       some (.inl (.h2m3 (v4) (v6) (v7) : Zc))
      )
     )
    else
    if (L2.getD v4 RA.z).a0 = (5 : Int) then
     if (0 : Int) < a0 then
      if (0 : Int) < (v6.length : Int) then
       some (.inr (.r0 (false) : Zf))
      else
      some (.inl (.h2m3 (v4) (v6) (v7) : Zc))
     else
     some (.inl (.h2m3 (v4) (v6) (v7) : Zc))
    else
    if (L2.getD v4 RA.z).a0 = (6 : Int) then
     ((Zbq (a0) (v6) N).bind fun r => match r with
     | .r0 y9_0 =>
      if (0 : Int) < a0 then
       if (0 : Int) < (v6.length : Int) then
        ((ZaA ((0 : Int)) ((0 : Int)) ((77 : Int)) ((0 : Int)) ((0 : Int)) (false) ((0 : Int)) (a0) N).bind fun r => match r with
        | .r0 =>
         some (.inl (.h2m3 (v4) (y9_0) (v7) : Zc))
        | .r1 =>
         some (.inl (.h2m3 (v4) (y9_0) (v7) : Zc))
        )
       else
       ((ZN ((0 : Int)) ((0 : Int)) ((77 : Int)) ((0 : Int)) ((0 : Int)) (false) ((0 : Int)) (a0) (v6) N).bind fun r => match r with
       | .r0 y12_0 =>
        some (.inl (.h2m3 (v4) (y9_0) (v7) : Zc))
       | .r1 =>
        some (.inl (.h2m3 (v4) (y9_0) (v7) : Zc))
       )
      else
      ((ZN ((0 : Int)) ((0 : Int)) ((77 : Int)) ((0 : Int)) ((0 : Int)) (false) ((0 : Int)) (a0) (v6) N).bind fun r => match r with
      | .r0 y11_0 =>
       some (.inl (.h2m3 (v4) (y9_0) (v7) : Zc))
      | .r1 =>
       some (.inl (.h2m3 (v4) (y9_0) (v7) : Zc))
      )
     | .r1 =>
      some (.inr (.r0 (false) : Zf))
     )
    else
    some (.inl (.h2m3 (v4) (v6) (v7) : Zc))
   else
   none
  else
  some (.inr (.r0 (true) : Zf))
 else
 some (.inr (.r0 (true) : Zf))

def Zcu (a0 : Int) (L2 : List RA) (n3 : Nat) (n4 : Nat) (N : Nat) (v4 : Nat) (v6 : List RB) (v7 : Nat) (v8 : Nat) (v9 : Int) : Option (Zc ⊕ Zf) :=
 if (v4 : Int) < (n3 : Int) then
  if (v4 : Int) < (60 : Int) then
   if v4 < L2.length then
    if (L2.getD v4 RA.z).a0 = (1 : Int) then
     ((Z0 ((L2.getD v4 RA.z).a1) ((L2.getD v4 RA.z).a2) ((L2.getD v4 RA.z).a3) ((L2.getD v4 RA.z).a4) ((L2.getD v4 RA.z).a5) ((L2.getD v4 RA.z).a6) ((L2.getD v4 RA.z).a7) (a0) (v6) (v7) (v8) N).bind fun r => match r with
     | .r0 y4_0 y4_1 y4_2 =>
      ((ZaM (v9) ((L2.getD v4 RA.z).a1) ((L2.getD v4 RA.z).a2) ((L2.getD v4 RA.z).a3) ((L2.getD v4 RA.z).a4) ((L2.getD v4 RA.z).a5) ((L2.getD v4 RA.z).a6) ((L2.getD v4 RA.z).a7) N).bind fun r => match r with
      | .r0 =>
       if ¬ (y4_1 = (70 : Int)) then
        some (.inr (.r0 (false) : Zf))
       else
       some (.inl (.h2m4 (v4) (y4_0) (y4_2) (v8) (v9) : Zc))
      | .r1 =>
       if ¬ (y4_1 = (0 : Int)) then
        some (.inr (.r0 (false) : Zf))
       else
       some (.inl (.h2m2 (v4) (y4_0) (y4_2) (v8) (v9) (([(⟨(L2.getD v4 RA.z).a1, (L2.getD v4 RA.z).a2, (L2.getD v4 RA.z).a3, (L2.getD v4 RA.z).a4, (L2.getD v4 RA.z).a5, (L2.getD v4 RA.z).a6, (L2.getD v4 RA.z).a7⟩ : RB)] : List RB)) : Zc))
      )
     | .r1 =>
      ((ZaM (v9) ((L2.getD v4 RA.z).a1) ((L2.getD v4 RA.z).a2) ((L2.getD v4 RA.z).a3) ((L2.getD v4 RA.z).a4) ((L2.getD v4 RA.z).a5) ((L2.getD v4 RA.z).a6) ((L2.getD v4 RA.z).a7) N).bind fun r => match r with
      | .r0 =>
       some (.inr (.r0 (false) : Zf))
      | .r1 =>
       some (.inl (.h2m0 (v4) (((v6.take v7) ++ ([(⟨(L2.getD v4 RA.z).a1, (L2.getD v4 RA.z).a2, (L2.getD v4 RA.z).a3, (L2.getD v4 RA.z).a4, (L2.getD v4 RA.z).a5, (L2.getD v4 RA.z).a6, (L2.getD v4 RA.z).a7⟩ : RB)] : List RB))) (v9) (([(⟨(L2.getD v4 RA.z).a1, (L2.getD v4 RA.z).a2, (L2.getD v4 RA.z).a3, (L2.getD v4 RA.z).a4, (L2.getD v4 RA.z).a5, (L2.getD v4 RA.z).a6, (L2.getD v4 RA.z).a7⟩ : RB)] : List RB)) : Zc))
      )
     )
    else
    if (L2.getD v4 RA.z).a0 = (2 : Int) then
     ((Z0 ((L2.getD v4 RA.z).a1) ((L2.getD v4 RA.z).a2) ((L2.getD v4 RA.z).a3) ((L2.getD v4 RA.z).a4) ((L2.getD v4 RA.z).a5) ((L2.getD v4 RA.z).a6) ((L2.getD v4 RA.z).a7) (a0) (v6) (v7) (v8) N).bind fun r => match r with
     | .r0 y5_0 y5_1 y5_2 =>
      ((ZaM (v9) ((L2.getD v4 RA.z).a1) ((L2.getD v4 RA.z).a2) ((L2.getD v4 RA.z).a3) ((L2.getD v4 RA.z).a4) ((L2.getD v4 RA.z).a5) ((L2.getD v4 RA.z).a6) ((L2.getD v4 RA.z).a7) N).bind fun r => match r with
      | .r0 =>
       if ¬ (y5_1 = (70 : Int)) then
        some (.inr (.r0 (false) : Zf))
       else
       some (.inl (.h2m4 (v4) (y5_0) (y5_2) (v8) (v9) : Zc))
      | .r1 =>
       if ¬ (y5_1 = (0 : Int)) then
        some (.inr (.r0 (false) : Zf))
       else
       some (.inl (.h2m2 (v4) (y5_0) (y5_2) (v8) (v9) (([(⟨(L2.getD v4 RA.z).a1, (L2.getD v4 RA.z).a2, (L2.getD v4 RA.z).a3, (L2.getD v4 RA.z).a4, (L2.getD v4 RA.z).a5, (L2.getD v4 RA.z).a6, (L2.getD v4 RA.z).a7⟩ : RB)] : List RB)) : Zc))
      )
     | .r1 =>
      ((ZaM (v9) ((L2.getD v4 RA.z).a1) ((L2.getD v4 RA.z).a2) ((L2.getD v4 RA.z).a3) ((L2.getD v4 RA.z).a4) ((L2.getD v4 RA.z).a5) ((L2.getD v4 RA.z).a6) ((L2.getD v4 RA.z).a7) N).bind fun r => match r with
      | .r0 =>
       some (.inr (.r0 (false) : Zf))
      | .r1 =>
       some (.inl (.h2m0 (v4) (((v6.take v7) ++ ([(⟨(L2.getD v4 RA.z).a1, (L2.getD v4 RA.z).a2, (L2.getD v4 RA.z).a3, (L2.getD v4 RA.z).a4, (L2.getD v4 RA.z).a5, (L2.getD v4 RA.z).a6, (L2.getD v4 RA.z).a7⟩ : RB)] : List RB))) (v9) (([(⟨(L2.getD v4 RA.z).a1, (L2.getD v4 RA.z).a2, (L2.getD v4 RA.z).a3, (L2.getD v4 RA.z).a4, (L2.getD v4 RA.z).a5, (L2.getD v4 RA.z).a6, (L2.getD v4 RA.z).a7⟩ : RB)] : List RB)) : Zc))
      )
     )
    else
    if (L2.getD v4 RA.z).a0 = (3 : Int) then
     if (0 : Int) < a0 then
      if ((v7 : Int) - (1 : Int)) ≤ (9223372036854775807 : Int) then
       if (0 : Int) ≤ ((v7 : Int) - (1 : Int)) then
        if (((v7 : Int) - (1 : Int))).toNat < v6.length then
         if ((v7 : Int) - (1 : Int)) ≤ (v8 : Int) then
          ((Zb8 (v9) N).bind fun r => match r with
          | .r0 =>
           some (.inr (.r0 (false) : Zf))
          )
         else
         none
        else
        none
       else
       ((Zb8 (v9) N).bind fun r => match r with
       | .r0 =>
        some (.inl (.h2m4 (v4) (v6) (v7) (v8) (v9) : Zc))
       )
      else
      none
     else
     ((Zb8 (v9) N).bind fun r => match r with
     | .r0 =>
      some (.inl (.h2m4 (v4) (v6) (v7) (v8) (v9) : Zc))
     )
    else
    if (L2.getD v4 RA.z).a0 = (4 : Int) then
     ((ZbK ((L2.getD v4 RA.z).a1) ((L2.getD v4 RA.z).a2) ((L2.getD v4 RA.z).a3) (a0) (v6) (v7) (v8) N).bind fun r => match r with
     | .r0 y7_0 y7_1 y7_2 =>
      ((ZdY (v9) ((L2.getD v4 RA.z).a1) ((L2.getD v4 RA.z).a2) ((L2.getD v4 RA.z).a3) N).bind fun r => match r with
      | .r0 =>
       if ¬ ((y7_0 = (0 : Int) ∧ y7_1 = (0 : Int))) then
        some (.inr (.r0 (false) : Zf))
       else
       if ¬ (y7_2 = false) then
        some (.inr (.r0 (false) : Zf))
       else
       some (.inl (.h2m4 (v4) (v6) (v7) (v8) (v9) : Zc))
      )
     )
    else
    if (L2.getD v4 RA.z).a0 = (5 : Int) then
     if (0 : Int) < a0 then
      if (0 : Int) < (v7 : Int) then
       some (.inr (.r0 (false) : Zf))
      else
      some (.inl (.h2m4 (v4) (v6) (v7) (v8) (v9) : Zc))
     else
     some (.inl (.h2m4 (v4) (v6) (v7) (v8) (v9) : Zc))
    else
    if (L2.getD v4 RA.z).a0 = (6 : Int) then
     ((Zbr (a0) (v6) (v7) (v8) N).bind fun r => match r with
     | .r0 y9_0 =>
      if (0 : Int) < a0 then
       if (0 : Int) < (v7 : Int) then
        ((ZaA ((0 : Int)) ((0 : Int)) ((77 : Int)) ((0 : Int)) ((0 : Int)) (false) ((0 : Int)) (a0) N).bind fun r => match r with
        | .r0 =>
         some (.inl (.h2m3 (v4) (y9_0) (v9) : Zc))
        | .r1 =>
         some (.inl (.h2m3 (v4) (y9_0) (v9) : Zc))
        )
       else
       ((Z0 ((0 : Int)) ((0 : Int)) ((77 : Int)) ((0 : Int)) ((0 : Int)) (false) ((0 : Int)) (a0) (v6) (v7) (v8) N).bind fun r => match r with
       | .r0 y12_0 y12_1 y12_2 =>
        some (.inl (.h2m3 (v4) (y9_0) (v9) : Zc))
       | .r1 =>
        some (.inl (.h2m3 (v4) (y9_0) (v9) : Zc))
       )
      else
      ((Z0 ((0 : Int)) ((0 : Int)) ((77 : Int)) ((0 : Int)) ((0 : Int)) (false) ((0 : Int)) (a0) (v6) (v7) (v8) N).bind fun r => match r with
      | .r0 y11_0 y11_1 y11_2 =>
       some (.inl (.h2m3 (v4) (y9_0) (v9) : Zc))
      | .r1 =>
       some (.inl (.h2m3 (v4) (y9_0) (v9) : Zc))
      )
     | .r1 =>
      some (.inr (.r0 (false) : Zf))
     )
    else
    some (.inl (.h2m4 (v4) (v6) (v7) (v8) (v9) : Zc))
   else
   none
  else
  some (.inr (.r0 (true) : Zf))
 else
 some (.inr (.r0 (true) : Zf))

def Zbj (a0 : Int) (L2 : List RA) (n3 : Nat) (n4 : Nat) (N : Nat) (v4 : Nat) (v6 : List RB) (v7 : Int) (v8 : List RB) : Option (Zc ⊕ Zf) :=
 if (0 : Int) < a0 then
  if v6.length = 0 then
   ((ZcM (([] : List RB)) (v8) N).bind fun r => match r with
   | .r0 y2_0 =>
    if ¬ (y2_0 = true) then
     some (.inr (.r0 (false) : Zf))
    else
    if ¬ ((v6.length : Int) = (v8.length : Int)) then
     some (.inr (.r0 (false) : Zf))
    else
    if v7 < (0 : Int) then
     some (.inr (.r0 (false) : Zf))
    else
    some (.inl (.h3m0 (v4) (([] : List RB)) (0) (v6) (v7) (v8) : Zc))
   )
  else
  if v6.length ≤ 100000 then
   ((ZcM (v6) (v8) N).bind fun r => match r with
   | .r0 y3_0 =>
    if ¬ (y3_0 = true) then
     some (.inr (.r0 (false) : Zf))
    else
    if ¬ ((v6.length : Int) = (v8.length : Int)) then
     some (.inr (.r0 (false) : Zf))
    else
    if v7 < (((0 + v6.length) : Nat) : Int) then
     some (.inr (.r0 (false) : Zf))
    else
    some (.inl (.h3m0 (v4) (v6) (0) (v6) (v7) (v8) : Zc))
   )
  else
  none
 else
 ((Zeh (v8) N).bind fun r => match r with
 | .r0 y1_0 =>
  if ¬ (y1_0 = true) then
   some (.inr (.r0 (false) : Zf))
  else
  if ¬ ((0 : Int) = (v8.length : Int)) then
   some (.inr (.r0 (false) : Zf))
  else
  if v7 < (0 : Int) then
   some (.inr (.r0 (false) : Zf))
  else
  some (.inl (.h3m2 (v4) (v6) (v7) (v8) : Zc))
 )

def Zcv (a0 : Int) (L2 : List RA) (n3 : Nat) (n4 : Nat) (N : Nat) (v4 : Nat) (v6 : Int) : Option (Zc ⊕ Zf) :=
 ((ZcE N).bind fun r => match r with
 | .r0 =>
  if v6 < (0 : Int) then
   some (.inr (.r0 (false) : Zf))
  else
  some (.inl (.h3m1 (v4) (v6) : Zc))
 )

def Zbk (a0 : Int) (L2 : List RA) (n3 : Nat) (n4 : Nat) (N : Nat) (v4 : Nat) (v6 : List RB) (v7 : Nat) (v8 : Nat) (v9 : Int) (v10 : List RB) : Option (Zc ⊕ Zf) :=
 if (0 : Int) < a0 then
  if v7 = 0 then
   ((ZcM (([] : List RB)) (v10) N).bind fun r => match r with
   | .r0 y2_0 =>
    if ¬ (y2_0 = true) then
     some (.inr (.r0 (false) : Zf))
    else
    if ¬ ((v7 : Int) = (v10.length : Int)) then
     some (.inr (.r0 (false) : Zf))
    else
    if v9 < (0 : Int) then
     some (.inr (.r0 (false) : Zf))
    else
    some (.inl (.h3m4 (v4) (([] : List RB)) (0) (v6) (v7) (v8) (v9) (v10) : Zc))
   )
  else
  if v7 ≤ 100000 then
   if v7 ≤ v6.length then
    ((ZcM ((v6.take v7)) (v10) N).bind fun r => match r with
    | .r0 y4_0 =>
     if ¬ (y4_0 = true) then
      some (.inr (.r0 (false) : Zf))
     else
     if ¬ ((v7 : Int) = (v10.length : Int)) then
      some (.inr (.r0 (false) : Zf))
     else
     if v9 < (((0 + v7) : Nat) : Int) then
      some (.inr (.r0 (false) : Zf))
     else
     some (.inl (.h3m4 (v4) ((v6.take v7)) (0) (v6) (v7) (v8) (v9) (v10) : Zc))
    )
   else
   none
  else
  none
 else
 ((Zeh (v10) N).bind fun r => match r with
 | .r0 y1_0 =>
  if ¬ (y1_0 = true) then
   some (.inr (.r0 (false) : Zf))
  else
  if ¬ ((0 : Int) = (v10.length : Int)) then
   some (.inr (.r0 (false) : Zf))
  else
  if v9 < (0 : Int) then
   some (.inr (.r0 (false) : Zf))
  else
  some (.inl (.h3m3 (v4) (v6) (v7) (v8) (v9) (v10) : Zc))
 )

def Zcw (a0 : Int) (L2 : List RA) (n3 : Nat) (n4 : Nat) (N : Nat) (v4 : Nat) (v6 : List RB) (v7 : Int) : Option (Zc ⊕ Zf) :=
 if (0 : Int) < a0 then
  if v6.length = 0 then
   ((Zcf (([] : List RB)) N).bind fun r => match r with
   | .r0 y2_0 =>
    if ¬ (y2_0 = true) then
     some (.inr (.r0 (false) : Zf))
    else
    if v7 < (0 : Int) then
     some (.inr (.r0 (false) : Zf))
    else
    some (.inl (.h3m5 (v4) (v6) (v7) : Zc))
   )
  else
  if v6.length ≤ 100000 then
   ((Zcf (v6) N).bind fun r => match r with
   | .r0 y3_0 =>
    some (.inr (.r0 (false) : Zf))
   )
  else
  none
 else
 ((ZcE N).bind fun r => match r with
 | .r0 =>
  if v7 < (0 : Int) then
   some (.inr (.r0 (false) : Zf))
  else
  some (.inl (.h3m6 (v4) (v6) (v7) : Zc))
 )

def Zcx (a0 : Int) (L2 : List RA) (n3 : Nat) (n4 : Nat) (N : Nat) (v4 : Nat) (v6 : List RB) (v7 : Nat) (v8 : Nat) (v9 : Int) : Option (Zc ⊕ Zf) :=
 if (0 : Int) < a0 then
  if v7 = 0 then
   ((Zcf (([] : List RB)) N).bind fun r => match r with
   | .r0 y2_0 =>
    if ¬ (y2_0 = true) then
     some (.inr (.r0 (false) : Zf))
    else
    if v9 < (0 : Int) then
     some (.inr (.r0 (false) : Zf))
    else
    some (.inl (.h3m8 (v4) (v6) (v7) (v8) (v9) : Zc))
   )
  else
  if v7 ≤ 100000 then
   if v7 ≤ v6.length then
    ((Zcf ((v6.take v7)) N).bind fun r => match r with
    | .r0 y4_0 =>
     some (.inr (.r0 (false) : Zf))
    )
   else
   none
  else
  none
 else
 ((ZcE N).bind fun r => match r with
 | .r0 =>
  if v9 < (0 : Int) then
   some (.inr (.r0 (false) : Zf))
  else
  some (.inl (.h3m7 (v4) (v6) (v7) (v8) (v9) : Zc))
 )

def Zbl (a0 : Int) (L2 : List RA) (n3 : Nat) (n4 : Nat) (N : Nat) (v4 : Nat) (v5 : List RB) (v6 : Nat) (v8 : List RB) (v9 : Int) (v10 : List RB) : Option (Zc ⊕ Zf) :=
 if (v6 : Int) < (v5.length : Int) then
  if (((v6 + 1) : Nat) : Int) ≤ (9223372036854775807 : Int) then
   some (.inl (.h3m0 (v4) ((v5.set v6 (⟨(v5.getD v6 RB.z).a0, (v5.getD v6 RB.z).a1, (99 : Int), (v5.getD v6 RB.z).a3, (v5.getD v6 RB.z).a4, (v5.getD v6 RB.z).a5, (v5.getD v6 RB.z).a6⟩ : RB))) ((v6 + 1)) (v8) (v9) (v10) : Zc))
  else
  none
 else
 if (((v4 + 1) : Nat) : Int) ≤ (9223372036854775807 : Int) then
  some (.inl (.h1m2 ((v4 + 1)) (v8) (v9) (v10) : Zc))
 else
 none

def Zcy (a0 : Int) (L2 : List RA) (n3 : Nat) (n4 : Nat) (N : Nat) (v4 : Nat) (v7 : Int) : Option (Zc ⊕ Zf) :=
 if (((v4 + 1) : Nat) : Int) ≤ (9223372036854775807 : Int) then
  some (.inl (.h1m1 ((v4 + 1)) (v7) : Zc))
 else
 none

def Zea (a0 : Int) (L2 : List RA) (n3 : Nat) (n4 : Nat) (N : Nat) (v4 : Nat) (v7 : List RB) (v8 : Int) (v9 : List RB) : Option (Zc ⊕ Zf) :=
 if (((v4 + 1) : Nat) : Int) ≤ (9223372036854775807 : Int) then
  some (.inl (.h1m2 ((v4 + 1)) (v7) (v8) (v9) : Zc))
 else
 none

def Zeb (a0 : Int) (L2 : List RA) (n3 : Nat) (n4 : Nat) (N : Nat) (v4 : Nat) (v7 : List RB) (v8 : Nat) (v9 : Nat) (v10 : Int) (v11 : List RB) : Option (Zc ⊕ Zf) :=
 if (((v4 + 1) : Nat) : Int) ≤ (9223372036854775807 : Int) then
  some (.inl (.h1m3 ((v4 + 1)) (v7) (v8) (v9) (v10) (v11) : Zc))
 else
 none

def Zbm (a0 : Int) (L2 : List RA) (n3 : Nat) (n4 : Nat) (N : Nat) (v4 : Nat) (v5 : List RB) (v6 : Nat) (v8 : List RB) (v9 : Nat) (v10 : Nat) (v11 : Int) (v12 : List RB) : Option (Zc ⊕ Zf) :=
 if (v6 : Int) < (v5.length : Int) then
  if (((v6 + 1) : Nat) : Int) ≤ (9223372036854775807 : Int) then
   some (.inl (.h3m4 (v4) ((v5.set v6 (⟨(v5.getD v6 RB.z).a0, (v5.getD v6 RB.z).a1, (99 : Int), (v5.getD v6 RB.z).a3, (v5.getD v6 RB.z).a4, (v5.getD v6 RB.z).a5, (v5.getD v6 RB.z).a6⟩ : RB))) ((v6 + 1)) (v8) (v9) (v10) (v11) (v12) : Zc))
  else
  none
 else
 if (((v4 + 1) : Nat) : Int) ≤ (9223372036854775807 : Int) then
  some (.inl (.h1m3 ((v4 + 1)) (v8) (v9) (v10) (v11) (v12) : Zc))
 else
 none

def Zcz (a0 : Int) (L2 : List RA) (n3 : Nat) (n4 : Nat) (N : Nat) (v4 : Nat) (v8 : List RB) (v9 : Int) : Option (Zc ⊕ Zf) :=
 if (((v4 + 1) : Nat) : Int) ≤ (9223372036854775807 : Int) then
  some (.inl (.h1m4 ((v4 + 1)) (v8) (v9) : Zc))
 else
 none

def Zec (a0 : Int) (L2 : List RA) (n3 : Nat) (n4 : Nat) (N : Nat) (v4 : Nat) (v7 : List RB) (v8 : Int) : Option (Zc ⊕ Zf) :=
 if (((v4 + 1) : Nat) : Int) ≤ (9223372036854775807 : Int) then
  some (.inl (.h1m4 ((v4 + 1)) (v7) (v8) : Zc))
 else
 none

def Zed (a0 : Int) (L2 : List RA) (n3 : Nat) (n4 : Nat) (N : Nat) (v4 : Nat) (v7 : List RB) (v8 : Nat) (v9 : Nat) (v10 : Int) : Option (Zc ⊕ Zf) :=
 if (((v4 + 1) : Nat) : Int) ≤ (9223372036854775807 : Int) then
  some (.inl (.h1m5 ((v4 + 1)) (v7) (v8) (v9) (v10) : Zc))
 else
 none

def Zc0 (a0 : Int) (L2 : List RA) (n3 : Nat) (n4 : Nat) (N : Nat) (v4 : Nat) (v8 : List RB) (v9 : Nat) (v10 : Nat) (v11 : Int) : Option (Zc ⊕ Zf) :=
 if (((v4 + 1) : Nat) : Int) ≤ (9223372036854775807 : Int) then
  some (.inl (.h1m5 ((v4 + 1)) (v8) (v9) (v10) (v11) : Zc))
 else
 none

def Zt (a0 : Int) (L2 : List RA) (n3 : Nat) (n4 : Nat) (N : Nat) : Zc → Option (Zc ⊕ Zf)
 | .h1m0 v5 => ZdZ a0 L2 n3 n4 N v5
 | .h1m1 v4 v6 => Zcq a0 L2 n3 n4 N v4 v6
 | .h1m2 v4 v6 v7 v8 => Zcr a0 L2 n3 n4 N v4 v6 v7 v8
 | .h1m3 v4 v6 v7 v8 v9 v10 => Zcs a0 L2 n3 n4 N v4 v6 v7 v8 v9 v10
 | .h1m4 v4 v6 v7 => Zct a0 L2 n3 n4 N v4 v6 v7
 | .h1m5 v4 v6 v7 v8 v9 => Zcu a0 L2 n3 n4 N v4 v6 v7 v8 v9
 | .h2m0 v4 v6 v7 v8 => Zbj a0 L2 n3 n4 N v4 v6 v7 v8
 | .h2m1 v4 v6 => Zcv a0 L2 n3 n4 N v4 v6
 | .h2m2 v4 v6 v7 v8 v9 v10 => Zbk a0 L2 n3 n4 N v4 v6 v7 v8 v9 v10
 | .h2m3 v4 v6 v7 => Zcw a0 L2 n3 n4 N v4 v6 v7
 | .h2m4 v4 v6 v7 v8 v9 => Zcx a0 L2 n3 n4 N v4 v6 v7 v8 v9
 | .h3m0 v4 v5 v6 v8 v9 v10 => Zbl a0 L2 n3 n4 N v4 v5 v6 v8 v9 v10
 | .h3m1 v4 v7 => Zcy a0 L2 n3 n4 N v4 v7
 | .h3m2 v4 v7 v8 v9 => Zea a0 L2 n3 n4 N v4 v7 v8 v9
 | .h3m3 v4 v7 v8 v9 v10 v11 => Zeb a0 L2 n3 n4 N v4 v7 v8 v9 v10 v11
 | .h3m4 v4 v5 v6 v8 v9 v10 v11 v12 => Zbm a0 L2 n3 n4 N v4 v5 v6 v8 v9 v10 v11 v12
 | .h3m5 v4 v8 v9 => Zcz a0 L2 n3 n4 N v4 v8 v9
 | .h3m6 v4 v7 v8 => Zec a0 L2 n3 n4 N v4 v7 v8
 | .h3m7 v4 v7 v8 v9 v10 => Zed a0 L2 n3 n4 N v4 v7 v8 v9 v10
 | .h3m8 v4 v8 v9 v10 v11 => Zc0 a0 L2 n3 n4 N v4 v8 v9 v10 v11

def Zdh (a0 : Int) (L2 : List RA) (n3 : Nat) (n4 : Nat) (N : Nat) : Option (Zc ⊕ Zf) :=
 ((ZbI (a0) N).bind fun r => match r with
 | .r0 =>
  ((Zbd (a0) N).bind fun r => match r with
  | .r0 y1_0 y1_1 =>
   if ¬ ((1 : Int) = y1_1) then
    some (.inr (.r0 (false) : Zf))
   else
   some (.inl (.h1m0 (y1_0) : Zc))
  )
 | .r1 =>
  ((Zbd (a0) N).bind fun r => match r with
  | .r0 y1_0 y1_1 =>
   if ¬ ((0 : Int) = y1_1) then
    some (.inr (.r0 (false) : Zf))
   else
   some (.inl (.h1m1 (0) (y1_0) : Zc))
  )
 )

def Zhw (a0 : Int) (L2 : List RA) (n3 : Nat) (n4 : Nat) (N : Nat) : Option Zf := goM (Zt a0 L2 n3 n4 N) N (Zdh a0 L2 n3 n4 N)

inductive ZA where
 | r0 (w0 : Bool)

inductive Z7 where
 | h1m0 (v1 : Int)
 | h1m1 (v2 : Int)

def ZdB (a0 : Int) (N : Nat) (v1 : Int) : Option (Z7 ⊕ ZA) :=
 some (.inr (.r0 (true) : ZA))

def ZdC (a0 : Int) (N : Nat) (v2 : Int) : Option (Z7 ⊕ ZA) :=
 some (.inr (.r0 (true) : ZA))

def Zcg (a0 : Int) (N : Nat) : Z7 → Option (Z7 ⊕ ZA)
 | .h1m0 v1 => ZdB a0 N v1
 | .h1m1 v2 => ZdC a0 N v2

def ZcA (a0 : Int) (N : Nat) : Option (Z7 ⊕ ZA) :=
 ((ZbI (a0) N).bind fun r => match r with
 | .r0 =>
  ((Zbd (a0) N).bind fun r => match r with
  | .r0 y1_0 y1_1 =>
   if ¬ ((1 : Int) = y1_1) then
    some (.inr (.r0 (false) : ZA))
   else
   some (.inl (.h1m0 (y1_0) : Z7))
  )
 | .r1 =>
  ((Zbd (a0) N).bind fun r => match r with
  | .r0 y1_0 y1_1 =>
   if ¬ ((0 : Int) = y1_1) then
    some (.inr (.r0 (false) : ZA))
   else
   some (.inl (.h1m1 (y1_0) : Z7))
  )
 )

def Zg2 (a0 : Int) (N : Nat) : Option ZA := goM (Zcg a0 N) N (ZcA a0 N)
end Ev
end Go.Proofs.Ytgnmjjakmeomiaa
