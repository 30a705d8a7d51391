/- Part 4. -/
import Derived.Test.YtmcgcapkldpjlaaZac
/- Records, and the program's functions as plain ones. -/
namespace Go.Proofs.Ytmcgcapkldpjlaa
open Go.RowKit
namespace Ev
set_option linter.unusedVariables false
structure R_ii where
 a0 : Int
 a1 : Int
def R_ii.z : R_ii := ⟨0, 0⟩
structure RA where
 a0 : Int
 a1 : Int
 a2 : Int
def RA.z : RA := ⟨0, 0, 0⟩
structure R_iiiiiiiA where
 a0 : Int
 a1 : Int
 a2 : Int
 a3 : Int
 a4 : Int
 a5 : Int
 a6 : Int
 a7 : List R_ii
def R_iiiiiiiA.z : R_iiiiiiiA := ⟨0, 0, 0, 0, 0, 0, 0, []⟩
def Zav (L : List RA) (k l : Int) : Bool := L.any fun x => k == x.a0 && l == x.a1
def Za5 (L : List RA) (k l : Int) : Int := match L.find? (fun x => k == x.a0 && l == x.a1) with | some x => x.a2 | none => 0
def ZC : List RA → Int → Int → Int → List RA
 | [], k, l, v => [⟨k, l, v⟩]
 | x :: L, k, l, v => if (k == x.a0 && l == x.a1) = true then ⟨k, l, v⟩ :: L else x :: ZC L k l v
inductive Zbp where
 | r0
 | r1 (w0 : List R_iiiiiiiA)

inductive Zag where
 | h1m0
 | h1m1 (v1 : List R_iiiiiiiA) (v2 : Nat)

def ZbF (L0 : List R_iiiiiiiA) (N : Nat) : Option (Zag ⊕ Zbp) :=
 if (0 : Int) < (L0.length : Int) then
  if (6 : Int) < (((L0.getD 0 R_iiiiiiiA.z).a7.length : Nat) : Int) then
   some (.inl (.h1m1 (([(⟨(L0.getD 0 R_iiiiiiiA.z).a0, (L0.getD 0 R_iiiiiiiA.z).a1, (L0.getD 0 R_iiiiiiiA.z).a2, (L0.getD 0 R_iiiiiiiA.z).a3, (L0.getD 0 R_iiiiiiiA.z).a4, (L0.getD 0 R_iiiiiiiA.z).a5, (L0.getD 0 R_iiiiiiiA.z).a6, ((L0.getD 0 R_iiiiiiiA.z).a7.take 6)⟩ : R_iiiiiiiA)] : List R_iiiiiiiA)) (1) : Zag))
  else
  some (.inl (.h1m1 (([(⟨(L0.getD 0 R_iiiiiiiA.z).a0, (L0.getD 0 R_iiiiiiiA.z).a1, (L0.getD 0 R_iiiiiiiA.z).a2, (L0.getD 0 R_iiiiiiiA.z).a3, (L0.getD 0 R_iiiiiiiA.z).a4, (L0.getD 0 R_iiiiiiiA.z).a5, (L0.getD 0 R_iiiiiiiA.z).a6, (L0.getD 0 R_iiiiiiiA.z).a7⟩ : R_iiiiiiiA)] : List R_iiiiiiiA)) (1) : Zag))
 else
 some (.inr (.r0 : Zbp))

def Zbj (L0 : List R_iiiiiiiA) (N : Nat) (v1 : List R_iiiiiiiA) (v2 : Nat) : Option (Zag ⊕ Zbp) :=
 if (v2 : Int) < (L0.length : Int) then
  if (v2 : Int) < (12 : Int) then
   if (6 : Int) < (((L0.getD v2 R_iiiiiiiA.z).a7.length : Nat) : Int) then
    if v1.length ≤ 100000 then
     some (.inl (.h1m1 ((v1 ++ ([(⟨(L0.getD v2 R_iiiiiiiA.z).a0, (L0.getD v2 R_iiiiiiiA.z).a1, (L0.getD v2 R_iiiiiiiA.z).a2, (L0.getD v2 R_iiiiiiiA.z).a3, (L0.getD v2 R_iiiiiiiA.z).a4, (L0.getD v2 R_iiiiiiiA.z).a5, (L0.getD v2 R_iiiiiiiA.z).a6, ((L0.getD v2 R_iiiiiiiA.z).a7.take 6)⟩ : R_iiiiiiiA)] : List R_iiiiiiiA))) ((v2 + 1)) : Zag))
    else
    none
   else
   if v1.length ≤ 100000 then
    some (.inl (.h1m1 ((v1 ++ ([(⟨(L0.getD v2 R_iiiiiiiA.z).a0, (L0.getD v2 R_iiiiiiiA.z).a1, (L0.getD v2 R_iiiiiiiA.z).a2, (L0.getD v2 R_iiiiiiiA.z).a3, (L0.getD v2 R_iiiiiiiA.z).a4, (L0.getD v2 R_iiiiiiiA.z).a5, (L0.getD v2 R_iiiiiiiA.z).a6, (L0.getD v2 R_iiiiiiiA.z).a7⟩ : R_iiiiiiiA)] : List R_iiiiiiiA))) ((v2 + 1)) : Zag))
   else
   none
  else
  some (.inr (.r1 (v1) : Zbp))
 else
 some (.inr (.r1 (v1) : Zbp))

def Zbt (L0 : List R_iiiiiiiA) (N : Nat) : Zag → Option (Zag ⊕ Zbp)
 | .h1m0 => ZbF L0 N
 | .h1m1 v1 v2 => Zbj L0 N v1 v2

def Zj4 (L0 : List R_iiiiiiiA) (N : Nat) : Option (Zag ⊕ Zbp) :=
 some (.inl (.h1m0 : Zag))

def Ze4 (L0 : List R_iiiiiiiA) (N : Nat) : Option Zbp := goM (Zbt L0 N) N (Zj4 L0 N)

inductive ZbJ where
 | r0

inductive graph_indexX where
 | h1m0

def ZfS  (N : Nat) : Option (graph_indexX ⊕ ZbJ) :=
 some (.inr (.r0 : ZbJ))

def Zes  (N : Nat) : graph_indexX → Option (graph_indexX ⊕ ZbJ)
 | .h1m0 => ZfS  N

def Zhn  (N : Nat) : Option (graph_indexX ⊕ ZbJ) :=
 some (.inl (.h1m0 : graph_indexX))

def Zep  (N : Nat) : Option ZbJ := goM (Zes  N) N (Zhn  N)

inductive Zat where
 | r0 (w1 : Int) (w2 : Bool)

def ZaM (L0 : List RA) (a1 : Int) (a2 : Int) (N : Nat) : Option Zat :=
 if ¬ (a1 = (2 : Int)) then
  some (.r0 ((0 : Int)) (false) : Zat)
 else
 if (a1 = (2 : Int) ∧ a2 = (0 : Int)) then
  some (.r0 ((0 : Int)) (false) : Zat)
 else
 if (Zav L0 a1 a2) = true then
  some (.r0 ((Za5 L0 a1 a2)) (true) : Zat)
 else
 some (.r0 ((0 : Int)) (false) : Zat)

inductive ZaV where
 | r0

def ZbG (a0 : Int) (a1 : Int) (L2 : List RA) (L3 : List RA) (N : Nat) : Option ZaV :=
 ((ZaM (L2) (a0) (a1) N).bind fun r => match r with
 | .r0 y0_0 y0_1 =>
  if ¬ (y0_1 = true) then
   some (.r0 : ZaV)
  else
  if (Zav L3 a0 a1) = true then
   some (.r0 : ZaV)
  else
  none
 )

inductive Za0 where
 | r0

inductive graph_objects_walkX where
 | h1m0 (v3 : Nat)
 | h2m0 (v3 : Nat)

def ZaY (L0 : List RA) (L1 : List R_ii) (N : Nat) (v3 : Nat) : Option (graph_objects_walkX ⊕ Za0) :=
 if (v3 : Int) < (L1.length : Int) then
  ((ZbG ((L1.getD v3 R_ii.z).a0) ((L1.getD v3 R_ii.z).a1) (L0) (([] : List RA)) N).bind fun r => match r with
  | .r0 =>
   some (.inl (.h2m0 (v3) : graph_objects_walkX))
  )
 else
 some (.inr (.r0 : Za0))

def ZbH (L0 : List RA) (L1 : List R_ii) (N : Nat) (v3 : Nat) : Option (graph_objects_walkX ⊕ Za0) :=
 if (((v3 + 1) : Nat) : Int) ≤ (9223372036854775807 : Int) then
  some (.inl (.h1m0 ((v3 + 1)) : graph_objects_walkX))
 else
 none

def ZbK (L0 : List RA) (L1 : List R_ii) (N : Nat) : graph_objects_walkX → Option (graph_objects_walkX ⊕ Za0)
 | .h1m0 v3 => ZaY L0 L1 N v3
 | .h2m0 v3 => ZbH L0 L1 N v3

def Zeg (L0 : List RA) (L1 : List R_ii) (N : Nat) : Option (graph_objects_walkX ⊕ Za0) :=
 some (.inl (.h1m0 (0) : graph_objects_walkX))

def Zdj (L0 : List RA) (L1 : List R_ii) (N : Nat) : Option Za0 := goM (ZbK L0 L1 N) N (Zeg L0 L1 N)

inductive ZaF where
 | r0

inductive graph_objects_refsX where
 | h1m0

def Zdb (L0 : List RA) (N : Nat) : Option (graph_objects_refsX ⊕ ZaF) :=
 some (.inr (.r0 : ZaF))

def Zcv (L0 : List RA) (N : Nat) : graph_objects_refsX → Option (graph_objects_refsX ⊕ ZaF)
 | .h1m0 => Zdb L0 N

def Zeh (L0 : List RA) (N : Nat) : Option (graph_objects_refsX ⊕ ZaF) :=
 some (.inl (.h1m0 : graph_objects_refsX))

def ZbU (L0 : List RA) (N : Nat) : Option ZaF := goM (Zcv L0 N) N (Zeh L0 N)

inductive ZcK where
 | r0

def Zbu (a0 : Int) (a1 : Int) (N : Nat) : Option ZcK :=
 ((Zep N).bind fun r => match r with
 | .r0 =>
  ((Zdj (([] : List RA)) (([(⟨a0, a1⟩ : R_ii)] : List R_ii)) N).bind fun r => match r with
  | .r0 =>
   ((ZbU (([] : List RA)) N).bind fun r => match r with
   | .r0 =>
    some (.r0 : ZcK)
   )
  )
 )

inductive ZaG where
 | r0

def Zby (a0 : Int) (a1 : Int) (L2 : List RA) (L3 : List RA) (N : Nat) : Option ZaG :=
 ((ZaM (L2) (a0) (a1) N).bind fun r => match r with
 | .r0 y0_0 y0_1 =>
  if ¬ (y0_1 = true) then
   some (.r0 : ZaG)
  else
  if (Zav L3 a0 a1) = true then
   some (.r0 : ZaG)
  else
  none
 )

inductive Zaj where
 | r0

inductive graph_objects_walk_2X where
 | h1m0 (v3 : Nat)
 | h2m0 (v3 : Nat)

def ZaJ (L0 : List RA) (L1 : List R_ii) (N : Nat) (v3 : Nat) : Option (graph_objects_walk_2X ⊕ Zaj) :=
 if (v3 : Int) < (L1.length : Int) then
  ((Zby ((L1.getD v3 R_ii.z).a0) ((L1.getD v3 R_ii.z).a1) (L0) (([] : List RA)) N).bind fun r => match r with
  | .r0 =>
   some (.inl (.h2m0 (v3) : graph_objects_walk_2X))
  )
 else
 some (.inr (.r0 : Zaj))

def Zb7 (L0 : List RA) (L1 : List R_ii) (N : Nat) (v3 : Nat) : Option (graph_objects_walk_2X ⊕ Zaj) :=
 if (((v3 + 1) : Nat) : Int) ≤ (9223372036854775807 : Int) then
  some (.inl (.h1m0 ((v3 + 1)) : graph_objects_walk_2X))
 else
 none

def ZbC (L0 : List RA) (L1 : List R_ii) (N : Nat) : graph_objects_walk_2X → Option (graph_objects_walk_2X ⊕ Zaj)
 | .h1m0 v3 => ZaJ L0 L1 N v3
 | .h2m0 v3 => Zb7 L0 L1 N v3

def Zdq (L0 : List RA) (L1 : List R_ii) (N : Nat) : Option (graph_objects_walk_2X ⊕ Zaj) :=
 some (.inl (.h1m0 (0) : graph_objects_walk_2X))

def ZcA (L0 : List RA) (L1 : List R_ii) (N : Nat) : Option Zaj := goM (ZbC L0 L1 N) N (Zdq L0 L1 N)

inductive ZdO where
 | r0

def Zdr (L0 : List R_ii) (N : Nat) : Option ZdO :=
 ((Zep N).bind fun r => match r with
 | .r0 =>
  ((ZcA (([] : List RA)) (L0) N).bind fun r => match r with
  | .r0 =>
   ((ZbU (([] : List RA)) N).bind fun r => match r with
   | .r0 =>
    some (.r0 : ZdO)
   )
  )
 )

inductive Zbz where
 | r0 (w1 : List RA)

inductive Za3 where
 | h1m0 (v1 : Int) (v2 : List RA)

def ZbD (L0 : List R_iiiiiiiA) (N : Nat) (v1 : Int) (v2 : List RA) : Option (Za3 ⊕ Zbz) :=
 if (0 : Int) ≤ v1 then
  if (v1).toNat < L0.length then
   some (.inl (.h1m0 ((IntKind.i64.wrap (v1 - (1 : Int)))) ((ZC v2 (L0.getD (v1).toNat R_iiiiiiiA.z).a0 (L0.getD (v1).toNat R_iiiiiiiA.z).a1 v1)) : Za3))
  else
  none
 else
 some (.inr (.r0 (v2) : Zbz))

def Zcl (L0 : List R_iiiiiiiA) (N : Nat) : Za3 → Option (Za3 ⊕ Zbz)
 | .h1m0 v1 v2 => ZbD L0 N v1 v2

def Zet (L0 : List R_iiiiiiiA) (N : Nat) : Option (Za3 ⊕ Zbz) :=
 if ((L0.length : Int) - (1 : Int)) ≤ (9223372036854775807 : Int) then
  some (.inl (.h1m0 (((L0.length : Int) - (1 : Int))) (([] : List RA)) : Za3))
 else
 none

def Zek (L0 : List R_iiiiiiiA) (N : Nat) : Option Zbz := goM (Zcl L0 N) N (Zet L0 N)

inductive ZY where
 | r0 (w2 : Int) (w3 : Bool)

def ZW (L0 : List R_iiiiiiiA) (L1 : List RA) (a2 : Int) (a3 : Int) (N : Nat) : Option ZY :=
 if ¬ (a2 = (2 : Int)) then
  some (.r0 ((0 : Int)) (false) : ZY)
 else
 if (a2 = (2 : Int) ∧ a3 = (0 : Int)) then
  some (.r0 ((0 : Int)) (false) : ZY)
 else
 if (Zav L1 a2 a3) = true then
  some (.r0 ((Za5 L1 a2 a3)) (true) : ZY)
 else
 some (.r0 ((0 : Int)) (false) : ZY)

inductive ZR where
 | r0
 | r1 (w2 : List RA) (w3 : List Int) (w4 : List R_ii)

def Za6 (a0 : Int) (a1 : Int) (L2 : List R_iiiiiiiA) (L3 : List RA) (L4 : List RA) (N : Nat) : Option ZR :=
 ((ZW (L2) (L3) (a0) (a1) N).bind fun r => match r with
 | .r0 y0_0 y0_1 =>
  if ¬ (y0_1 = true) then
   some (.r0 : ZR)
  else
  if (Zav L4 a0 a1) = true then
   some (.r0 : ZR)
  else
  if (0 : Int) ≤ y0_0 then
   if (y0_0).toNat < L2.length then
    if (L2.getD (y0_0).toNat R_iiiiiiiA.z).a5 = (1 : Int) then
     some (.r1 ((ZC L4 a0 a1 y0_0)) (([y0_0] : List Int)) (([(⟨y0_0, (0 : Int)⟩ : R_ii)] : List R_ii)) : ZR)
    else
    some (.r0 : ZR)
   else
   none
  else
  none
 )

inductive ZS where
 | r0
 | r1 (w2 : List RA) (w3 : List Int) (w4 : List R_ii)

def Zab (a0 : Int) (a1 : Int) (L2 : List R_iiiiiiiA) (L3 : List RA) (L4 : List RA) (L5 : List Int) (L6 : List R_ii) (N : Nat) : Option ZS :=
 ((ZW (L2) (L3) (a0) (a1) N).bind fun r => match r with
 | .r0 y0_0 y0_1 =>
  if ¬ (y0_1 = true) then
   some (.r0 : ZS)
  else
  if (Zav L4 a0 a1) = true then
   some (.r0 : ZS)
  else
  if (0 : Int) ≤ y0_0 then
   if (y0_0).toNat < L2.length then
    if (L2.getD (y0_0).toNat R_iiiiiiiA.z).a5 = (1 : Int) then
     if L5.length ≤ 100000 then
      if L6.length ≤ 100000 then
       some (.r1 ((ZC L4 a0 a1 y0_0)) ((L5 ++ ([y0_0] : List Int))) ((L6 ++ ([(⟨y0_0, (0 : Int)⟩ : R_ii)] : List R_ii))) : ZS)
      else
      none
     else
     none
    else
    some (.r0 : ZS)
   else
   none
  else
  none
 )

inductive ZJ where
 | r0
 | r1 (w2 : List RA) (w3 : List R_ii) (w4 : List Int)
 | r2 (w2 : List RA) (w3 : List Int) (w4 : List R_ii)

def ZM (a0 : Int) (a1 : Int) (L2 : List R_iiiiiiiA) (L3 : List RA) (L4 : List RA) (L5 : List Int) (L6 : List R_ii) (n7 : Nat) (n8 : Nat) (N : Nat) : Option ZJ :=
 ((ZW (L2) (L3) (a0) (a1) N).bind fun r => match r with
 | .r0 y0_0 y0_1 =>
  if ¬ (y0_1 = true) then
   some (.r0 : ZJ)
  else
  if (Zav L4 a0 a1) = true then
   some (.r0 : ZJ)
  else
  if (0 : Int) ≤ y0_0 then
   if (y0_0).toNat < L2.length then
    if (L2.getD (y0_0).toNat R_iiiiiiiA.z).a5 = (1 : Int) then
     if L5.length ≤ 100000 then
      if (n7 + 1) ≤ n8 then
       if n7 < L6.length then
        some (.r1 ((ZC L4 a0 a1 y0_0)) ((L6.set n7 (⟨y0_0, (0 : Int)⟩ : R_ii))) ((L5 ++ ([y0_0] : List Int))) : ZJ)
       else
       none
      else
      if n7 ≤ 100000 then
       if n7 ≤ L6.length then
        some (.r2 ((ZC L4 a0 a1 y0_0)) ((L5 ++ ([y0_0] : List Int))) (((L6.take n7) ++ ([(⟨y0_0, (0 : Int)⟩ : R_ii)] : List R_ii))) : ZJ)
       else
       none
      else
      none
     else
     none
    else
    some (.r0 : ZJ)
   else
   none
  else
  none
 )

inductive ZA where
 | r0
 | r1 (w3 : List Int)

inductive graph_objects_walk_3X where
 | h1m0 (v4 : Nat)
 | h1m1 (v4 : Nat) (v5 : List Int) (v6 : List R_ii) (v7 : List RA)
 | h1m2 (v4 : Nat) (v5 : List Int) (v6 : List R_ii) (v7 : Nat) (v8 : Nat) (v9 : List RA)
 | h2m0 (v4 : Nat)
 | h2m1 (v4 : Nat) (v5 : List Int) (v6 : List R_ii) (v7 : List RA)
 | h2m2 (v4 : Nat) (v5 : List Int) (v6 : List R_ii) (v7 : Nat) (v8 : Nat) (v9 : List RA)

def Zal (L0 : List R_iiiiiiiA) (L1 : List RA) (L2 : List R_ii) (N : Nat) (v4 : Nat) : Option (graph_objects_walk_3X ⊕ ZA) :=
 if (v4 : Int) < (L2.length : Int) then
  ((Za6 ((L2.getD v4 R_ii.z).a0) ((L2.getD v4 R_ii.z).a1) (L0) (L1) (([] : List RA)) N).bind fun r => match r with
  | .r0 =>
   some (.inl (.h2m0 (v4) : graph_objects_walk_3X))
  | .r1 y1_0 y1_1 y1_2 =>
   some (.inl (.h2m1 (v4) (y1_1) (y1_2) (y1_0) : graph_objects_walk_3X))
  )
 else
 some (.inr (.r0 : ZA))

def Zam (L0 : List R_iiiiiiiA) (L1 : List RA) (L2 : List R_ii) (N : Nat) (v4 : Nat) (v5 : List Int) (v6 : List R_ii) (v7 : List RA) : Option (graph_objects_walk_3X ⊕ ZA) :=
 if (v4 : Int) < (L2.length : Int) then
  ((Zab ((L2.getD v4 R_ii.z).a0) ((L2.getD v4 R_ii.z).a1) (L0) (L1) (v7) (v5) (v6) N).bind fun r => match r with
  | .r0 =>
   some (.inl (.h2m1 (v4) (v5) (v6) (v7) : graph_objects_walk_3X))
  | .r1 y1_0 y1_1 y1_2 =>
   some (.inl (.h2m1 (v4) (y1_1) (y1_2) (y1_0) : graph_objects_walk_3X))
  )
 else
 some (.inr (.r1 (v5) : ZA))

def ZO (L0 : List R_iiiiiiiA) (L1 : List RA) (L2 : List R_ii) (N : Nat) (v4 : Nat) (v5 : List Int) (v6 : List R_ii) (v7 : Nat) (v8 : Nat) (v9 : List RA) : Option (graph_objects_walk_3X ⊕ ZA) :=
 if (v4 : Int) < (L2.length : Int) then
  ((ZM ((L2.getD v4 R_ii.z).a0) ((L2.getD v4 R_ii.z).a1) (L0) (L1) (v9) (v5) (v6) (v7) (v8) N).bind fun r => match r with
  | .r0 =>
   some (.inl (.h2m2 (v4) (v5) (v6) (v7) (v8) (v9) : graph_objects_walk_3X))
  | .r1 y1_0 y1_1 y1_2 =>
   some (.inl (.h2m2 (v4) (y1_2) (y1_1) ((v7 + 1)) (v8) (y1_0) : graph_objects_walk_3X))
  | .r2 y1_0 y1_1 y1_2 =>
   some (.inl (.h2m1 (v4) (y1_1) (y1_2) (y1_0) : graph_objects_walk_3X))
  )
 else
 some (.inr (.r1 (v5) : ZA))

def Zb8 (L0 : List R_iiiiiiiA) (L1 : List RA) (L2 : List R_ii) (N : Nat) (v4 : Nat) : Option (graph_objects_walk_3X ⊕ ZA) :=
 if (((v4 + 1) : Nat) : Int) ≤ (9223372036854775807 : Int) then
  some (.inl (.h1m0 ((v4 + 1)) : graph_objects_walk_3X))
 else
 none

def Zan (L0 : List R_iiiiiiiA) (L1 : List RA) (L2 : List R_ii) (N : Nat) (v4 : Nat) (v5 : List Int) (v6 : List R_ii) (v7 : List RA) : Option (graph_objects_walk_3X ⊕ ZA) :=
 if (0 : Int) < (v6.length : Int) then
  if ((v6.length : Int) - (1 : Int)) ≤ (9223372036854775807 : Int) then
   if (0 : Int) ≤ (v6.getD (v6.length - 1) R_ii.z).a0 then
    if ((v6.getD (v6.length - 1) R_ii.z).a0).toNat < L0.length then
     if (v6.getD (v6.length - 1) R_ii.z).a1 = (((L0.getD ((v6.getD (v6.length - 1) R_ii.z).a0).toNat R_iiiiiiiA.z).a7.length : Nat) : Int) then
      some (.inl (.h2m2 (v4) (v5) (v6) (((v6.length - 1) - 0)) ((v6.length - 0)) (v7) : graph_objects_walk_3X))
     else
     if (0 : Int) ≤ (IntKind.i64.wrap ((IntKind.i64.wrap ((v6.getD (v6.length - 1) R_ii.z).a1 + (1 : Int))) - (1 : Int))) then
      if ((IntKind.i64.wrap ((IntKind.i64.wrap ((v6.getD (v6.length - 1) R_ii.z).a1 + (1 : Int))) - (1 : Int)))).toNat < (L0.getD ((v6.getD (v6.length - 1) R_ii.z).a0).toNat R_iiiiiiiA.z).a7.length then
       ((Zab (((L0.getD ((v6.getD (v6.length - 1) R_ii.z).a0).toNat R_iiiiiiiA.z).a7.getD ((IntKind.i64.wrap ((IntKind.i64.wrap ((v6.getD (v6.length - 1) R_ii.z).a1 + (1 : Int))) - (1 : Int)))).toNat R_ii.z).a0) (((L0.getD ((v6.getD (v6.length - 1) R_ii.z).a0).toNat R_iiiiiiiA.z).a7.getD ((IntKind.i64.wrap ((IntKind.i64.wrap ((v6.getD (v6.length - 1) R_ii.z).a1 + (1 : Int))) - (1 : Int)))).toNat R_ii.z).a1) (L0) (L1) (v7) (v5) ((v6.set (v6.length - 1) (⟨(v6.getD (v6.length - 1) R_ii.z).a0, (IntKind.i64.wrap ((v6.getD (v6.length - 1) R_ii.z).a1 + (1 : Int)))⟩ : R_ii))) N).bind fun r => match r with
       | .r0 =>
        some (.inl (.h2m1 (v4) (v5) ((v6.set (v6.length - 1) (⟨(v6.getD (v6.length - 1) R_ii.z).a0, (IntKind.i64.wrap ((v6.getD (v6.length - 1) R_ii.z).a1 + (1 : Int)))⟩ : R_ii))) (v7) : graph_objects_walk_3X))
       | .r1 y7_0 y7_1 y7_2 =>
        some (.inl (.h2m1 (v4) (y7_1) (y7_2) (y7_0) : graph_objects_walk_3X))
       )
      else
      none
     else
     none
    else
    none
   else
   none
  else
  none
 else
 if (((v4 + 1) : Nat) : Int) ≤ (9223372036854775807 : Int) then
  some (.inl (.h1m1 ((v4 + 1)) (v5) (v6) (v7) : graph_objects_walk_3X))
 else
 none

def Zao (L0 : List R_iiiiiiiA) (L1 : List RA) (L2 : List R_ii) (N : Nat) (v4 : Nat) (v5 : List Int) (v6 : List R_ii) (v7 : Nat) (v8 : Nat) (v9 : List RA) : Option (graph_objects_walk_3X ⊕ ZA) :=
 if (0 : Int) < (v7 : Int) then
  if ((v7 : Int) - (1 : Int)) ≤ (9223372036854775807 : Int) then
   if (v7 - 1) < v6.length then
    if (0 : Int) ≤ (v6.getD (v7 - 1) R_ii.z).a0 then
     if ((v6.getD (v7 - 1) R_ii.z).a0).toNat < L0.length then
      if (v6.getD (v7 - 1) R_ii.z).a1 = (((L0.getD ((v6.getD (v7 - 1) R_ii.z).a0).toNat R_iiiiiiiA.z).a7.length : Nat) : Int) then
       if (((v7 - 1) : Nat) : Int) ≤ (v8 : Int) then
        some (.inl (.h2m2 (v4) (v5) (v6) (((v7 - 1) - 0)) ((v8 - 0)) (v9) : graph_objects_walk_3X))
       else
       none
      else
      if (0 : Int) ≤ (IntKind.i64.wrap ((IntKind.i64.wrap ((v6.getD (v7 - 1) R_ii.z).a1 + (1 : Int))) - (1 : Int))) then
       if ((IntKind.i64.wrap ((IntKind.i64.wrap ((v6.getD (v7 - 1) R_ii.z).a1 + (1 : Int))) - (1 : Int)))).toNat < (L0.getD ((v6.getD (v7 - 1) R_ii.z).a0).toNat R_iiiiiiiA.z).a7.length then
        ((ZM (((L0.getD ((v6.getD (v7 - 1) R_ii.z).a0).toNat R_iiiiiiiA.z).a7.getD ((IntKind.i64.wrap ((IntKind.i64.wrap ((v6.getD (v7 - 1) R_ii.z).a1 + (1 : Int))) - (1 : Int)))).toNat R_ii.z).a0) (((L0.getD ((v6.getD (v7 - 1) R_ii.z).a0).toNat R_iiiiiiiA.z).a7.getD ((IntKind.i64.wrap ((IntKind.i64.wrap ((v6.getD (v7 - 1) R_ii.z).a1 + (1 : Int))) - (1 : Int)))).toNat R_ii.z).a1) (L0) (L1) (v9) (v5) ((v6.set (v7 - 1) (⟨(v6.getD (v7 - 1) R_ii.z).a0, (IntKind.i64.wrap ((v6.getD (v7 - 1) R_ii.z).a1 + (1 : Int)))⟩ : R_ii))) (v7) (v8) N).bind fun r => match r with
        | .r0 =>
         some (.inl (.h2m2 (v4) (v5) ((v6.set (v7 - 1) (⟨(v6.getD (v7 - 1) R_ii.z).a0, (IntKind.i64.wrap ((v6.getD (v7 - 1) R_ii.z).a1 + (1 : Int)))⟩ : R_ii))) (v7) (v8) (v9) : graph_objects_walk_3X))
        | .r1 y8_0 y8_1 y8_2 =>
         some (.inl (.h2m2 (v4) (y8_2) (y8_1) ((v7 + 1)) (v8) (y8_0) : graph_objects_walk_3X))
        | .r2 y8_0 y8_1 y8_2 =>
         some (.inl (.h2m1 (v4) (y8_1) (y8_2) (y8_0) : graph_objects_walk_3X))
        )
       else
       none
      else
      none
     else
     none
    else
    none
   else
   none
  else
  none
 else
 if (((v4 + 1) : Nat) : Int) ≤ (9223372036854775807 : Int) then
  some (.inl (.h1m2 ((v4 + 1)) (v5) (v6) (v7) (v8) (v9) : graph_objects_walk_3X))
 else
 none

def Zac (L0 : List R_iiiiiiiA) (L1 : List RA) (L2 : List R_ii) (N : Nat) : graph_objects_walk_3X → Option (graph_objects_walk_3X ⊕ ZA)
 | .h1m0 v4 => Zal L0 L1 L2 N v4
 | .h1m1 v4 v5 v6 v7 => Zam L0 L1 L2 N v4 v5 v6 v7
 | .h1m2 v4 v5 v6 v7 v8 v9 => ZO L0 L1 L2 N v4 v5 v6 v7 v8 v9
 | .h2m0 v4 => Zb8 L0 L1 L2 N v4
 | .h2m1 v4 v5 v6 v7 => Zan L0 L1 L2 N v4 v5 v6 v7
 | .h2m2 v4 v5 v6 v7 v8 v9 => Zao L0 L1 L2 N v4 v5 v6 v7 v8 v9

def Zds (L0 : List R_iiiiiiiA) (L1 : List RA) (L2 : List R_ii) (N : Nat) : Option (graph_objects_walk_3X ⊕ ZA) :=
 some (.inl (.h1m0 (0) : graph_objects_walk_3X))

def Zcd (L0 : List R_iiiiiiiA) (L1 : List RA) (L2 : List R_ii) (N : Nat) : Option ZA := goM (Zac L0 L1 L2 N) N (Zds L0 L1 L2 N)

inductive Zaz where
 | r0

inductive graph_objects_refs_2X where
 | h1m0

def ZcB (L0 : List R_iiiiiiiA) (L1 : List RA) (N : Nat) : Option (graph_objects_refs_2X ⊕ Zaz) :=
 some (.inr (.r0 : Zaz))

def Zce (L0 : List R_iiiiiiiA) (L1 : List RA) (N : Nat) : graph_objects_refs_2X → Option (graph_objects_refs_2X ⊕ Zaz)
 | .h1m0 => ZcB L0 L1 N

def Zdt (L0 : List R_iiiiiiiA) (L1 : List RA) (N : Nat) : Option (graph_objects_refs_2X ⊕ Zaz) :=
 some (.inl (.h1m0 : graph_objects_refs_2X))

def Zcf (L0 : List R_iiiiiiiA) (L1 : List RA) (N : Nat) : Option Zaz := goM (Zce L0 L1 N) N (Zdt L0 L1 N)

inductive ZU where
 | r0
 | r1 (w3 : List R_ii)

inductive Z8 where
 | h1m0
 | h1m1 (v3 : List R_ii) (v5 : Nat)

def ZaK (L0 : List R_iiiiiiiA) (L1 : List RA) (L2 : List Int) (N : Nat) : Option (Z8 ⊕ ZU) :=
 if (0 : Int) < (L2.length : Int) then
  if (0 : Int) ≤ (L2.getD 0 0) then
   if ((L2.getD 0 0)).toNat < L0.length then
    some (.inl (.h1m1 (([(⟨(L0.getD ((L2.getD 0 0)).toNat R_iiiiiiiA.z).a0, (L0.getD ((L2.getD 0 0)).toNat R_iiiiiiiA.z).a1⟩ : R_ii)] : List R_ii)) (1) : Z8))
   else
   none
  else
  none
 else
 some (.inr (.r0 : ZU))

def ZaL (L0 : List R_iiiiiiiA) (L1 : List RA) (L2 : List Int) (N : Nat) (v3 : List R_ii) (v5 : Nat) : Option (Z8 ⊕ ZU) :=
 if (v5 : Int) < (L2.length : Int) then
  if (0 : Int) ≤ (L2.getD v5 0) then
   if ((L2.getD v5 0)).toNat < L0.length then
    if v3.length ≤ 100000 then
     if (((v5 + 1) : Nat) : Int) ≤ (9223372036854775807 : Int) then
      some (.inl (.h1m1 ((v3 ++ ([(⟨(L0.getD ((L2.getD v5 0)).toNat R_iiiiiiiA.z).a0, (L0.getD ((L2.getD v5 0)).toNat R_iiiiiiiA.z).a1⟩ : R_ii)] : List R_ii))) ((v5 + 1)) : Z8))
     else
     none
    else
    none
   else
   none
  else
  none
 else
 some (.inr (.r1 (v3) : ZU))

def ZaR (L0 : List R_iiiiiiiA) (L1 : List RA) (L2 : List Int) (N : Nat) : Z8 → Option (Z8 ⊕ ZU)
 | .h1m0 => ZaK L0 L1 L2 N
 | .h1m1 v3 v5 => ZaL L0 L1 L2 N v3 v5

def Zdu (L0 : List R_iiiiiiiA) (L1 : List RA) (L2 : List Int) (N : Nat) : Option (Z8 ⊕ ZU) :=
 some (.inl (.h1m0 : Z8))

def Zba (L0 : List R_iiiiiiiA) (L1 : List RA) (L2 : List Int) (N : Nat) : Option ZU := goM (ZaR L0 L1 L2 N) N (Zdu L0 L1 L2 N)

inductive Zbd where
 | r0
 | r1 (w1 : List R_ii)

def ZP (L0 : List R_iiiiiiiA) (a1 : Int) (a2 : Int) (N : Nat) : Option Zbd :=
 ((Zek (L0) N).bind fun r => match r with
 | .r0 y0_0 =>
  ((Zcd (L0) (y0_0) (([(⟨a1, a2⟩ : R_ii)] : List R_ii)) N).bind fun r => match r with
  | .r0 =>
   ((Zcf (L0) (y0_0) N).bind fun r => match r with
   | .r0 =>
    some (.r0 : Zbd)
   )
  | .r1 y1_0 =>
   ((Zba (L0) (y0_0) (y1_0) N).bind fun r => match r with
   | .r0 =>
    some (.r0 : Zbd)
   | .r1 y2_0 =>
    some (.r1 (y2_0) : Zbd)
   )
  )
 )

inductive Zah where
 | r0
 | r1 (w2 : List RA) (w3 : List Int) (w4 : List R_ii)

def Za7 (a0 : Int) (a1 : Int) (L2 : List R_iiiiiiiA) (L3 : List RA) (L4 : List RA) (N : Nat) : Option Zah :=
 ((ZW (L2) (L3) (a0) (a1) N).bind fun r => match r with
 | .r0 y0_0 y0_1 =>
  if ¬ (y0_1 = true) then
   some (.r0 : Zah)
  else
  if (Zav L4 a0 a1) = true then
   some (.r0 : Zah)
  else
  if (0 : Int) ≤ y0_0 then
   if (y0_0).toNat < L2.length then
    some (.r1 ((ZC L4 a0 a1 y0_0)) (([y0_0] : List Int)) (([(⟨y0_0, (0 : Int)⟩ : R_ii)] : List R_ii)) : Zah)
   else
   none
  else
  none
 )

inductive Zai where
 | r0
 | r1 (w2 : List RA) (w3 : List Int) (w4 : List R_ii)

def Zad (a0 : Int) (a1 : Int) (L2 : List R_iiiiiiiA) (L3 : List RA) (L4 : List RA) (L5 : List Int) (L6 : List R_ii) (N : Nat) : Option Zai :=
 ((ZW (L2) (L3) (a0) (a1) N).bind fun r => match r with
 | .r0 y0_0 y0_1 =>
  if ¬ (y0_1 = true) then
   some (.r0 : Zai)
  else
  if (Zav L4 a0 a1) = true then
   some (.r0 : Zai)
  else
  if (0 : Int) ≤ y0_0 then
   if (y0_0).toNat < L2.length then
    if L5.length ≤ 100000 then
     if L6.length ≤ 100000 then
      some (.r1 ((ZC L4 a0 a1 y0_0)) ((L5 ++ ([y0_0] : List Int))) ((L6 ++ ([(⟨y0_0, (0 : Int)⟩ : R_ii)] : List R_ii))) : Zai)
     else
     none
    else
    none
   else
   none
  else
  none
 )

inductive ZT where
 | r0
 | r1 (w2 : List RA) (w3 : List R_ii) (w4 : List Int)
 | r2 (w2 : List RA) (w3 : List Int) (w4 : List R_ii)

def ZN (a0 : Int) (a1 : Int) (L2 : List R_iiiiiiiA) (L3 : List RA) (L4 : List RA) (L5 : List Int) (L6 : List R_ii) (n7 : Nat) (n8 : Nat) (N : Nat) : Option ZT :=
 ((ZW (L2) (L3) (a0) (a1) N).bind fun r => match r with
 | .r0 y0_0 y0_1 =>
  if ¬ (y0_1 = true) then
   some (.r0 : ZT)
  else
  if (Zav L4 a0 a1) = true then
   some (.r0 : ZT)
  else
  if (0 : Int) ≤ y0_0 then
   if (y0_0).toNat < L2.length then
    if L5.length ≤ 100000 then
     if (n7 + 1) ≤ n8 then
      if n7 < L6.length then
       some (.r1 ((ZC L4 a0 a1 y0_0)) ((L6.set n7 (⟨y0_0, (0 : Int)⟩ : R_ii))) ((L5 ++ ([y0_0] : List Int))) : ZT)
      else
      none
     else
     if n7 ≤ 100000 then
      if n7 ≤ L6.length then
       some (.r2 ((ZC L4 a0 a1 y0_0)) ((L5 ++ ([y0_0] : List Int))) (((L6.take n7) ++ ([(⟨y0_0, (0 : Int)⟩ : R_ii)] : List R_ii))) : ZT)
      else
      none
     else
     none
    else
    none
   else
   none
  else
  none
 )

inductive ZB where
 | r0
 | r1 (w3 : List Int)

inductive graph_objects_walk_4X where
 | h1m0 (v4 : Nat)
 | h1m1 (v4 : Nat) (v5 : List Int) (v6 : List R_ii) (v7 : List RA)
 | h1m2 (v4 : Nat) (v5 : List Int) (v6 : List R_ii) (v7 : Nat) (v8 : Nat) (v9 : List RA)
 | h2m0 (v4 : Nat)
 | h2m1 (v4 : Nat) (v5 : List Int) (v6 : List R_ii) (v7 : List RA)
 | h2m2 (v4 : Nat) (v5 : List Int) (v6 : List R_ii) (v7 : Nat) (v8 : Nat) (v9 : List RA)

def Zap (L0 : List R_iiiiiiiA) (L1 : List RA) (L2 : List R_ii) (N : Nat) (v4 : Nat) : Option (graph_objects_walk_4X ⊕ ZB) :=
 if (v4 : Int) < (L2.length : Int) then
  ((Za7 ((L2.getD v4 R_ii.z).a0) ((L2.getD v4 R_ii.z).a1) (L0) (L1) (([] : List RA)) N).bind fun r => match r with
  | .r0 =>
   some (.inl (.h2m0 (v4) : graph_objects_walk_4X))
  | .r1 y1_0 y1_1 y1_2 =>
   some (.inl (.h2m1 (v4) (y1_1) (y1_2) (y1_0) : graph_objects_walk_4X))
  )
 else
 some (.inr (.r0 : ZB))

def Zaq (L0 : List R_iiiiiiiA) (L1 : List RA) (L2 : List R_ii) (N : Nat) (v4 : Nat) (v5 : List Int) (v6 : List R_ii) (v7 : List RA) : Option (graph_objects_walk_4X ⊕ ZB) :=
 if (v4 : Int) < (L2.length : Int) then
  ((Zad ((L2.getD v4 R_ii.z).a0) ((L2.getD v4 R_ii.z).a1) (L0) (L1) (v7) (v5) (v6) N).bind fun r => match r with
  | .r0 =>
   some (.inl (.h2m1 (v4) (v5) (v6) (v7) : graph_objects_walk_4X))
  | .r1 y1_0 y1_1 y1_2 =>
   some (.inl (.h2m1 (v4) (y1_1) (y1_2) (y1_0) : graph_objects_walk_4X))
  )
 else
 some (.inr (.r1 (v5) : ZB))

def ZQ (L0 : List R_iiiiiiiA) (L1 : List RA) (L2 : List R_ii) (N : Nat) (v4 : Nat) (v5 : List Int) (v6 : List R_ii) (v7 : Nat) (v8 : Nat) (v9 : List RA) : Option (graph_objects_walk_4X ⊕ ZB) :=
 if (v4 : Int) < (L2.length : Int) then
  ((ZN ((L2.getD v4 R_ii.z).a0) ((L2.getD v4 R_ii.z).a1) (L0) (L1) (v9) (v5) (v6) (v7) (v8) N).bind fun r => match r with
  | .r0 =>
   some (.inl (.h2m2 (v4) (v5) (v6) (v7) (v8) (v9) : graph_objects_walk_4X))
  | .r1 y1_0 y1_1 y1_2 =>
   some (.inl (.h2m2 (v4) (y1_2) (y1_1) ((v7 + 1)) (v8) (y1_0) : graph_objects_walk_4X))
  | .r2 y1_0 y1_1 y1_2 =>
   some (.inl (.h2m1 (v4) (y1_1) (y1_2) (y1_0) : graph_objects_walk_4X))
  )
 else
 some (.inr (.r1 (v5) : ZB))

def Zb9 (L0 : List R_iiiiiiiA) (L1 : List RA) (L2 : List R_ii) (N : Nat) (v4 : Nat) : Option (graph_objects_walk_4X ⊕ ZB) :=
 if (((v4 + 1) : Nat) : Int) ≤ (9223372036854775807 : Int) then
  some (.inl (.h1m0 ((v4 + 1)) : graph_objects_walk_4X))
 else
 none

def Zar (L0 : List R_iiiiiiiA) (L1 : List RA) (L2 : List R_ii) (N : Nat) (v4 : Nat) (v5 : List Int) (v6 : List R_ii) (v7 : List RA) : Option (graph_objects_walk_4X ⊕ ZB) :=
 if (0 : Int) < (v6.length : Int) then
  if ((v6.length : Int) - (1 : Int)) ≤ (9223372036854775807 : Int) then
   if (0 : Int) ≤ (v6.getD (v6.length - 1) R_ii.z).a0 then
    if ((v6.getD (v6.length - 1) R_ii.z).a0).toNat < L0.length then
     if (v6.getD (v6.length - 1) R_ii.z).a1 = (((L0.getD ((v6.getD (v6.length - 1) R_ii.z).a0).toNat R_iiiiiiiA.z).a7.length : Nat) : Int) then
      some (.inl (.h2m2 (v4) (v5) (v6) (((v6.length - 1) - 0)) ((v6.length - 0)) (v7) : graph_objects_walk_4X))
     else
     if (0 : Int) ≤ (IntKind.i64.wrap ((IntKind.i64.wrap ((v6.getD (v6.length - 1) R_ii.z).a1 + (1 : Int))) - (1 : Int))) then
      if ((IntKind.i64.wrap ((IntKind.i64.wrap ((v6.getD (v6.length - 1) R_ii.z).a1 + (1 : Int))) - (1 : Int)))).toNat < (L0.getD ((v6.getD (v6.length - 1) R_ii.z).a0).toNat R_iiiiiiiA.z).a7.length then
       ((Zad (((L0.getD ((v6.getD (v6.length - 1) R_ii.z).a0).toNat R_iiiiiiiA.z).a7.getD ((IntKind.i64.wrap ((IntKind.i64.wrap ((v6.getD (v6.length - 1) R_ii.z).a1 + (1 : Int))) - (1 : Int)))).toNat R_ii.z).a0) (((L0.getD ((v6.getD (v6.length - 1) R_ii.z).a0).toNat R_iiiiiiiA.z).a7.getD ((IntKind.i64.wrap ((IntKind.i64.wrap ((v6.getD (v6.length - 1) R_ii.z).a1 + (1 : Int))) - (1 : Int)))).toNat R_ii.z).a1) (L0) (L1) (v7) (v5) ((v6.set (v6.length - 1) (⟨(v6.getD (v6.length - 1) R_ii.z).a0, (IntKind.i64.wrap ((v6.getD (v6.length - 1) R_ii.z).a1 + (1 : Int)))⟩ : R_ii))) N).bind fun r => match r with
       | .r0 =>
        some (.inl (.h2m1 (v4) (v5) ((v6.set (v6.length - 1) (⟨(v6.getD (v6.length - 1) R_ii.z).a0, (IntKind.i64.wrap ((v6.getD (v6.length - 1) R_ii.z).a1 + (1 : Int)))⟩ : R_ii))) (v7) : graph_objects_walk_4X))
       | .r1 y7_0 y7_1 y7_2 =>
        some (.inl (.h2m1 (v4) (y7_1) (y7_2) (y7_0) : graph_objects_walk_4X))
       )
      else
      none
     else
     none
    else
    none
   else
   none
  else
  none
 else
 if (((v4 + 1) : Nat) : Int) ≤ (9223372036854775807 : Int) then
  some (.inl (.h1m1 ((v4 + 1)) (v5) (v6) (v7) : graph_objects_walk_4X))
 else
 none

def Zas (L0 : List R_iiiiiiiA) (L1 : List RA) (L2 : List R_ii) (N : Nat) (v4 : Nat) (v5 : List Int) (v6 : List R_ii) (v7 : Nat) (v8 : Nat) (v9 : List RA) : Option (graph_objects_walk_4X ⊕ ZB) :=
 if (0 : Int) < (v7 : Int) then
  if ((v7 : Int) - (1 : Int)) ≤ (9223372036854775807 : Int) then
   if (v7 - 1) < v6.length then
    if (0 : Int) ≤ (v6.getD (v7 - 1) R_ii.z).a0 then
     if ((v6.getD (v7 - 1) R_ii.z).a0).toNat < L0.length then
      if (v6.getD (v7 - 1) R_ii.z).a1 = (((L0.getD ((v6.getD (v7 - 1) R_ii.z).a0).toNat R_iiiiiiiA.z).a7.length : Nat) : Int) then
       if (((v7 - 1) : Nat) : Int) ≤ (v8 : Int) then
        some (.inl (.h2m2 (v4) (v5) (v6) (((v7 - 1) - 0)) ((v8 - 0)) (v9) : graph_objects_walk_4X))
       else
       none
      else
      if (0 : Int) ≤ (IntKind.i64.wrap ((IntKind.i64.wrap ((v6.getD (v7 - 1) R_ii.z).a1 + (1 : Int))) - (1 : Int))) then
       if ((IntKind.i64.wrap ((IntKind.i64.wrap ((v6.getD (v7 - 1) R_ii.z).a1 + (1 : Int))) - (1 : Int)))).toNat < (L0.getD ((v6.getD (v7 - 1) R_ii.z).a0).toNat R_iiiiiiiA.z).a7.length then
        ((ZN (((L0.getD ((v6.getD (v7 - 1) R_ii.z).a0).toNat R_iiiiiiiA.z).a7.getD ((IntKind.i64.wrap ((IntKind.i64.wrap ((v6.getD (v7 - 1) R_ii.z).a1 + (1 : Int))) - (1 : Int)))).toNat R_ii.z).a0) (((L0.getD ((v6.getD (v7 - 1) R_ii.z).a0).toNat R_iiiiiiiA.z).a7.getD ((IntKind.i64.wrap ((IntKind.i64.wrap ((v6.getD (v7 - 1) R_ii.z).a1 + (1 : Int))) - (1 : Int)))).toNat R_ii.z).a1) (L0) (L1) (v9) (v5) ((v6.set (v7 - 1) (⟨(v6.getD (v7 - 1) R_ii.z).a0, (IntKind.i64.wrap ((v6.getD (v7 - 1) R_ii.z).a1 + (1 : Int)))⟩ : R_ii))) (v7) (v8) N).bind fun r => match r with
        | .r0 =>
         some (.inl (.h2m2 (v4) (v5) ((v6.set (v7 - 1) (⟨(v6.getD (v7 - 1) R_ii.z).a0, (IntKind.i64.wrap ((v6.getD (v7 - 1) R_ii.z).a1 + (1 : Int)))⟩ : R_ii))) (v7) (v8) (v9) : graph_objects_walk_4X))
        | .r1 y8_0 y8_1 y8_2 =>
         some (.inl (.h2m2 (v4) (y8_2) (y8_1) ((v7 + 1)) (v8) (y8_0) : graph_objects_walk_4X))
        | .r2 y8_0 y8_1 y8_2 =>
         some (.inl (.h2m1 (v4) (y8_1) (y8_2) (y8_0) : graph_objects_walk_4X))
        )
       else
       none
      else
      none
     else
     none
    else
    none
   else
   none
  else
  none
 else
 if (((v4 + 1) : Nat) : Int) ≤ (9223372036854775807 : Int) then
  some (.inl (.h1m2 ((v4 + 1)) (v5) (v6) (v7) (v8) (v9) : graph_objects_walk_4X))
 else
 none

def Zae (L0 : List R_iiiiiiiA) (L1 : List RA) (L2 : List R_ii) (N : Nat) : graph_objects_walk_4X → Option (graph_objects_walk_4X ⊕ ZB)
 | .h1m0 v4 => Zap L0 L1 L2 N v4
 | .h1m1 v4 v5 v6 v7 => Zaq L0 L1 L2 N v4 v5 v6 v7
 | .h1m2 v4 v5 v6 v7 v8 v9 => ZQ L0 L1 L2 N v4 v5 v6 v7 v8 v9
 | .h2m0 v4 => Zb9 L0 L1 L2 N v4
 | .h2m1 v4 v5 v6 v7 => Zar L0 L1 L2 N v4 v5 v6 v7
 | .h2m2 v4 v5 v6 v7 v8 v9 => Zas L0 L1 L2 N v4 v5 v6 v7 v8 v9

def Zdv (L0 : List R_iiiiiiiA) (L1 : List RA) (L2 : List R_ii) (N : Nat) : Option (graph_objects_walk_4X ⊕ ZB) :=
 some (.inl (.h1m0 (0) : graph_objects_walk_4X))

def Zcg (L0 : List R_iiiiiiiA) (L1 : List RA) (L2 : List R_ii) (N : Nat) : Option ZB := goM (Zae L0 L1 L2 N) N (Zdv L0 L1 L2 N)

inductive Zb0 where
 | r0
 | r1 (w2 : List R_ii)

def ZbE (L0 : List R_iiiiiiiA) (L1 : List R_ii) (N : Nat) : Option Zb0 :=
 ((Zek (L0) N).bind fun r => match r with
 | .r0 y0_0 =>
  ((Zcg (L0) (y0_0) (L1) N).bind fun r => match r with
  | .r0 =>
   ((Zcf (L0) (y0_0) N).bind fun r => match r with
   | .r0 =>
    some (.r0 : Zb0)
   )
  | .r1 y1_0 =>
   ((Zba (L0) (y0_0) (y1_0) N).bind fun r => match r with
   | .r0 =>
    some (.r0 : Zb0)
   | .r1 y2_0 =>
    some (.r1 (y2_0) : Zb0)
   )
  )
 )

inductive Zj where
 | r0 (w0 : Bool)

inductive law16_GraphClosedX where
 | h1m0
 | h1m1 (v0 : List R_iiiiiiiA)
 | h1m2 (v0 : List R_iiiiiiiA) (v1 : List R_ii)
 | h1m3 (v0 : List R_iiiiiiiA) (v1 : List R_ii)
 | h1m4 (v0 : List R_iiiiiiiA) (v1 : List R_ii) (v2 : List R_ii)
 | h1m5 (v0 : List R_iiiiiiiA) (v1 : List R_iiiiiiiA) (v2 : Nat)
 | h1m6 (v0 : List R_iiiiiiiA) (v1 : List R_ii) (v2 : List R_iiiiiiiA) (v3 : Nat)
 | h1m7 (v0 : List R_iiiiiiiA) (v1 : List R_ii) (v2 : List R_iiiiiiiA) (v3 : Nat)
 | h1m8 (v0 : List R_iiiiiiiA) (v1 : List R_ii) (v2 : List R_ii) (v3 : List R_iiiiiiiA) (v4 : Nat)
 | h2m0
 | h2m1 (v0 : List R_ii)
 | h2m2 (v0 : List R_ii)
 | h2m3 (v0 : List R_ii) (v1 : List R_ii) (v2 : Nat)
 | h2m4 (v0 : List R_iiiiiiiA)
 | h2m5 (v0 : List R_ii) (v1 : List R_iiiiiiiA)
 | h2m6 (v0 : List R_ii) (v1 : List R_iiiiiiiA)
 | h2m7 (v0 : List R_ii) (v1 : List R_ii) (v2 : List R_iiiiiiiA) (v3 : Nat)
 | h3m0 (v0 : List R_iiiiiiiA) (v5 : Int) (v6 : Int) (v7 : Int) (v8 : Int) (v9 : Int) (v10 : Int) (v11 : Int) (v12 : List R_ii)
 | h3m1 (v0 : List R_iiiiiiiA) (v1 : List R_ii) (v6 : Int) (v7 : Int) (v8 : Int) (v9 : Int) (v10 : Int) (v11 : Int) (v12 : Int) (v13 : List R_ii)
 | h3m2 (v0 : List R_iiiiiiiA) (v1 : List R_ii) (v3 : Nat) (v6 : Int) (v7 : Int) (v8 : Int) (v9 : Int) (v10 : Int) (v11 : Int) (v12 : Int) (v13 : List R_ii)
 | h3m3 (v0 : List R_iiiiiiiA) (v1 : List R_ii) (v2 : List R_ii) (v4 : Nat) (v7 : Int) (v8 : Int) (v9 : Int) (v10 : Int) (v11 : Int) (v12 : Int) (v13 : Int) (v14 : List R_ii)
 | h3m4 (v0 : List R_iiiiiiiA) (v1 : List R_iiiiiiiA) (v2 : Nat) (v6 : Int) (v7 : Int) (v8 : Int) (v9 : Int) (v10 : Int) (v11 : Int) (v12 : Int) (v13 : List R_ii)
 | h3m5 (v0 : List R_iiiiiiiA) (v1 : List R_ii) (v2 : List R_iiiiiiiA) (v3 : Nat) (v7 : Int) (v8 : Int) (v9 : Int) (v10 : Int) (v11 : Int) (v12 : Int) (v13 : Int) (v14 : List R_ii)
 | h3m6 (v0 : List R_iiiiiiiA) (v1 : List R_ii) (v2 : List R_iiiiiiiA) (v3 : Nat) (v4 : Nat) (v7 : Int) (v8 : Int) (v9 : Int) (v10 : Int) (v11 : Int) (v12 : Int) (v13 : Int) (v14 : List R_ii)
 | h3m7 (v0 : List R_iiiiiiiA) (v1 : List R_ii) (v2 : List R_ii) (v3 : List R_iiiiiiiA) (v4 : Nat) (v5 : Nat) (v8 : Int) (v9 : Int) (v10 : Int) (v11 : Int) (v12 : Int) (v13 : Int) (v14 : Int) (v15 : List R_ii)
 | h4m0 (v0 : List R_ii)
 | h4m1 (v0 : List R_ii) (v1 : List R_ii) (v2 : Nat) (v3 : Bool) (v4 : Nat)
 | h4m2 (v0 : List R_ii) (v1 : List R_iiiiiiiA)
 | h4m3 (v0 : List R_ii) (v1 : List R_ii) (v2 : List R_iiiiiiiA) (v3 : Nat) (v4 : Bool) (v5 : Nat)

def Zdw (L0 : List R_iiiiiiiA) (a1 : Int) (a2 : Int) (N : Nat) : Option (law16_GraphClosedX ⊕ Zj) :=
 some (.inl (.h2m0 : law16_GraphClosedX))

def ZbL (L0 : List R_iiiiiiiA) (a1 : Int) (a2 : Int) (N : Nat) (v0 : List R_iiiiiiiA) : Option (law16_GraphClosedX ⊕ Zj) :=
 if (0 : Int) < (v0.length : Int) then
  some (.inl (.h3m0 (v0) ((v0.getD 0 R_iiiiiiiA.z).a0) ((v0.getD 0 R_iiiiiiiA.z).a1) ((v0.getD 0 R_iiiiiiiA.z).a2) ((v0.getD 0 R_iiiiiiiA.z).a3) ((v0.getD 0 R_iiiiiiiA.z).a4) ((v0.getD 0 R_iiiiiiiA.z).a5) ((v0.getD 0 R_iiiiiiiA.z).a6) ((v0.getD 0 R_iiiiiiiA.z).a7) : law16_GraphClosedX))
 else
 some (.inl (.h2m0 : law16_GraphClosedX))

def ZbM (L0 : List R_iiiiiiiA) (a1 : Int) (a2 : Int) (N : Nat) (v0 : List R_iiiiiiiA) (v1 : List R_ii) : Option (law16_GraphClosedX ⊕ Zj) :=
 if (0 : Int) < (v0.length : Int) then
  some (.inl (.h3m1 (v0) (v1) ((v0.getD 0 R_iiiiiiiA.z).a0) ((v0.getD 0 R_iiiiiiiA.z).a1) ((v0.getD 0 R_iiiiiiiA.z).a2) ((v0.getD 0 R_iiiiiiiA.z).a3) ((v0.getD 0 R_iiiiiiiA.z).a4) ((v0.getD 0 R_iiiiiiiA.z).a5) ((v0.getD 0 R_iiiiiiiA.z).a6) ((v0.getD 0 R_iiiiiiiA.z).a7) : law16_GraphClosedX))
 else
 some (.inl (.h2m1 (v1) : law16_GraphClosedX))

def Zdx (L0 : List R_iiiiiiiA) (a1 : Int) (a2 : Int) (N : Nat) (v0 : List R_iiiiiiiA) (v1 : List R_ii) : Option (law16_GraphClosedX ⊕ Zj) :=
 if (0 : Int) < (v0.length : Int) then
  some (.inl (.h3m2 (v0) (v1) (0) ((v0.getD 0 R_iiiiiiiA.z).a0) ((v0.getD 0 R_iiiiiiiA.z).a1) ((v0.getD 0 R_iiiiiiiA.z).a2) ((v0.getD 0 R_iiiiiiiA.z).a3) ((v0.getD 0 R_iiiiiiiA.z).a4) ((v0.getD 0 R_iiiiiiiA.z).a5) ((v0.getD 0 R_iiiiiiiA.z).a6) ((v0.getD 0 R_iiiiiiiA.z).a7) : law16_GraphClosedX))
 else
 some (.inl (.h2m2 (v1) : law16_GraphClosedX))

def ZbN (L0 : List R_iiiiiiiA) (a1 : Int) (a2 : Int) (N : Nat) (v0 : List R_iiiiiiiA) (v1 : List R_ii) (v2 : List R_ii) : Option (law16_GraphClosedX ⊕ Zj) :=
 if (0 : Int) < (v0.length : Int) then
  some (.inl (.h3m3 (v0) (v1) (v2) (0) ((v0.getD 0 R_iiiiiiiA.z).a0) ((v0.getD 0 R_iiiiiiiA.z).a1) ((v0.getD 0 R_iiiiiiiA.z).a2) ((v0.getD 0 R_iiiiiiiA.z).a3) ((v0.getD 0 R_iiiiiiiA.z).a4) ((v0.getD 0 R_iiiiiiiA.z).a5) ((v0.getD 0 R_iiiiiiiA.z).a6) ((v0.getD 0 R_iiiiiiiA.z).a7) : law16_GraphClosedX))
 else
 some (.inl (.h2m3 (v1) (v2) (0) : law16_GraphClosedX))

def Zbe (L0 : List R_iiiiiiiA) (a1 : Int) (a2 : Int) (N : Nat) (v0 : List R_iiiiiiiA) (v1 : List R_iiiiiiiA) (v2 : Nat) : Option (law16_GraphClosedX ⊕ Zj) :=
 if (v2 : Int) < (v0.length : Int) then
  some (.inl (.h3m4 (v0) (v1) (v2) ((v0.getD v2 R_iiiiiiiA.z).a0) ((v0.getD v2 R_iiiiiiiA.z).a1) ((v0.getD v2 R_iiiiiiiA.z).a2) ((v0.getD v2 R_iiiiiiiA.z).a3) ((v0.getD v2 R_iiiiiiiA.z).a4) ((v0.getD v2 R_iiiiiiiA.z).a5) ((v0.getD v2 R_iiiiiiiA.z).a6) ((v0.getD v2 R_iiiiiiiA.z).a7) : law16_GraphClosedX))
 else
 some (.inl (.h2m4 (v1) : law16_GraphClosedX))

def Zbf (L0 : List R_iiiiiiiA) (a1 : Int) (a2 : Int) (N : Nat) (v0 : List R_iiiiiiiA) (v1 : List R_ii) (v2 : List R_iiiiiiiA) (v3 : Nat) : Option (law16_GraphClosedX ⊕ Zj) :=
 if (v3 : Int) < (v0.length : Int) then
  some (.inl (.h3m5 (v0) (v1) (v2) (v3) ((v0.getD v3 R_iiiiiiiA.z).a0) ((v0.getD v3 R_iiiiiiiA.z).a1) ((v0.getD v3 R_iiiiiiiA.z).a2) ((v0.getD v3 R_iiiiiiiA.z).a3) ((v0.getD v3 R_iiiiiiiA.z).a4) ((v0.getD v3 R_iiiiiiiA.z).a5) ((v0.getD v3 R_iiiiiiiA.z).a6) ((v0.getD v3 R_iiiiiiiA.z).a7) : law16_GraphClosedX))
 else
 some (.inl (.h2m5 (v1) (v2) : law16_GraphClosedX))

def Zdy (L0 : List R_iiiiiiiA) (a1 : Int) (a2 : Int) (N : Nat) (v0 : List R_iiiiiiiA) (v1 : List R_ii) (v2 : List R_iiiiiiiA) (v3 : Nat) : Option (law16_GraphClosedX ⊕ Zj) :=
 if (v3 : Int) < (v0.length : Int) then
  some (.inl (.h3m6 (v0) (v1) (v2) (v3) (0) ((v0.getD v3 R_iiiiiiiA.z).a0) ((v0.getD v3 R_iiiiiiiA.z).a1) ((v0.getD v3 R_iiiiiiiA.z).a2) ((v0.getD v3 R_iiiiiiiA.z).a3) ((v0.getD v3 R_iiiiiiiA.z).a4) ((v0.getD v3 R_iiiiiiiA.z).a5) ((v0.getD v3 R_iiiiiiiA.z).a6) ((v0.getD v3 R_iiiiiiiA.z).a7) : law16_GraphClosedX))
 else
 some (.inl (.h2m6 (v1) (v2) : law16_GraphClosedX))

def Zbg (L0 : List R_iiiiiiiA) (a1 : Int) (a2 : Int) (N : Nat) (v0 : List R_iiiiiiiA) (v1 : List R_ii) (v2 : List R_ii) (v3 : List R_iiiiiiiA) (v4 : Nat) : Option (law16_GraphClosedX ⊕ Zj) :=
 if (v4 : Int) < (v0.length : Int) then
  some (.inl (.h3m7 (v0) (v1) (v2) (v3) (v4) (0) ((v0.getD v4 R_iiiiiiiA.z).a0) ((v0.getD v4 R_iiiiiiiA.z).a1) ((v0.getD v4 R_iiiiiiiA.z).a2) ((v0.getD v4 R_iiiiiiiA.z).a3) ((v0.getD v4 R_iiiiiiiA.z).a4) ((v0.getD v4 R_iiiiiiiA.z).a5) ((v0.getD v4 R_iiiiiiiA.z).a6) ((v0.getD v4 R_iiiiiiiA.z).a7) : law16_GraphClosedX))
 else
 some (.inl (.h2m7 (v1) (v2) (v3) (0) : law16_GraphClosedX))

def ZbO (L0 : List R_iiiiiiiA) (a1 : Int) (a2 : Int) (N : Nat) : Option (law16_GraphClosedX ⊕ Zj) :=
 ((Zbu (a1) (a2) N).bind fun r => match r with
 | .r0 =>
  some (.inr (.r0 (true) : Zj))
 )

def Zdz (L0 : List R_iiiiiiiA) (a1 : Int) (a2 : Int) (N : Nat) (v0 : List R_ii) : Option (law16_GraphClosedX ⊕ Zj) :=
 ((Zbu (a1) (a2) N).bind fun r => match r with
 | .r0 =>
  some (.inr (.r0 (true) : Zj))
 )

def Zd0 (L0 : List R_iiiiiiiA) (a1 : Int) (a2 : Int) (N : Nat) (v0 : List R_ii) : Option (law16_GraphClosedX ⊕ Zj) :=
 if (0 : Int) < (v0.length : Int) then
  some (.inl (.h4m0 (v0) : law16_GraphClosedX))
 else
 ((Zbu (a1) (a2) N).bind fun r => match r with
 | .r0 =>
  some (.inr (.r0 (true) : Zj))
 )

def Zd1 (L0 : List R_iiiiiiiA) (a1 : Int) (a2 : Int) (N : Nat) (v0 : List R_ii) (v1 : List R_ii) (v2 : Nat) : Option (law16_GraphClosedX ⊕ Zj) :=
 if (v2 : Int) < (v0.length : Int) then
  some (.inl (.h4m1 (v0) (v1) (v2) (false) (0) : law16_GraphClosedX))
 else
 ((Zbu (a1) (a2) N).bind fun r => match r with
 | .r0 =>
  some (.inr (.r0 (true) : Zj))
 )

def ZbP (L0 : List R_iiiiiiiA) (a1 : Int) (a2 : Int) (N : Nat) (v0 : List R_iiiiiiiA) : Option (law16_GraphClosedX ⊕ Zj) :=
 ((ZP (v0) (a1) (a2) N).bind fun r => match r with
 | .r0 =>
  some (.inr (.r0 (true) : Zj))
 | .r1 y0_0 =>
  if (y0_0.length : Int) = (0 : Int) then
   some (.inr (.r0 (true) : Zj))
  else
  some (.inr (.r0 (false) : Zj))
 )

def ZbQ (L0 : List R_iiiiiiiA) (a1 : Int) (a2 : Int) (N : Nat) (v0 : List R_ii) (v1 : List R_iiiiiiiA) : Option (law16_GraphClosedX ⊕ Zj) :=
 ((ZP (v1) (a1) (a2) N).bind fun r => match r with
 | .r0 =>
  some (.inr (.r0 (true) : Zj))
 | .r1 y0_0 =>
  if (y0_0.length : Int) = (0 : Int) then
   some (.inr (.r0 (true) : Zj))
  else
  some (.inr (.r0 (false) : Zj))
 )

def Zd2 (L0 : List R_iiiiiiiA) (a1 : Int) (a2 : Int) (N : Nat) (v0 : List R_ii) (v1 : List R_iiiiiiiA) : Option (law16_GraphClosedX ⊕ Zj) :=
 if (0 : Int) < (v0.length : Int) then
  some (.inl (.h4m2 (v0) (v1) : law16_GraphClosedX))
 else
 ((ZP (v1) (a1) (a2) N).bind fun r => match r with
 | .r0 =>
  some (.inr (.r0 (true) : Zj))
 | .r1 y1_0 =>
  if (y1_0.length : Int) = (0 : Int) then
   some (.inr (.r0 (true) : Zj))
  else
  some (.inr (.r0 (false) : Zj))
 )

def Zbh (L0 : List R_iiiiiiiA) (a1 : Int) (a2 : Int) (N : Nat) (v0 : List R_ii) (v1 : List R_ii) (v2 : List R_iiiiiiiA) (v3 : Nat) : Option (law16_GraphClosedX ⊕ Zj) :=
 if (v3 : Int) < (v0.length : Int) then
  some (.inl (.h4m3 (v0) (v1) (v2) (v3) (false) (0) : law16_GraphClosedX))
 else
 ((ZP (v2) (a1) (a2) N).bind fun r => match r with
 | .r0 =>
  some (.inr (.r0 (true) : Zj))
 | .r1 y1_0 =>
  if (y1_0.length : Int) = (0 : Int) then
   some (.inr (.r0 (true) : Zj))
  else
  some (.inr (.r0 (false) : Zj))
 )

def Zd3 (L0 : List R_iiiiiiiA) (a1 : Int) (a2 : Int) (N : Nat) (v0 : List R_iiiiiiiA) (v5 : Int) (v6 : Int) (v7 : Int) (v8 : Int) (v9 : Int) (v10 : Int) (v11 : Int) (v12 : List R_ii) : Option (law16_GraphClosedX ⊕ Zj) :=
 some (.inl (.h1m5 (v0) (([(⟨v5, v6, v7, v8, v9, v10, v11, v12⟩ : R_iiiiiiiA)] : List R_iiiiiiiA)) (1) : law16_GraphClosedX))

def Zd4 (L0 : List R_iiiiiiiA) (a1 : Int) (a2 : Int) (N : Nat) (v0 : List R_iiiiiiiA) (v1 : List R_ii) (v6 : Int) (v7 : Int) (v8 : Int) (v9 : Int) (v10 : Int) (v11 : Int) (v12 : Int) (v13 : List R_ii) : Option (law16_GraphClosedX ⊕ Zj) :=
 some (.inl (.h1m6 (v0) (v1) (([(⟨v6, v7, v8, v9, v10, v11, v12, v13⟩ : R_iiiiiiiA)] : List R_iiiiiiiA)) (1) : law16_GraphClosedX))

def Zd5 (L0 : List R_iiiiiiiA) (a1 : Int) (a2 : Int) (N : Nat) (v0 : List R_iiiiiiiA) (v1 : List R_ii) (v3 : Nat) (v6 : Int) (v7 : Int) (v8 : Int) (v9 : Int) (v10 : Int) (v11 : Int) (v12 : Int) (v13 : List R_ii) : Option (law16_GraphClosedX ⊕ Zj) :=
 if (v3 : Int) < (v1.length : Int) then
  if ((v1.getD v3 R_ii.z).a0 = v6 ∧ (v1.getD v3 R_ii.z).a1 = v7) then
   if (((v3 + 1) : Nat) : Int) ≤ (9223372036854775807 : Int) then
    some (.inl (.h3m2 (v0) (v1) ((v3 + 1)) (v6) (v7) (v8) (v9) (v10) ((2 : Int)) (v12) (v13) : law16_GraphClosedX))
   else
   none
  else
  if (((v3 + 1) : Nat) : Int) ≤ (9223372036854775807 : Int) then
   some (.inl (.h3m2 (v0) (v1) ((v3 + 1)) (v6) (v7) (v8) (v9) (v10) (v11) (v12) (v13) : law16_GraphClosedX))
  else
  none
 else
 some (.inl (.h1m7 (v0) (v1) (([(⟨v6, v7, v8, v9, v10, v11, v12, v13⟩ : R_iiiiiiiA)] : List R_iiiiiiiA)) (1) : law16_GraphClosedX))

def Za8 (L0 : List R_iiiiiiiA) (a1 : Int) (a2 : Int) (N : Nat) (v0 : List R_iiiiiiiA) (v1 : List R_ii) (v2 : List R_ii) (v4 : Nat) (v7 : Int) (v8 : Int) (v9 : Int) (v10 : Int) (v11 : Int) (v12 : Int) (v13 : Int) (v14 : List R_ii) : Option (law16_GraphClosedX ⊕ Zj) :=
 if (v4 : Int) < (v1.length : Int) then
  if ((v1.getD v4 R_ii.z).a0 = v7 ∧ (v1.getD v4 R_ii.z).a1 = v8) then
   if (((v4 + 1) : Nat) : Int) ≤ (9223372036854775807 : Int) then
    some (.inl (.h3m3 (v0) (v1) (v2) ((v4 + 1)) (v7) (v8) (v9) (v10) (v11) ((2 : Int)) (v13) (v14) : law16_GraphClosedX))
   else
   none
  else
  if (((v4 + 1) : Nat) : Int) ≤ (9223372036854775807 : Int) then
   some (.inl (.h3m3 (v0) (v1) (v2) ((v4 + 1)) (v7) (v8) (v9) (v10) (v11) (v12) (v13) (v14) : law16_GraphClosedX))
  else
  none
 else
 some (.inl (.h1m8 (v0) (v1) (v2) (([(⟨v7, v8, v9, v10, v11, v12, v13, v14⟩ : R_iiiiiiiA)] : List R_iiiiiiiA)) (1) : law16_GraphClosedX))

def ZbR (L0 : List R_iiiiiiiA) (a1 : Int) (a2 : Int) (N : Nat) (v0 : List R_iiiiiiiA) (v1 : List R_iiiiiiiA) (v2 : Nat) (v6 : Int) (v7 : Int) (v8 : Int) (v9 : Int) (v10 : Int) (v11 : Int) (v12 : Int) (v13 : List R_ii) : Option (law16_GraphClosedX ⊕ Zj) :=
 if v1.length ≤ 100000 then
  if (((v2 + 1) : Nat) : Int) ≤ (9223372036854775807 : Int) then
   some (.inl (.h1m5 (v0) ((v1 ++ ([(⟨v6, v7, v8, v9, v10, v11, v12, v13⟩ : R_iiiiiiiA)] : List R_iiiiiiiA))) ((v2 + 1)) : law16_GraphClosedX))
  else
  none
 else
 none

def ZbS (L0 : List R_iiiiiiiA) (a1 : Int) (a2 : Int) (N : Nat) (v0 : List R_iiiiiiiA) (v1 : List R_ii) (v2 : List R_iiiiiiiA) (v3 : Nat) (v7 : Int) (v8 : Int) (v9 : Int) (v10 : Int) (v11 : Int) (v12 : Int) (v13 : Int) (v14 : List R_ii) : Option (law16_GraphClosedX ⊕ Zj) :=
 if v2.length ≤ 100000 then
  if (((v3 + 1) : Nat) : Int) ≤ (9223372036854775807 : Int) then
   some (.inl (.h1m6 (v0) (v1) ((v2 ++ ([(⟨v7, v8, v9, v10, v11, v12, v13, v14⟩ : R_iiiiiiiA)] : List R_iiiiiiiA))) ((v3 + 1)) : law16_GraphClosedX))
  else
  none
 else
 none

def Zd6 (L0 : List R_iiiiiiiA) (a1 : Int) (a2 : Int) (N : Nat) (v0 : List R_iiiiiiiA) (v1 : List R_ii) (v2 : List R_iiiiiiiA) (v3 : Nat) (v4 : Nat) (v7 : Int) (v8 : Int) (v9 : Int) (v10 : Int) (v11 : Int) (v12 : Int) (v13 : Int) (v14 : List R_ii) : Option (law16_GraphClosedX ⊕ Zj) :=
 if (v4 : Int) < (v1.length : Int) then
  if ((v1.getD v4 R_ii.z).a0 = v7 ∧ (v1.getD v4 R_ii.z).a1 = v8) then
   if (((v4 + 1) : Nat) : Int) ≤ (9223372036854775807 : Int) then
    some (.inl (.h3m6 (v0) (v1) (v2) (v3) ((v4 + 1)) (v7) (v8) (v9) (v10) (v11) ((2 : Int)) (v13) (v14) : law16_GraphClosedX))
   else
   none
  else
  if (((v4 + 1) : Nat) : Int) ≤ (9223372036854775807 : Int) then
   some (.inl (.h3m6 (v0) (v1) (v2) (v3) ((v4 + 1)) (v7) (v8) (v9) (v10) (v11) (v12) (v13) (v14) : law16_GraphClosedX))
  else
  none
 else
 if v2.length ≤ 100000 then
  if (((v3 + 1) : Nat) : Int) ≤ (9223372036854775807 : Int) then
   some (.inl (.h1m7 (v0) (v1) ((v2 ++ ([(⟨v7, v8, v9, v10, v11, v12, v13, v14⟩ : R_iiiiiiiA)] : List R_iiiiiiiA))) ((v3 + 1)) : law16_GraphClosedX))
  else
  none
 else
 none

def Za9 (L0 : List R_iiiiiiiA) (a1 : Int) (a2 : Int) (N : Nat) (v0 : List R_iiiiiiiA) (v1 : List R_ii) (v2 : List R_ii) (v3 : List R_iiiiiiiA) (v4 : Nat) (v5 : Nat) (v8 : Int) (v9 : Int) (v10 : Int) (v11 : Int) (v12 : Int) (v13 : Int) (v14 : Int) (v15 : List R_ii) : Option (law16_GraphClosedX ⊕ Zj) :=
 if (v5 : Int) < (v1.length : Int) then
  if ((v1.getD v5 R_ii.z).a0 = v8 ∧ (v1.getD v5 R_ii.z).a1 = v9) then
   if (((v5 + 1) : Nat) : Int) ≤ (9223372036854775807 : Int) then
    some (.inl (.h3m7 (v0) (v1) (v2) (v3) (v4) ((v5 + 1)) (v8) (v9) (v10) (v11) (v12) ((2 : Int)) (v14) (v15) : law16_GraphClosedX))
   else
   none
  else
  if (((v5 + 1) : Nat) : Int) ≤ (9223372036854775807 : Int) then
   some (.inl (.h3m7 (v0) (v1) (v2) (v3) (v4) ((v5 + 1)) (v8) (v9) (v10) (v11) (v12) (v13) (v14) (v15) : law16_GraphClosedX))
  else
  none
 else
 if v3.length ≤ 100000 then
  if (((v4 + 1) : Nat) : Int) ≤ (9223372036854775807 : Int) then
   some (.inl (.h1m8 (v0) (v1) (v2) ((v3 ++ ([(⟨v8, v9, v10, v11, v12, v13, v14, v15⟩ : R_iiiiiiiA)] : List R_iiiiiiiA))) ((v4 + 1)) : law16_GraphClosedX))
  else
  none
 else
 none

def Zd7 (L0 : List R_iiiiiiiA) (a1 : Int) (a2 : Int) (N : Nat) (v0 : List R_ii) : Option (law16_GraphClosedX ⊕ Zj) :=
 some (.inr (.r0 (false) : Zj))

def Zd8 (L0 : List R_iiiiiiiA) (a1 : Int) (a2 : Int) (N : Nat) (v0 : List R_ii) (v1 : List R_ii) (v2 : Nat) (v3 : Bool) (v4 : Nat) : Option (law16_GraphClosedX ⊕ Zj) :=
 if v3 = true then
  if (v4 : Int) < (v1.length : Int) then
   if (((v4 + 1) : Nat) : Int) ≤ (9223372036854775807 : Int) then
    some (.inl (.h4m1 (v0) (v1) (v2) (true) ((v4 + 1)) : law16_GraphClosedX))
   else
   none
  else
  if (((v2 + 1) : Nat) : Int) ≤ (9223372036854775807 : Int) then
   some (.inl (.h2m3 (v0) (v1) ((v2 + 1)) : law16_GraphClosedX))
  else
  none
 else
 if (v4 : Int) < (v1.length : Int) then
  if v2 < v0.length then
   if ((v1.getD v4 R_ii.z).a0 = (v0.getD v2 R_ii.z).a0 ∧ (v1.getD v4 R_ii.z).a1 = (v0.getD v2 R_ii.z).a1) then
    if (((v4 + 1) : Nat) : Int) ≤ (9223372036854775807 : Int) then
     some (.inl (.h4m1 (v0) (v1) (v2) (true) ((v4 + 1)) : law16_GraphClosedX))
    else
    none
   else
   if (((v4 + 1) : Nat) : Int) ≤ (9223372036854775807 : Int) then
    some (.inl (.h4m1 (v0) (v1) (v2) (false) ((v4 + 1)) : law16_GraphClosedX))
   else
   none
  else
  none
 else
 some (.inr (.r0 (false) : Zj))

def Zd9 (L0 : List R_iiiiiiiA) (a1 : Int) (a2 : Int) (N : Nat) (v0 : List R_ii) (v1 : List R_iiiiiiiA) : Option (law16_GraphClosedX ⊕ Zj) :=
 some (.inr (.r0 (false) : Zj))

def Zaf (L0 : List R_iiiiiiiA) (a1 : Int) (a2 : Int) (N : Nat) (v0 : List R_ii) (v1 : List R_ii) (v2 : List R_iiiiiiiA) (v3 : Nat) (v4 : Bool) (v5 : Nat) : Option (law16_GraphClosedX ⊕ Zj) :=
 if v4 = true then
  if (v5 : Int) < (v1.length : Int) then
   if (((v5 + 1) : Nat) : Int) ≤ (9223372036854775807 : Int) then
    some (.inl (.h4m3 (v0) (v1) (v2) (v3) (true) ((v5 + 1)) : law16_GraphClosedX))
   else
   none
  else
  if (((v3 + 1) : Nat) : Int) ≤ (9223372036854775807 : Int) then
   some (.inl (.h2m7 (v0) (v1) (v2) ((v3 + 1)) : law16_GraphClosedX))
  else
  none
 else
 if (v5 : Int) < (v1.length : Int) then
  if v3 < v0.length then
   if ((v1.getD v5 R_ii.z).a0 = (v0.getD v3 R_ii.z).a0 ∧ (v1.getD v5 R_ii.z).a1 = (v0.getD v3 R_ii.z).a1) then
    if (((v5 + 1) : Nat) : Int) ≤ (9223372036854775807 : Int) then
     some (.inl (.h4m3 (v0) (v1) (v2) (v3) (true) ((v5 + 1)) : law16_GraphClosedX))
    else
    none
   else
   if (((v5 + 1) : Nat) : Int) ≤ (9223372036854775807 : Int) then
    some (.inl (.h4m3 (v0) (v1) (v2) (v3) (false) ((v5 + 1)) : law16_GraphClosedX))
   else
   none
  else
  none
 else
 some (.inr (.r0 (false) : Zj))

def Zx (L0 : List R_iiiiiiiA) (a1 : Int) (a2 : Int) (N : Nat) : law16_GraphClosedX → Option (law16_GraphClosedX ⊕ Zj)
 | .h1m0 => Zdw L0 a1 a2 N
 | .h1m1 v0 => ZbL L0 a1 a2 N v0
 | .h1m2 v0 v1 => ZbM L0 a1 a2 N v0 v1
 | .h1m3 v0 v1 => Zdx L0 a1 a2 N v0 v1
 | .h1m4 v0 v1 v2 => ZbN L0 a1 a2 N v0 v1 v2
 | .h1m5 v0 v1 v2 => Zbe L0 a1 a2 N v0 v1 v2
 | .h1m6 v0 v1 v2 v3 => Zbf L0 a1 a2 N v0 v1 v2 v3
 | .h1m7 v0 v1 v2 v3 => Zdy L0 a1 a2 N v0 v1 v2 v3
 | .h1m8 v0 v1 v2 v3 v4 => Zbg L0 a1 a2 N v0 v1 v2 v3 v4
 | .h2m0 => ZbO L0 a1 a2 N
 | .h2m1 v0 => Zdz L0 a1 a2 N v0
 | .h2m2 v0 => Zd0 L0 a1 a2 N v0
 | .h2m3 v0 v1 v2 => Zd1 L0 a1 a2 N v0 v1 v2
 | .h2m4 v0 => ZbP L0 a1 a2 N v0
 | .h2m5 v0 v1 => ZbQ L0 a1 a2 N v0 v1
 | .h2m6 v0 v1 => Zd2 L0 a1 a2 N v0 v1
 | .h2m7 v0 v1 v2 v3 => Zbh L0 a1 a2 N v0 v1 v2 v3
 | .h3m0 v0 v5 v6 v7 v8 v9 v10 v11 v12 => Zd3 L0 a1 a2 N v0 v5 v6 v7 v8 v9 v10 v11 v12
 | .h3m1 v0 v1 v6 v7 v8 v9 v10 v11 v12 v13 => Zd4 L0 a1 a2 N v0 v1 v6 v7 v8 v9 v10 v11 v12 v13
 | .h3m2 v0 v1 v3 v6 v7 v8 v9 v10 v11 v12 v13 => Zd5 L0 a1 a2 N v0 v1 v3 v6 v7 v8 v9 v10 v11 v12 v13
 | .h3m3 v0 v1 v2 v4 v7 v8 v9 v10 v11 v12 v13 v14 => Za8 L0 a1 a2 N v0 v1 v2 v4 v7 v8 v9 v10 v11 v12 v13 v14
 | .h3m4 v0 v1 v2 v6 v7 v8 v9 v10 v11 v12 v13 => ZbR L0 a1 a2 N v0 v1 v2 v6 v7 v8 v9 v10 v11 v12 v13
 | .h3m5 v0 v1 v2 v3 v7 v8 v9 v10 v11 v12 v13 v14 => ZbS L0 a1 a2 N v0 v1 v2 v3 v7 v8 v9 v10 v11 v12 v13 v14
 | .h3m6 v0 v1 v2 v3 v4 v7 v8 v9 v10 v11 v12 v13 v14 => Zd6 L0 a1 a2 N v0 v1 v2 v3 v4 v7 v8 v9 v10 v11 v12 v13 v14
 | .h3m7 v0 v1 v2 v3 v4 v5 v8 v9 v10 v11 v12 v13 v14 v15 => Za9 L0 a1 a2 N v0 v1 v2 v3 v4 v5 v8 v9 v10 v11 v12 v13 v14 v15
 | .h4m0 v0 => Zd7 L0 a1 a2 N v0
 | .h4m1 v0 v1 v2 v3 v4 => Zd8 L0 a1 a2 N v0 v1 v2 v3 v4
 | .h4m2 v0 v1 => Zd9 L0 a1 a2 N v0 v1
 | .h4m3 v0 v1 v2 v3 v4 v5 => Zaf L0 a1 a2 N v0 v1 v2 v3 v4 v5

def Zb4 (L0 : List R_iiiiiiiA) (a1 : Int) (a2 : Int) (N : Nat) : Option (law16_GraphClosedX ⊕ Zj) :=
 ((Ze4 (L0) N).bind fun r => match r with
 | .r0 =>
  ((Zbu (a1) (a2) N).bind fun r => match r with
  | .r0 =>
   ((Zdr (([(⟨a1, a2⟩ : R_ii)] : List R_ii)) N).bind fun r => match r with
   | .r0 =>
    some (.inl (.h1m0 : law16_GraphClosedX))
   )
  )
 | .r1 y0_0 =>
  ((ZP (y0_0) (a1) (a2) N).bind fun r => match r with
  | .r0 =>
   ((ZbE (y0_0) (([(⟨a1, a2⟩ : R_ii)] : List R_ii)) N).bind fun r => match r with
   | .r0 =>
    some (.inl (.h1m1 (y0_0) : law16_GraphClosedX))
   | .r1 y2_0 =>
    some (.inl (.h1m2 (y0_0) (y2_0) : law16_GraphClosedX))
   )
  | .r1 y1_0 =>
   ((ZbE (y0_0) (([(⟨a1, a2⟩ : R_ii)] : List R_ii)) N).bind fun r => match r with
   | .r0 =>
    some (.inl (.h1m3 (y0_0) (y1_0) : law16_GraphClosedX))
   | .r1 y2_0 =>
    some (.inl (.h1m4 (y0_0) (y1_0) (y2_0) : law16_GraphClosedX))
   )
  )
 )

def Zh6 (L0 : List R_iiiiiiiA) (a1 : Int) (a2 : Int) (N : Nat) : Option Zj := goM (Zx L0 a1 a2 N) N (Zb4 L0 a1 a2 N)
end Ev
end Go.Proofs.Ytmcgcapkldpjlaa
/- How records are written, and which functions are told. -/
namespace Go.Proofs.Ytmcgcapkldpjlaa
open Go.RowKit
namespace Ev
set_option linter.unusedVariables false
abbrev vq : Value := .int .i64 0
abbrev vf : Value := .bool false
abbrev vT : Value := .bool true
abbrev vn : Value := .slice none 0 0
abbrev vtt : Value := .tuple #[]
noncomputable abbrev dS {α : Type} (a : α) : Bool := dP (a = a)
theorem ltA {p : Prop} (h : p := by first | omega | (simp only [List.length_set, List.length_append, List.length_cons, List.length_nil, List.length_replicate, List.length_take, List.length_drop] at * <;> omega)) : p := h
theorem eqA {p : Prop} (h : p := by first | rfl | omega | (simp only [List.length_set, List.length_append, List.length_cons, List.length_nil, List.length_replicate, List.length_take, List.length_drop] at * <;> omega)) : p := h
theorem rr {p q : Prop} (h : p := by rfl) (h2 : q := by rfl) : p ∧ q := ⟨h, h2⟩
section
variable {l : List (Bool × Bool)}
theorem oT {a b : Int} (hl : ∀ q ∈ l, q.1 = q.2) (h : a = b := by omega) : ∀ q ∈ ((a == b), true) :: l, q.1 = q.2 := Zb (bT h) hl
theorem oF {a b : Int} (hl : ∀ q ∈ l, q.1 = q.2) (h : ¬ a = b := by omega) : ∀ q ∈ ((a == b), false) :: l, q.1 = q.2 := Zb (bF h) hl
theorem oD {a b : Int} (hl : ∀ q ∈ l, q.1 = q.2) (h : a ≠ b := by omega) : ∀ q ∈ ((a != b), true) :: l, q.1 = q.2 := Zb (bne_iff_ne.2 h) hl
theorem oE {a b : Int} (hl : ∀ q ∈ l, q.1 = q.2) (h : a = b := by omega) : ∀ q ∈ ((a != b), false) :: l, q.1 = q.2 := Zb (bne_eq_false_iff_eq.2 h) hl
theorem oY {p : Prop} [Decidable p] (hl : ∀ q ∈ l, q.1 = q.2) (h : p := by omega) : ∀ q ∈ (decide p, true) :: l, q.1 = q.2 := Zb (decide_eq_true h) hl
theorem oN {p : Prop} [Decidable p] (hl : ∀ q ∈ l, q.1 = q.2) (h : ¬ p := by omega) : ∀ q ∈ (decide p, false) :: l, q.1 = q.2 := Zb (decide_eq_false h) hl
theorem oR {α : Type} {a b : α} (hl : ∀ q ∈ l, q.1 = q.2) (h : a = b := by rfl) : ∀ q ∈ (dP (a = b), true) :: l, q.1 = q.2 := Zb (Zg h) hl
theorem oB {a b : Nat} (hl : ∀ q ∈ l, q.1 = q.2) (h : a < b := by omega) : ∀ q ∈ (Nat.blt a b, true) :: l, q.1 = q.2 := Zb (Zrf h) hl
theorem oL {a b : Nat} (hl : ∀ q ∈ l, q.1 = q.2) (h : a < b := by first | omega | (simp only [List.length_set, List.length_append, List.length_cons, List.length_nil, List.length_replicate, List.length_take, List.length_drop] at * <;> omega)) : ∀ q ∈ (Nat.blt a b, true) :: l, q.1 = q.2 := Zb (Zrf h) hl
theorem oI {a b : Int} (hl : ∀ q ∈ l, q.1 = q.2) (h : a = b := by first | rfl | exact Zs9 (by omega)) : ∀ q ∈ ((a == b), true) :: l, q.1 = q.2 := Zb (bT h) hl
end
def E_ii : Enc R_ii := ⟨fun x => [.i x.a0, .i x.a1], 2, R_ii.z, fun _ => rfl, fun _ => rfl⟩
noncomputable def E_iiiiiiiA : Enc R_iiiiiiiA := ⟨fun x => [.i x.a0, .i x.a1, .i x.a2, .i x.a3, .i x.a4, .i x.a5, .i x.a6, (mc E_ii x.a7)], 8, R_iiiiiiiA.z, fun _ => rfl, fun _ => rfl⟩
def ZI (L : List RA) : List MapEntry := L.map fun x => ⟨.agg #[.int .i64 x.a0, .int .i64 x.a1], .int .i64 x.a2, 0⟩
def Zc (L : List RA) : Obj := .map (ZI L).toArray 0
section
variable {P : Program} {kt : TypeId}
theorem ZpO (he : ∀ a b c d : Int, ZlK P kt (.agg #[.int .i64 a, .int .i64 b]) (.agg #[.int .i64 c, .int .i64 d]) = some ((a == c) && ((b == d) && true))) (k l : Int) : ∀ (L : List RA) (i : Nat), Zih P kt (.agg #[.int .i64 k, .int .i64 l]) (ZI L) i = some ((L.findIdx? (fun x => k == x.a0 && l == x.a1)).map fun j => (i + j, .int .i64 (Za5 L k l)))
 | [], i => rfl
 | x :: L, i => by
  have ih := ZpO he k l L (i + 1)
  simp only [ZI, List.map_cons, Zih, he, Bool.and_true]
  simp only [ZI] at ih
  have hf : Zbw (.agg #[.int .i64 x.a0, .int .i64 x.a1]) = true := rfl
  rw [hf, cond_true, List.findIdx?_cons]
  cases h : (k == x.a0 && l == x.a1) with
  | true => simp [Za5, List.find?_cons, h]
  | false =>
   have hg : Za5 (x :: L) k l = Za5 L k l := by simp only [Za5, List.find?_cons, h]
   rw [hg]
   simp only [ih, Bool.false_eq_true, if_false]
   cases L.findIdx? (fun x => k == x.a0 && l == x.a1) with
   | none => rfl
   | some j => simp; omega
theorem Zro {L : List RA} {k l : Int} : Zav L k l = (L.findIdx? (fun x => k == x.a0 && l == x.a1)).isSome := by
 induction L with
 | nil => rfl
 | cons x L ih =>
  unfold Zav at ih ⊢
  rw [List.any_cons, List.findIdx?_cons, ih]
  cases h : (k == x.a0 && l == x.a1) with
  | true => rfl
  | false => cases L.findIdx? (fun x => k == x.a0 && l == x.a1) <;> rfl
variable {fs : Array Field} (hu : P.underlying kt = some (.struct fs)) (hk : ∀ a b : Int, ZlM P #[.int .i64 a, .int .i64 b] fs.toList = true) (he : ∀ a b c d : Int, ZlK P kt (.agg #[.int .i64 a, .int .i64 b]) (.agg #[.int .i64 c, .int .i64 d]) = some ((a == c) && ((b == d) && true)))
include hu hk he
theorem Zm0 (k l : Int) (L : List RA) : ZaB P kt (.agg #[.int .i64 k, .int .i64 l]) (ZI L) = some ((L.findIdx? (fun x => k == x.a0 && l == x.a1)).map fun j => (j, .int .i64 (Za5 L k l))) := by
 unfold ZaB
 rw [hu]
 show (bif ZlM P #[.int .i64 k, .int .i64 l] fs.toList then _ else _) = _
 rw [hk, cond_true, ZpO he]
 simp
theorem Zst {L : List RA} {k l : Int} (h : Zav L k l = true) : (ZaB P kt (.agg #[.int .i64 k, .int .i64 l]) (ZI L)).map (Option.map Prod.snd) = some (some (.int .i64 (Za5 L k l))) := by
 rw [Zm0 hu hk he]
 rw [Zro] at h
 cases hi : L.findIdx? (fun x => k == x.a0 && l == x.a1) with
 | none => rw [hi] at h; cases h
 | some j => rfl
theorem Zsu {L : List RA} {k l : Int} (h : ¬ (Zav L k l = true)) : (ZaB P kt (.agg #[.int .i64 k, .int .i64 l]) (ZI L)).map (Option.map Prod.snd) = some none := by
 rw [Zm0 hu hk he]
 rw [Zro] at h
 cases hi : L.findIdx? (fun x => k == x.a0 && l == x.a1) with
 | none => rfl
 | some j => rw [hi] at h; exact absurd rfl h
omit hu hk he in
theorem ZpP (k l v : Int) : ∀ (L : List RA), (match L.findIdx? (fun x => k == x.a0 && l == x.a1) with | none => ZI L ++ [⟨.agg #[.int .i64 k, .int .i64 l], .int .i64 v, 0⟩] | some j => (ZI L).modify j fun e => ⟨.agg #[.int .i64 k, .int .i64 l], .int .i64 v, e.born⟩) = ZI (ZC L k l v)
 | [] => rfl
 | x :: L => by
  rw [List.findIdx?_cons]
  cases h : (k == x.a0 && l == x.a1) with
  | true =>
   simp only [if_true, ZC, h]
   simp [ZI]
  | false =>
   simp only [Bool.false_eq_true, if_false, ZC, h]
   have ih := ZpP k l v L
   cases hi : L.findIdx? (fun x => k == x.a0 && l == x.a1) with
   | none =>
    rw [hi] at ih
    simp only [Option.map_none]
    simp only [ZI, List.map_cons, List.cons_append] at ih ⊢
    rw [ih]
   | some j =>
    rw [hi] at ih
    simp only [Option.map_some]
    simp only [ZI, List.map_cons, List.modify_succ_cons] at ih ⊢
    rw [ih]
omit hu hk he in
theorem ZsD {k l : Int} : ∀ {L : List RA} {j : Nat}, L.findIdx? (fun x => k == x.a0 && l == x.a1) = some j → (((ZI L)[j]?).map (·.key)).getD (.agg #[.int .i64 k, .int .i64 l]) = .agg #[.int .i64 k, .int .i64 l] := by
 intro L j h
 obtain ⟨hj, hp, _⟩ := List.findIdx?_eq_some_iff_getElem.1 h
 simp only [Bool.and_eq_true, beq_iff_eq] at hp
 simp [ZI, hj, hp.1, hp.2]
theorem ZsE (L : List RA) (k l v : Int) : putM P kt (.agg #[.int .i64 k, .int .i64 l]) (.int .i64 v) (ZI L) = some (ZI (ZC L k l v)) := by
 unfold putM
 rw [Zm0 hu hk he]
 have h := ZpP k l v L
 cases hi : L.findIdx? (fun x => k == x.a0 && l == x.a1) with
 | none => rw [hi] at h; exact congrArg some h
 | some j =>
  rw [hi] at h
  simp only [Option.map_some]
  rw [ZsD hi]
  have hs : Instr.sameBits 10000 (.agg #[.int .i64 k, .int .i64 l]) (.agg #[.int .i64 k, .int .i64 l]) = true := by
   simp [Instr.sameBits]
  rw [hs]
  exact congrArg some h
end
theorem Zfu {L : List RA} {k l : Int} (h : Zav L k l = true) : (ZaB Try.prog 25 (.agg #[.int .i64 k, .int .i64 l]) (ZI L)).map (Option.map Prod.snd) = some (some (.int .i64 (Za5 L k l))) := Zst Try.underlying25 (fun _ _ => by kernel_rfl) (fun _ _ _ _ => by kernel_rfl) h
theorem ZdP {L : List RA} {k l : Int} (h : ¬ (Zav L k l = true)) : (ZaB Try.prog 25 (.agg #[.int .i64 k, .int .i64 l]) (ZI L)).map (Option.map Prod.snd) = some none := Zsu Try.underlying25 (fun _ _ => by kernel_rfl) (fun _ _ _ _ => by kernel_rfl) h
theorem Zgu (L : List RA) (k l v : Int) : putM Try.prog 25 (.agg #[.int .i64 k, .int .i64 l]) (.int .i64 v) (ZI L) = some (ZI (ZC L k l v)) := ZsE Try.underlying25 (fun _ _ => by kernel_rfl) (fun _ _ _ _ => by kernel_rfl) L k l v
instance : Inhabited R_ii := ⟨R_ii.z⟩
instance : Inhabited RA := ⟨RA.z⟩
instance : Inhabited R_iiiiiiiA := ⟨R_iiiiiiiA.z⟩
def ZqB : FuncId → Option (List Value → Option Value) := fun f =>
 bif Nat.beq f 8 then some (fun l => match l with | [] => some (.bool true) | _ => none) else
 none
theorem Zrp (w : World) : Calls Try.prog 8 #[] w (Ret (.bool true) w) := Zs7 40000 w (by kernel_rfl) rfl
theorem ZsF : ZmS ZqB := fun f g h => by
 unfold ZqB at h
 cases hb : Nat.beq f 8 with
 | true =>
  rw [hb] at h
  obtain rfl := Nat.eq_of_beq_eq_true hb
  simp only [cond_true, Option.some.injEq] at h
  subst h
  refine ⟨⟨_, _, Try.func8, rfl⟩, fun args v ha hv w => ?_⟩
  obtain ⟨l⟩ := args
  cases l with
  | nil =>
   change some (Value.bool true) = some v at hv
   injection hv with hv
   subst hv
   exact Zrp w
  | cons x l => change (none : Option Value) = some v at hv; cases hv
 | false =>
  rw [hb] at h
  simp only [cond_false] at h
  cases h
def Zsa : FuncId → Bool := fun f => Nat.beq f 30 || Nat.beq f 15 || Nat.beq f 16 || Nat.beq f 29 || Nat.beq f 3 || Nat.beq f 5 || Nat.beq f 6 || Nat.beq f 7 || Nat.beq f 14
noncomputable def Zq : FuncId → Option Ext := Zq7 (ZrJ ZqB) Zsa
theorem Zbv : Fit Try.prog Zq := fitT (fitS ZsF) (fun f h => by
 simp only [Zsa, Bool.or_eq_true] at h
 simp only [Nat.beq_eq] at h
 rcases h with (((((((rfl | rfl) | rfl) | rfl) | rfl) | rfl) | rfl) | rfl) | rfl
 ·exact ⟨_, _, Try.func30, rfl⟩
 ·exact ⟨_, _, Try.func15, rfl⟩
 ·exact ⟨_, _, Try.func16, rfl⟩
 ·exact ⟨_, _, Try.func29, rfl⟩
 ·exact ⟨_, _, Try.func3, rfl⟩
 ·exact ⟨_, _, Try.func5, rfl⟩
 ·exact ⟨_, _, Try.func6, rfl⟩
 ·exact ⟨_, _, Try.func7, rfl⟩
 ·exact ⟨_, _, Try.func14, rfl⟩
 )
end Ev
end Go.Proofs.Ytmcgcapkldpjlaa
