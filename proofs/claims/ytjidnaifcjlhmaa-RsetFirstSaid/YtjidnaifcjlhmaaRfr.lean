/- Records, and the program's functions as plain ones. -/
import Derived.Test.YtjidnaifcjlhmaaFm
namespace Go.Proofs.Ytjidnaifcjlhmaa
open Go.RowKit
namespace Ev
set_option linter.unusedVariables false
structure R_ii where
  a0 : Int
  a1 : Int
def R_ii.z : R_ii := ⟨0, 0⟩
structure R_uii where
  a0 : Int
  a1 : Int
  a2 : Int
def R_uii.z : R_uii := ⟨0, 0, 0⟩
/-- Maps of numbers, as lists of what they hold. -/
def mHas (L : List R_ii) (k : Int) : Bool := L.any fun x => x.a0 == k
def mGet (L : List R_ii) (k : Int) : Int := match L.find? (fun x => x.a0 == k) with | some x => x.a1 | none => 0
def mPut : List R_ii → Int → Int → List R_ii
  | [], k, v => [⟨k, v⟩]
  | x :: L, k, v => if x.a0 = k then ⟨k, v⟩ :: L else x :: mPut L k v
/-- gantlet/rset.New -/
inductive rset_NewR where
  | r0
  | r1

def rset_New (a0 : Int) (N : Nat) : Option rset_NewR :=
  if a0 < (1 : Int) then
    some (.r0 : rset_NewR)
  else
  if (4096 : Int) < a0 then
    some (.r0 : rset_NewR)
  else
  some (.r1 : rset_NewR)

/-- (*gantlet/rset.Rset).order -/
inductive rset_Rset_orderR where
  | r0

inductive rset_Rset_orderX where
  | h1m0

def rset_Rset_order_h1m0 (a0 : Int) (N : Nat) : Option (rset_Rset_orderX ⊕ rset_Rset_orderR) :=
  some (.inr (.r0 : rset_Rset_orderR))

def rset_Rset_orderStep (a0 : Int) (N : Nat) : rset_Rset_orderX → Option (rset_Rset_orderX ⊕ rset_Rset_orderR)
  | .h1m0 => rset_Rset_order_h1m0 a0 N

def rset_Rset_orderIn (a0 : Int) (N : Nat) : Option (rset_Rset_orderX ⊕ rset_Rset_orderR) :=
  some (.inl (.h1m0 : rset_Rset_orderX))

def rset_Rset_order (a0 : Int) (N : Nat) : Option rset_Rset_orderR := goM (rset_Rset_orderStep a0 N) N (rset_Rset_orderIn a0 N)

/-- (*gantlet/rset.Rset).Has -/
inductive rset_Rset_HasR where
  | r0
  | r1

def rset_Rset_Has (a0 : Int) (a1 : Int) (N : Nat) : Option rset_Rset_HasR :=
  if (0 : Int) < a1 then
    ((rset_Rset_order (a1) N).bind fun r => match r with
    | .r0 =>
      some (.r0 : rset_Rset_HasR)
    )
  else
  some (.r1 : rset_Rset_HasR)

/-- (*gantlet/rset.Rset).Add -/
inductive rset_Rset_AddR where
  | r0 (w1 : Int)
  | r1

def rset_Rset_Add (a0 : Int) (a1 : Int) (a2 : Int) (L3 : List R_ii) (N : Nat) : Option rset_Rset_AddR :=
  if (0 : Int) < a2 then
    if a0 < (0 : Int) then
      some (.r0 ((1 : Int)) : rset_Rset_AddR)
    else
    if (1024 : Int) ≤ a0 then
      some (.r0 ((1 : Int)) : rset_Rset_AddR)
    else
    if a1 < (0 : Int) then
      some (.r0 ((1 : Int)) : rset_Rset_AddR)
    else
    if (2199023255552 : Int) < a1 then
      some (.r0 ((1 : Int)) : rset_Rset_AddR)
    else
    if (mHas L3 a0) = true then
      some (.r0 ((0 : Int)) : rset_Rset_AddR)
    else
    some (.r1 : rset_Rset_AddR)
  else
  some (.r0 ((4 : Int)) : rset_Rset_AddR)

/-- (*gantlet/rset.Rset).Has -/
inductive rset_Rset_Has_2R where
  | r0

def rset_Rset_Has_2 (a0 : Int) (a1 : Int) (L2 : List R_ii) (N : Nat) : Option rset_Rset_Has_2R :=
  if (0 : Int) < a1 then
    if (mHas L2 a0) = true then
      none
    else
    some (.r0 : rset_Rset_Has_2R)
  else
  some (.r0 : rset_Rset_Has_2R)

/-- (*gantlet/rset.Rset).Has -/
inductive rset_Rset_Has_3R where
  | r0 (w2 : Int) (w3 : Bool)

def rset_Rset_Has_3 (a0 : Int) (a1 : Int) (L2 : List R_ii) (L3 : List R_ii) (N : Nat) : Option rset_Rset_Has_3R :=
  if (0 : Int) < a1 then
    if (mHas L3 a0) = true then
      if (0 : Int) ≤ (mGet L3 a0) then
        if ((mGet L3 a0)).toNat < L2.length then
          some (.r0 ((L2.getD ((mGet L3 a0)).toNat R_ii.z).a1) (true) : rset_Rset_Has_3R)
        else
        none
      else
      none
    else
    some (.r0 ((0 : Int)) (false) : rset_Rset_Has_3R)
  else
  some (.r0 ((0 : Int)) (false) : rset_Rset_Has_3R)

/-- (*gantlet/rset.Rset).Add -/
inductive rset_Rset_Add_2R where
  | r0 (w0 : Int)
  | r1

def rset_Rset_Add_2 (a0 : Int) (a1 : Int) (a2 : Int) (N : Nat) : Option rset_Rset_Add_2R :=
  if (0 : Int) < a2 then
    if a0 < (0 : Int) then
      some (.r0 ((1 : Int)) : rset_Rset_Add_2R)
    else
    if (1024 : Int) ≤ a0 then
      some (.r0 ((1 : Int)) : rset_Rset_Add_2R)
    else
    if a1 < (0 : Int) then
      some (.r0 ((1 : Int)) : rset_Rset_Add_2R)
    else
    if (2199023255552 : Int) < a1 then
      some (.r0 ((1 : Int)) : rset_Rset_Add_2R)
    else
    ((rset_Rset_order (a2) N).bind fun r => match r with
    | .r0 =>
      some (.r1 : rset_Rset_Add_2R)
    )
  else
  some (.r0 ((4 : Int)) : rset_Rset_Add_2R)

/-- (*gantlet/rset.Rset).Add -/
inductive rset_Rset_Add_3R where
  | r0 (w2 : Int)
  | r1

def rset_Rset_Add_3 (a0 : Int) (a1 : Int) (a2 : Int) (L3 : List R_ii) (L4 : List R_ii) (N : Nat) : Option rset_Rset_Add_3R :=
  if (0 : Int) < a2 then
    if a0 < (0 : Int) then
      some (.r0 ((1 : Int)) : rset_Rset_Add_3R)
    else
    if (1024 : Int) ≤ a0 then
      some (.r0 ((1 : Int)) : rset_Rset_Add_3R)
    else
    if a1 < (0 : Int) then
      some (.r0 ((1 : Int)) : rset_Rset_Add_3R)
    else
    if (2199023255552 : Int) < a1 then
      some (.r0 ((1 : Int)) : rset_Rset_Add_3R)
    else
    if (mHas L4 a0) = true then
      some (.r0 ((0 : Int)) : rset_Rset_Add_3R)
    else
    if a2 ≤ ((L3.length : Nat) : Int) then
      some (.r0 ((60 : Int)) : rset_Rset_Add_3R)
    else
    if L3.length ≤ 100000 then
      some (.r1 : rset_Rset_Add_3R)
    else
    none
  else
  some (.r0 ((4 : Int)) : rset_Rset_Add_3R)

/-- gantlet/gantletlaw06.RsetFirst -/
inductive law06_RsetFirstR where
  | r0 (w2 : Bool)

inductive law06_RsetFirstX where
  | h1m0 (v5 : Nat)
  | h1m1 (v5 : Nat)
  | h1m2 (v5 : Nat) (v7 : List R_ii) (v8 : List R_ii)
  | h2m0 (v5 : Nat) (v8 : Bool) (v9 : Int)
  | h2m1 (v5 : Nat) (v6 : Int) (v7 : Bool) (v8 : Bool) (v9 : Int) (v10 : Int) (v11 : Bool) (v13 : List R_ii) (v14 : List R_ii)
  | h2m2 (v5 : Nat) (v8 : Bool) (v9 : Int)
  | h3m0 (v5 : Nat)
  | h3m1 (v5 : Nat) (v7 : List R_ii) (v8 : List R_ii)
  | h3m2 (v5 : Nat)
  | h4m0 (v5 : Nat)
  | h4m1 (v5 : Nat) (v6 : List R_ii) (v7 : Nat) (v9 : List R_ii) (v10 : List R_ii)
  | h4m2 (v5 : Nat) (v8 : List R_ii) (v9 : List R_ii)
  | h4m3 (v5 : Nat)
  | h5m0 (v5 : Nat) (v6 : List R_ii) (v7 : Nat) (v8 : Nat) (v10 : List R_ii) (v11 : List R_ii)

def law06_RsetFirst_h1m0 (a0 : Int) (L2 : List R_uii) (n3 : Nat) (n4 : Nat) (N : Nat) (v5 : Nat) : Option (law06_RsetFirstX ⊕ law06_RsetFirstR) :=
  if ((v5 : Nat) : Int) < ((n3 : Nat) : Int) then
    if ((v5 : Nat) : Int) < (80 : Int) then
      if v5 < L2.length then
        ((rset_Rset_Has ((L2.getD v5 R_uii.z).a1) ((IntKind.i64.wrap ((1 : Int) + (Int.tmod a0 (20 : Int))))) N).bind fun r => match r with
        | .r0 =>
          if (0 : Int) < (IntKind.i64.wrap ((1 : Int) + (Int.tmod a0 (20 : Int)))) then
            ((rset_Rset_Add ((L2.getD v5 R_uii.z).a1) ((L2.getD v5 R_uii.z).a2) ((IntKind.i64.wrap ((1 : Int) + (Int.tmod a0 (20 : Int))))) (([] : List R_ii)) N).bind fun r => match r with
            | .r0 y5_0 =>
              ((rset_Rset_Has_2 ((L2.getD v5 R_uii.z).a1) ((IntKind.i64.wrap ((1 : Int) + (Int.tmod a0 (20 : Int))))) (([] : List R_ii)) N).bind fun r => match r with
              | .r0 =>
                some (.inl (.h2m0 (v5) (false) (y5_0) : law06_RsetFirstX))
              )
            | .r1 =>
              ((rset_Rset_Has_3 ((L2.getD v5 R_uii.z).a1) ((IntKind.i64.wrap ((1 : Int) + (Int.tmod a0 (20 : Int))))) (([(⟨(L2.getD v5 R_uii.z).a1, (L2.getD v5 R_uii.z).a2⟩ : R_ii)] : List R_ii)) ((mPut ([] : List R_ii) (L2.getD v5 R_uii.z).a1 (0 : Int))) N).bind fun r => match r with
              | .r0 y6_0 y6_1 =>
                some (.inl (.h2m1 (v5) ((0 : Int)) (false) (false) ((0 : Int)) (y6_0) (y6_1) (([(⟨(L2.getD v5 R_uii.z).a1, (L2.getD v5 R_uii.z).a2⟩ : R_ii)] : List R_ii)) ((mPut ([] : List R_ii) (L2.getD v5 R_uii.z).a1 (0 : Int))) : law06_RsetFirstX))
              )
            )
          else
          if (0 : Int) = (IntKind.i64.wrap ((1 : Int) + (Int.tmod a0 (20 : Int)))) then
            ((rset_Rset_Add ((L2.getD v5 R_uii.z).a1) ((L2.getD v5 R_uii.z).a2) ((IntKind.i64.wrap ((1 : Int) + (Int.tmod a0 (20 : Int))))) (([] : List R_ii)) N).bind fun r => match r with
            | .r0 y6_0 =>
              ((rset_Rset_Has_2 ((L2.getD v5 R_uii.z).a1) ((IntKind.i64.wrap ((1 : Int) + (Int.tmod a0 (20 : Int))))) (([] : List R_ii)) N).bind fun r => match r with
              | .r0 =>
                some (.inl (.h2m0 (v5) (true) (y6_0) : law06_RsetFirstX))
              )
            | .r1 =>
              ((rset_Rset_Has_3 ((L2.getD v5 R_uii.z).a1) ((IntKind.i64.wrap ((1 : Int) + (Int.tmod a0 (20 : Int))))) (([(⟨(L2.getD v5 R_uii.z).a1, (L2.getD v5 R_uii.z).a2⟩ : R_ii)] : List R_ii)) ((mPut ([] : List R_ii) (L2.getD v5 R_uii.z).a1 (0 : Int))) N).bind fun r => match r with
              | .r0 y7_0 y7_1 =>
                some (.inl (.h2m1 (v5) ((0 : Int)) (false) (true) ((0 : Int)) (y7_0) (y7_1) (([(⟨(L2.getD v5 R_uii.z).a1, (L2.getD v5 R_uii.z).a2⟩ : R_ii)] : List R_ii)) ((mPut ([] : List R_ii) (L2.getD v5 R_uii.z).a1 (0 : Int))) : law06_RsetFirstX))
              )
            )
          else
          ((rset_Rset_Add ((L2.getD v5 R_uii.z).a1) ((L2.getD v5 R_uii.z).a2) ((IntKind.i64.wrap ((1 : Int) + (Int.tmod a0 (20 : Int))))) (([] : List R_ii)) N).bind fun r => match r with
          | .r0 y6_0 =>
            ((rset_Rset_Has_2 ((L2.getD v5 R_uii.z).a1) ((IntKind.i64.wrap ((1 : Int) + (Int.tmod a0 (20 : Int))))) (([] : List R_ii)) N).bind fun r => match r with
            | .r0 =>
              some (.inl (.h2m0 (v5) (false) (y6_0) : law06_RsetFirstX))
            )
          | .r1 =>
            ((rset_Rset_Has_3 ((L2.getD v5 R_uii.z).a1) ((IntKind.i64.wrap ((1 : Int) + (Int.tmod a0 (20 : Int))))) (([(⟨(L2.getD v5 R_uii.z).a1, (L2.getD v5 R_uii.z).a2⟩ : R_ii)] : List R_ii)) ((mPut ([] : List R_ii) (L2.getD v5 R_uii.z).a1 (0 : Int))) N).bind fun r => match r with
            | .r0 y7_0 y7_1 =>
              some (.inl (.h2m1 (v5) ((0 : Int)) (false) (false) ((0 : Int)) (y7_0) (y7_1) (([(⟨(L2.getD v5 R_uii.z).a1, (L2.getD v5 R_uii.z).a2⟩ : R_ii)] : List R_ii)) ((mPut ([] : List R_ii) (L2.getD v5 R_uii.z).a1 (0 : Int))) : law06_RsetFirstX))
            )
          )
        | .r1 =>
          if (0 : Int) < (IntKind.i64.wrap ((1 : Int) + (Int.tmod a0 (20 : Int)))) then
            ((rset_Rset_Add_2 ((L2.getD v5 R_uii.z).a1) ((L2.getD v5 R_uii.z).a2) ((IntKind.i64.wrap ((1 : Int) + (Int.tmod a0 (20 : Int))))) N).bind fun r => match r with
            | .r0 y5_0 =>
              ((rset_Rset_Has ((L2.getD v5 R_uii.z).a1) ((IntKind.i64.wrap ((1 : Int) + (Int.tmod a0 (20 : Int))))) N).bind fun r => match r with
              | .r0 =>
                some (.inl (.h2m0 (v5) (false) (y5_0) : law06_RsetFirstX))
              | .r1 =>
                some (.inl (.h2m2 (v5) (false) (y5_0) : law06_RsetFirstX))
              )
            | .r1 =>
              ((rset_Rset_Has_3 ((L2.getD v5 R_uii.z).a1) ((IntKind.i64.wrap ((1 : Int) + (Int.tmod a0 (20 : Int))))) (([(⟨(L2.getD v5 R_uii.z).a1, (L2.getD v5 R_uii.z).a2⟩ : R_ii)] : List R_ii)) ((mPut ([] : List R_ii) (L2.getD v5 R_uii.z).a1 (0 : Int))) N).bind fun r => match r with
              | .r0 y6_0 y6_1 =>
                some (.inl (.h2m1 (v5) ((0 : Int)) (false) (false) ((0 : Int)) (y6_0) (y6_1) (([(⟨(L2.getD v5 R_uii.z).a1, (L2.getD v5 R_uii.z).a2⟩ : R_ii)] : List R_ii)) ((mPut ([] : List R_ii) (L2.getD v5 R_uii.z).a1 (0 : Int))) : law06_RsetFirstX))
              )
            )
          else
          if (0 : Int) = (IntKind.i64.wrap ((1 : Int) + (Int.tmod a0 (20 : Int)))) then
            ((rset_Rset_Add_2 ((L2.getD v5 R_uii.z).a1) ((L2.getD v5 R_uii.z).a2) ((IntKind.i64.wrap ((1 : Int) + (Int.tmod a0 (20 : Int))))) N).bind fun r => match r with
            | .r0 y6_0 =>
              ((rset_Rset_Has ((L2.getD v5 R_uii.z).a1) ((IntKind.i64.wrap ((1 : Int) + (Int.tmod a0 (20 : Int))))) N).bind fun r => match r with
              | .r0 =>
                some (.inl (.h2m0 (v5) (true) (y6_0) : law06_RsetFirstX))
              | .r1 =>
                some (.inl (.h2m2 (v5) (true) (y6_0) : law06_RsetFirstX))
              )
            | .r1 =>
              ((rset_Rset_Has_3 ((L2.getD v5 R_uii.z).a1) ((IntKind.i64.wrap ((1 : Int) + (Int.tmod a0 (20 : Int))))) (([(⟨(L2.getD v5 R_uii.z).a1, (L2.getD v5 R_uii.z).a2⟩ : R_ii)] : List R_ii)) ((mPut ([] : List R_ii) (L2.getD v5 R_uii.z).a1 (0 : Int))) N).bind fun r => match r with
              | .r0 y7_0 y7_1 =>
                some (.inl (.h2m1 (v5) ((0 : Int)) (false) (true) ((0 : Int)) (y7_0) (y7_1) (([(⟨(L2.getD v5 R_uii.z).a1, (L2.getD v5 R_uii.z).a2⟩ : R_ii)] : List R_ii)) ((mPut ([] : List R_ii) (L2.getD v5 R_uii.z).a1 (0 : Int))) : law06_RsetFirstX))
              )
            )
          else
          ((rset_Rset_Add_2 ((L2.getD v5 R_uii.z).a1) ((L2.getD v5 R_uii.z).a2) ((IntKind.i64.wrap ((1 : Int) + (Int.tmod a0 (20 : Int))))) N).bind fun r => match r with
          | .r0 y6_0 =>
            ((rset_Rset_Has ((L2.getD v5 R_uii.z).a1) ((IntKind.i64.wrap ((1 : Int) + (Int.tmod a0 (20 : Int))))) N).bind fun r => match r with
            | .r0 =>
              some (.inl (.h2m0 (v5) (false) (y6_0) : law06_RsetFirstX))
            | .r1 =>
              some (.inl (.h2m2 (v5) (false) (y6_0) : law06_RsetFirstX))
            )
          | .r1 =>
            ((rset_Rset_Has_3 ((L2.getD v5 R_uii.z).a1) ((IntKind.i64.wrap ((1 : Int) + (Int.tmod a0 (20 : Int))))) (([(⟨(L2.getD v5 R_uii.z).a1, (L2.getD v5 R_uii.z).a2⟩ : R_ii)] : List R_ii)) ((mPut ([] : List R_ii) (L2.getD v5 R_uii.z).a1 (0 : Int))) N).bind fun r => match r with
            | .r0 y7_0 y7_1 =>
              some (.inl (.h2m1 (v5) ((0 : Int)) (false) (false) ((0 : Int)) (y7_0) (y7_1) (([(⟨(L2.getD v5 R_uii.z).a1, (L2.getD v5 R_uii.z).a2⟩ : R_ii)] : List R_ii)) ((mPut ([] : List R_ii) (L2.getD v5 R_uii.z).a1 (0 : Int))) : law06_RsetFirstX))
            )
          )
        )
      else
      none
    else
    some (.inr (.r0 (true) : law06_RsetFirstR))
  else
  some (.inr (.r0 (true) : law06_RsetFirstR))

def law06_RsetFirst_h1m1 (a0 : Int) (L2 : List R_uii) (n3 : Nat) (n4 : Nat) (N : Nat) (v5 : Nat) : Option (law06_RsetFirstX ⊕ law06_RsetFirstR) :=
  if ((v5 : Nat) : Int) < ((n3 : Nat) : Int) then
    if ((v5 : Nat) : Int) < (80 : Int) then
      if v5 < L2.length then
        ((rset_Rset_Has_2 ((L2.getD v5 R_uii.z).a1) ((IntKind.i64.wrap ((1 : Int) + (Int.tmod a0 (20 : Int))))) (([] : List R_ii)) N).bind fun r => match r with
        | .r0 =>
          if (0 : Int) < (IntKind.i64.wrap ((1 : Int) + (Int.tmod a0 (20 : Int)))) then
            ((rset_Rset_Add ((L2.getD v5 R_uii.z).a1) ((L2.getD v5 R_uii.z).a2) ((IntKind.i64.wrap ((1 : Int) + (Int.tmod a0 (20 : Int))))) (([] : List R_ii)) N).bind fun r => match r with
            | .r0 y5_0 =>
              ((rset_Rset_Has_2 ((L2.getD v5 R_uii.z).a1) ((IntKind.i64.wrap ((1 : Int) + (Int.tmod a0 (20 : Int))))) (([] : List R_ii)) N).bind fun r => match r with
              | .r0 =>
                some (.inl (.h2m0 (v5) (false) (y5_0) : law06_RsetFirstX))
              )
            | .r1 =>
              ((rset_Rset_Has_3 ((L2.getD v5 R_uii.z).a1) ((IntKind.i64.wrap ((1 : Int) + (Int.tmod a0 (20 : Int))))) (([(⟨(L2.getD v5 R_uii.z).a1, (L2.getD v5 R_uii.z).a2⟩ : R_ii)] : List R_ii)) ((mPut ([] : List R_ii) (L2.getD v5 R_uii.z).a1 (0 : Int))) N).bind fun r => match r with
              | .r0 y6_0 y6_1 =>
                some (.inl (.h2m1 (v5) ((0 : Int)) (false) (false) ((0 : Int)) (y6_0) (y6_1) (([(⟨(L2.getD v5 R_uii.z).a1, (L2.getD v5 R_uii.z).a2⟩ : R_ii)] : List R_ii)) ((mPut ([] : List R_ii) (L2.getD v5 R_uii.z).a1 (0 : Int))) : law06_RsetFirstX))
              )
            )
          else
          if (0 : Int) = (IntKind.i64.wrap ((1 : Int) + (Int.tmod a0 (20 : Int)))) then
            ((rset_Rset_Add ((L2.getD v5 R_uii.z).a1) ((L2.getD v5 R_uii.z).a2) ((IntKind.i64.wrap ((1 : Int) + (Int.tmod a0 (20 : Int))))) (([] : List R_ii)) N).bind fun r => match r with
            | .r0 y6_0 =>
              ((rset_Rset_Has_2 ((L2.getD v5 R_uii.z).a1) ((IntKind.i64.wrap ((1 : Int) + (Int.tmod a0 (20 : Int))))) (([] : List R_ii)) N).bind fun r => match r with
              | .r0 =>
                some (.inl (.h2m0 (v5) (true) (y6_0) : law06_RsetFirstX))
              )
            | .r1 =>
              ((rset_Rset_Has_3 ((L2.getD v5 R_uii.z).a1) ((IntKind.i64.wrap ((1 : Int) + (Int.tmod a0 (20 : Int))))) (([(⟨(L2.getD v5 R_uii.z).a1, (L2.getD v5 R_uii.z).a2⟩ : R_ii)] : List R_ii)) ((mPut ([] : List R_ii) (L2.getD v5 R_uii.z).a1 (0 : Int))) N).bind fun r => match r with
              | .r0 y7_0 y7_1 =>
                some (.inl (.h2m1 (v5) ((0 : Int)) (false) (true) ((0 : Int)) (y7_0) (y7_1) (([(⟨(L2.getD v5 R_uii.z).a1, (L2.getD v5 R_uii.z).a2⟩ : R_ii)] : List R_ii)) ((mPut ([] : List R_ii) (L2.getD v5 R_uii.z).a1 (0 : Int))) : law06_RsetFirstX))
              )
            )
          else
          ((rset_Rset_Add ((L2.getD v5 R_uii.z).a1) ((L2.getD v5 R_uii.z).a2) ((IntKind.i64.wrap ((1 : Int) + (Int.tmod a0 (20 : Int))))) (([] : List R_ii)) N).bind fun r => match r with
          | .r0 y6_0 =>
            ((rset_Rset_Has_2 ((L2.getD v5 R_uii.z).a1) ((IntKind.i64.wrap ((1 : Int) + (Int.tmod a0 (20 : Int))))) (([] : List R_ii)) N).bind fun r => match r with
            | .r0 =>
              some (.inl (.h2m0 (v5) (false) (y6_0) : law06_RsetFirstX))
            )
          | .r1 =>
            ((rset_Rset_Has_3 ((L2.getD v5 R_uii.z).a1) ((IntKind.i64.wrap ((1 : Int) + (Int.tmod a0 (20 : Int))))) (([(⟨(L2.getD v5 R_uii.z).a1, (L2.getD v5 R_uii.z).a2⟩ : R_ii)] : List R_ii)) ((mPut ([] : List R_ii) (L2.getD v5 R_uii.z).a1 (0 : Int))) N).bind fun r => match r with
            | .r0 y7_0 y7_1 =>
              some (.inl (.h2m1 (v5) ((0 : Int)) (false) (false) ((0 : Int)) (y7_0) (y7_1) (([(⟨(L2.getD v5 R_uii.z).a1, (L2.getD v5 R_uii.z).a2⟩ : R_ii)] : List R_ii)) ((mPut ([] : List R_ii) (L2.getD v5 R_uii.z).a1 (0 : Int))) : law06_RsetFirstX))
            )
          )
        )
      else
      none
    else
    some (.inr (.r0 (true) : law06_RsetFirstR))
  else
  some (.inr (.r0 (true) : law06_RsetFirstR))

def law06_RsetFirst_h1m2 (a0 : Int) (L2 : List R_uii) (n3 : Nat) (n4 : Nat) (N : Nat) (v5 : Nat) (v7 : List R_ii) (v8 : List R_ii) : Option (law06_RsetFirstX ⊕ law06_RsetFirstR) :=
  if ((v5 : Nat) : Int) < ((n3 : Nat) : Int) then
    if ((v5 : Nat) : Int) < (80 : Int) then
      if v5 < L2.length then
        ((rset_Rset_Has_3 ((L2.getD v5 R_uii.z).a1) ((IntKind.i64.wrap ((1 : Int) + (Int.tmod a0 (20 : Int))))) (v7) (v8) N).bind fun r => match r with
        | .r0 y3_0 y3_1 =>
          if (0 : Int) < (IntKind.i64.wrap ((1 : Int) + (Int.tmod a0 (20 : Int)))) then
            if ((v7.length : Nat) : Int) = (IntKind.i64.wrap ((1 : Int) + (Int.tmod a0 (20 : Int)))) then
              ((rset_Rset_Add_3 ((L2.getD v5 R_uii.z).a1) ((L2.getD v5 R_uii.z).a2) ((IntKind.i64.wrap ((1 : Int) + (Int.tmod a0 (20 : Int))))) (v7) (v8) N).bind fun r => match r with
              | .r0 y6_0 =>
                ((rset_Rset_Has_3 ((L2.getD v5 R_uii.z).a1) ((IntKind.i64.wrap ((1 : Int) + (Int.tmod a0 (20 : Int))))) (v7) (v8) N).bind fun r => match r with
                | .r0 y7_0 y7_1 =>
                  some (.inl (.h2m1 (v5) (y3_0) (y3_1) (true) (y6_0) (y7_0) (y7_1) (v7) (v8) : law06_RsetFirstX))
                )
              | .r1 =>
                ((rset_Rset_Has_3 ((L2.getD v5 R_uii.z).a1) ((IntKind.i64.wrap ((1 : Int) + (Int.tmod a0 (20 : Int))))) ((v7 ++ ([(⟨(L2.getD v5 R_uii.z).a1, (L2.getD v5 R_uii.z).a2⟩ : R_ii)] : List R_ii))) ((mPut v8 (L2.getD v5 R_uii.z).a1 ((v7.length : Nat) : Int))) N).bind fun r => match r with
                | .r0 y7_0 y7_1 =>
                  some (.inl (.h2m1 (v5) (y3_0) (y3_1) (true) ((0 : Int)) (y7_0) (y7_1) ((v7 ++ ([(⟨(L2.getD v5 R_uii.z).a1, (L2.getD v5 R_uii.z).a2⟩ : R_ii)] : List R_ii))) ((mPut v8 (L2.getD v5 R_uii.z).a1 ((v7.length : Nat) : Int))) : law06_RsetFirstX))
                )
              )
            else
            ((rset_Rset_Add_3 ((L2.getD v5 R_uii.z).a1) ((L2.getD v5 R_uii.z).a2) ((IntKind.i64.wrap ((1 : Int) + (Int.tmod a0 (20 : Int))))) (v7) (v8) N).bind fun r => match r with
            | .r0 y6_0 =>
              ((rset_Rset_Has_3 ((L2.getD v5 R_uii.z).a1) ((IntKind.i64.wrap ((1 : Int) + (Int.tmod a0 (20 : Int))))) (v7) (v8) N).bind fun r => match r with
              | .r0 y7_0 y7_1 =>
                some (.inl (.h2m1 (v5) (y3_0) (y3_1) (false) (y6_0) (y7_0) (y7_1) (v7) (v8) : law06_RsetFirstX))
              )
            | .r1 =>
              ((rset_Rset_Has_3 ((L2.getD v5 R_uii.z).a1) ((IntKind.i64.wrap ((1 : Int) + (Int.tmod a0 (20 : Int))))) ((v7 ++ ([(⟨(L2.getD v5 R_uii.z).a1, (L2.getD v5 R_uii.z).a2⟩ : R_ii)] : List R_ii))) ((mPut v8 (L2.getD v5 R_uii.z).a1 ((v7.length : Nat) : Int))) N).bind fun r => match r with
              | .r0 y7_0 y7_1 =>
                some (.inl (.h2m1 (v5) (y3_0) (y3_1) (false) ((0 : Int)) (y7_0) (y7_1) ((v7 ++ ([(⟨(L2.getD v5 R_uii.z).a1, (L2.getD v5 R_uii.z).a2⟩ : R_ii)] : List R_ii))) ((mPut v8 (L2.getD v5 R_uii.z).a1 ((v7.length : Nat) : Int))) : law06_RsetFirstX))
              )
            )
          else
          if (0 : Int) = (IntKind.i64.wrap ((1 : Int) + (Int.tmod a0 (20 : Int)))) then
            ((rset_Rset_Add_3 ((L2.getD v5 R_uii.z).a1) ((L2.getD v5 R_uii.z).a2) ((IntKind.i64.wrap ((1 : Int) + (Int.tmod a0 (20 : Int))))) (v7) (v8) N).bind fun r => match r with
            | .r0 y6_0 =>
              ((rset_Rset_Has_3 ((L2.getD v5 R_uii.z).a1) ((IntKind.i64.wrap ((1 : Int) + (Int.tmod a0 (20 : Int))))) (v7) (v8) N).bind fun r => match r with
              | .r0 y7_0 y7_1 =>
                some (.inl (.h2m1 (v5) (y3_0) (y3_1) (true) (y6_0) (y7_0) (y7_1) (v7) (v8) : law06_RsetFirstX))
              )
            | .r1 =>
              ((rset_Rset_Has_3 ((L2.getD v5 R_uii.z).a1) ((IntKind.i64.wrap ((1 : Int) + (Int.tmod a0 (20 : Int))))) ((v7 ++ ([(⟨(L2.getD v5 R_uii.z).a1, (L2.getD v5 R_uii.z).a2⟩ : R_ii)] : List R_ii))) ((mPut v8 (L2.getD v5 R_uii.z).a1 ((v7.length : Nat) : Int))) N).bind fun r => match r with
              | .r0 y7_0 y7_1 =>
                some (.inl (.h2m1 (v5) (y3_0) (y3_1) (true) ((0 : Int)) (y7_0) (y7_1) ((v7 ++ ([(⟨(L2.getD v5 R_uii.z).a1, (L2.getD v5 R_uii.z).a2⟩ : R_ii)] : List R_ii))) ((mPut v8 (L2.getD v5 R_uii.z).a1 ((v7.length : Nat) : Int))) : law06_RsetFirstX))
              )
            )
          else
          ((rset_Rset_Add_3 ((L2.getD v5 R_uii.z).a1) ((L2.getD v5 R_uii.z).a2) ((IntKind.i64.wrap ((1 : Int) + (Int.tmod a0 (20 : Int))))) (v7) (v8) N).bind fun r => match r with
          | .r0 y6_0 =>
            ((rset_Rset_Has_3 ((L2.getD v5 R_uii.z).a1) ((IntKind.i64.wrap ((1 : Int) + (Int.tmod a0 (20 : Int))))) (v7) (v8) N).bind fun r => match r with
            | .r0 y7_0 y7_1 =>
              some (.inl (.h2m1 (v5) (y3_0) (y3_1) (false) (y6_0) (y7_0) (y7_1) (v7) (v8) : law06_RsetFirstX))
            )
          | .r1 =>
            ((rset_Rset_Has_3 ((L2.getD v5 R_uii.z).a1) ((IntKind.i64.wrap ((1 : Int) + (Int.tmod a0 (20 : Int))))) ((v7 ++ ([(⟨(L2.getD v5 R_uii.z).a1, (L2.getD v5 R_uii.z).a2⟩ : R_ii)] : List R_ii))) ((mPut v8 (L2.getD v5 R_uii.z).a1 ((v7.length : Nat) : Int))) N).bind fun r => match r with
            | .r0 y7_0 y7_1 =>
              some (.inl (.h2m1 (v5) (y3_0) (y3_1) (false) ((0 : Int)) (y7_0) (y7_1) ((v7 ++ ([(⟨(L2.getD v5 R_uii.z).a1, (L2.getD v5 R_uii.z).a2⟩ : R_ii)] : List R_ii))) ((mPut v8 (L2.getD v5 R_uii.z).a1 ((v7.length : Nat) : Int))) : law06_RsetFirstX))
            )
          )
        )
      else
      none
    else
    some (.inr (.r0 (true) : law06_RsetFirstR))
  else
  some (.inr (.r0 (true) : law06_RsetFirstR))

def law06_RsetFirst_h2m0 (a0 : Int) (L2 : List R_uii) (n3 : Nat) (n4 : Nat) (N : Nat) (v5 : Nat) (v8 : Bool) (v9 : Int) : Option (law06_RsetFirstX ⊕ law06_RsetFirstR) :=
  if v8 = true then
    if v9 = (0 : Int) then
      some (.inr (.r0 (false) : law06_RsetFirstR))
    else
    if (0 : Int) < (IntKind.i64.wrap ((1 : Int) + (Int.tmod a0 (20 : Int)))) then
      some (.inl (.h3m0 (v5) : law06_RsetFirstX))
    else
    if (IntKind.i64.wrap ((1 : Int) + (Int.tmod a0 (20 : Int)))) < (0 : Int) then
      some (.inr (.r0 (false) : law06_RsetFirstR))
    else
    some (.inl (.h3m0 (v5) : law06_RsetFirstX))
  else
  if v9 = (0 : Int) then
    some (.inr (.r0 (false) : law06_RsetFirstR))
  else
  if (0 : Int) < (IntKind.i64.wrap ((1 : Int) + (Int.tmod a0 (20 : Int)))) then
    some (.inl (.h3m0 (v5) : law06_RsetFirstX))
  else
  if (IntKind.i64.wrap ((1 : Int) + (Int.tmod a0 (20 : Int)))) < (0 : Int) then
    some (.inr (.r0 (false) : law06_RsetFirstR))
  else
  some (.inl (.h3m0 (v5) : law06_RsetFirstX))

def law06_RsetFirst_h2m1 (a0 : Int) (L2 : List R_uii) (n3 : Nat) (n4 : Nat) (N : Nat) (v5 : Nat) (v6 : Int) (v7 : Bool) (v8 : Bool) (v9 : Int) (v10 : Int) (v11 : Bool) (v13 : List R_ii) (v14 : List R_ii) : Option (law06_RsetFirstX ⊕ law06_RsetFirstR) :=
  if v11 = true then
    if v7 = true then
      if v8 = true then
        if ¬ (v10 = v6) then
          some (.inr (.r0 (false) : law06_RsetFirstR))
        else
        if (0 : Int) < (IntKind.i64.wrap ((1 : Int) + (Int.tmod a0 (20 : Int)))) then
          if (IntKind.i64.wrap ((1 : Int) + (Int.tmod a0 (20 : Int)))) < ((v13.length : Nat) : Int) then
            some (.inr (.r0 (false) : law06_RsetFirstR))
          else
          some (.inl (.h3m1 (v5) (v13) (v14) : law06_RsetFirstX))
        else
        if (IntKind.i64.wrap ((1 : Int) + (Int.tmod a0 (20 : Int)))) < (0 : Int) then
          some (.inr (.r0 (false) : law06_RsetFirstR))
        else
        some (.inl (.h3m1 (v5) (v13) (v14) : law06_RsetFirstX))
      else
      if ¬ (v10 = v6) then
        some (.inr (.r0 (false) : law06_RsetFirstR))
      else
      if (0 : Int) < (IntKind.i64.wrap ((1 : Int) + (Int.tmod a0 (20 : Int)))) then
        if (IntKind.i64.wrap ((1 : Int) + (Int.tmod a0 (20 : Int)))) < ((v13.length : Nat) : Int) then
          some (.inr (.r0 (false) : law06_RsetFirstR))
        else
        some (.inl (.h3m1 (v5) (v13) (v14) : law06_RsetFirstX))
      else
      if (IntKind.i64.wrap ((1 : Int) + (Int.tmod a0 (20 : Int)))) < (0 : Int) then
        some (.inr (.r0 (false) : law06_RsetFirstR))
      else
      some (.inl (.h3m1 (v5) (v13) (v14) : law06_RsetFirstX))
    else
    if v8 = true then
      if v9 = (0 : Int) then
        if v5 < n3 then
          if v5 < L2.length then
            some (.inr (.r0 (false) : law06_RsetFirstR))
          else
          none
        else
        none
      else
      some (.inr (.r0 (false) : law06_RsetFirstR))
    else
    if v9 = (0 : Int) then
      if v5 < n3 then
        if v5 < L2.length then
          if ¬ (v10 = (L2.getD v5 R_uii.z).a2) then
            some (.inr (.r0 (false) : law06_RsetFirstR))
          else
          if (0 : Int) < (IntKind.i64.wrap ((1 : Int) + (Int.tmod a0 (20 : Int)))) then
            if (IntKind.i64.wrap ((1 : Int) + (Int.tmod a0 (20 : Int)))) < ((v13.length : Nat) : Int) then
              some (.inr (.r0 (false) : law06_RsetFirstR))
            else
            some (.inl (.h3m1 (v5) (v13) (v14) : law06_RsetFirstX))
          else
          if (IntKind.i64.wrap ((1 : Int) + (Int.tmod a0 (20 : Int)))) < (0 : Int) then
            some (.inr (.r0 (false) : law06_RsetFirstR))
          else
          some (.inl (.h3m1 (v5) (v13) (v14) : law06_RsetFirstX))
        else
        none
      else
      none
    else
    some (.inr (.r0 (false) : law06_RsetFirstR))
  else
  if v7 = true then
    if v8 = true then
      some (.inr (.r0 (false) : law06_RsetFirstR))
    else
    some (.inr (.r0 (false) : law06_RsetFirstR))
  else
  if v8 = true then
    if v9 = (0 : Int) then
      some (.inr (.r0 (false) : law06_RsetFirstR))
    else
    if (0 : Int) < (IntKind.i64.wrap ((1 : Int) + (Int.tmod a0 (20 : Int)))) then
      if (IntKind.i64.wrap ((1 : Int) + (Int.tmod a0 (20 : Int)))) < ((v13.length : Nat) : Int) then
        some (.inr (.r0 (false) : law06_RsetFirstR))
      else
      some (.inl (.h3m1 (v5) (v13) (v14) : law06_RsetFirstX))
    else
    if (IntKind.i64.wrap ((1 : Int) + (Int.tmod a0 (20 : Int)))) < (0 : Int) then
      some (.inr (.r0 (false) : law06_RsetFirstR))
    else
    some (.inl (.h3m1 (v5) (v13) (v14) : law06_RsetFirstX))
  else
  if v9 = (0 : Int) then
    some (.inr (.r0 (false) : law06_RsetFirstR))
  else
  if (0 : Int) < (IntKind.i64.wrap ((1 : Int) + (Int.tmod a0 (20 : Int)))) then
    if (IntKind.i64.wrap ((1 : Int) + (Int.tmod a0 (20 : Int)))) < ((v13.length : Nat) : Int) then
      some (.inr (.r0 (false) : law06_RsetFirstR))
    else
    some (.inl (.h3m1 (v5) (v13) (v14) : law06_RsetFirstX))
  else
  if (IntKind.i64.wrap ((1 : Int) + (Int.tmod a0 (20 : Int)))) < (0 : Int) then
    some (.inr (.r0 (false) : law06_RsetFirstR))
  else
  some (.inl (.h3m1 (v5) (v13) (v14) : law06_RsetFirstX))

def law06_RsetFirst_h2m2 (a0 : Int) (L2 : List R_uii) (n3 : Nat) (n4 : Nat) (N : Nat) (v5 : Nat) (v8 : Bool) (v9 : Int) : Option (law06_RsetFirstX ⊕ law06_RsetFirstR) :=
  if v8 = true then
    if v9 = (0 : Int) then
      some (.inr (.r0 (false) : law06_RsetFirstR))
    else
    if (0 : Int) < (IntKind.i64.wrap ((1 : Int) + (Int.tmod a0 (20 : Int)))) then
      some (.inl (.h3m2 (v5) : law06_RsetFirstX))
    else
    if (IntKind.i64.wrap ((1 : Int) + (Int.tmod a0 (20 : Int)))) < (0 : Int) then
      some (.inr (.r0 (false) : law06_RsetFirstR))
    else
    some (.inl (.h3m2 (v5) : law06_RsetFirstX))
  else
  if v9 = (0 : Int) then
    some (.inr (.r0 (false) : law06_RsetFirstR))
  else
  if (0 : Int) < (IntKind.i64.wrap ((1 : Int) + (Int.tmod a0 (20 : Int)))) then
    some (.inl (.h3m2 (v5) : law06_RsetFirstX))
  else
  if (IntKind.i64.wrap ((1 : Int) + (Int.tmod a0 (20 : Int)))) < (0 : Int) then
    some (.inr (.r0 (false) : law06_RsetFirstR))
  else
  some (.inl (.h3m2 (v5) : law06_RsetFirstX))

def law06_RsetFirst_h3m0 (a0 : Int) (L2 : List R_uii) (n3 : Nat) (n4 : Nat) (N : Nat) (v5 : Nat) : Option (law06_RsetFirstX ⊕ law06_RsetFirstR) :=
  some (.inl (.h4m0 (v5) : law06_RsetFirstX))

def law06_RsetFirst_h3m1 (a0 : Int) (L2 : List R_uii) (n3 : Nat) (n4 : Nat) (N : Nat) (v5 : Nat) (v7 : List R_ii) (v8 : List R_ii) : Option (law06_RsetFirstX ⊕ law06_RsetFirstR) :=
  if (0 : Int) < (IntKind.i64.wrap ((1 : Int) + (Int.tmod a0 (20 : Int)))) then
    if v7.length = 0 then
      some (.inl (.h4m1 (v5) (([] : List R_ii)) (0) (v7) (v8) : law06_RsetFirstX))
    else
    if v7.length ≤ 100000 then
      some (.inl (.h4m1 (v5) (v7) (0) (v7) (v8) : law06_RsetFirstX))
    else
    none
  else
  some (.inl (.h4m2 (v5) (v7) (v8) : law06_RsetFirstX))

def law06_RsetFirst_h3m2 (a0 : Int) (L2 : List R_uii) (n3 : Nat) (n4 : Nat) (N : Nat) (v5 : Nat) : Option (law06_RsetFirstX ⊕ law06_RsetFirstR) :=
  some (.inl (.h4m3 (v5) : law06_RsetFirstX))

def law06_RsetFirst_h4m0 (a0 : Int) (L2 : List R_uii) (n3 : Nat) (n4 : Nat) (N : Nat) (v5 : Nat) : Option (law06_RsetFirstX ⊕ law06_RsetFirstR) :=
  if (((v5 + 1) : Nat) : Int) ≤ (9223372036854775807 : Int) then
    some (.inl (.h1m1 ((v5 + 1)) : law06_RsetFirstX))
  else
  none

def law06_RsetFirst_h4m1 (a0 : Int) (L2 : List R_uii) (n3 : Nat) (n4 : Nat) (N : Nat) (v5 : Nat) (v6 : List R_ii) (v7 : Nat) (v9 : List R_ii) (v10 : List R_ii) : Option (law06_RsetFirstX ⊕ law06_RsetFirstR) :=
  if ((v7 : Nat) : Int) < ((v6.length : Nat) : Int) then
    some (.inl (.h5m0 (v5) (v6) (v7) (0) (v9) (v10) : law06_RsetFirstX))
  else
  if (((v5 + 1) : Nat) : Int) ≤ (9223372036854775807 : Int) then
    some (.inl (.h1m2 ((v5 + 1)) (v9) (v10) : law06_RsetFirstX))
  else
  none

def law06_RsetFirst_h4m2 (a0 : Int) (L2 : List R_uii) (n3 : Nat) (n4 : Nat) (N : Nat) (v5 : Nat) (v8 : List R_ii) (v9 : List R_ii) : Option (law06_RsetFirstX ⊕ law06_RsetFirstR) :=
  if (((v5 + 1) : Nat) : Int) ≤ (9223372036854775807 : Int) then
    some (.inl (.h1m2 ((v5 + 1)) (v8) (v9) : law06_RsetFirstX))
  else
  none

def law06_RsetFirst_h4m3 (a0 : Int) (L2 : List R_uii) (n3 : Nat) (n4 : Nat) (N : Nat) (v5 : Nat) : Option (law06_RsetFirstX ⊕ law06_RsetFirstR) :=
  if (((v5 + 1) : Nat) : Int) ≤ (9223372036854775807 : Int) then
    some (.inl (.h1m0 ((v5 + 1)) : law06_RsetFirstX))
  else
  none

def law06_RsetFirst_h5m0 (a0 : Int) (L2 : List R_uii) (n3 : Nat) (n4 : Nat) (N : Nat) (v5 : Nat) (v6 : List R_ii) (v7 : Nat) (v8 : Nat) (v10 : List R_ii) (v11 : List R_ii) : Option (law06_RsetFirstX ⊕ law06_RsetFirstR) :=
  if ((v8 : Nat) : Int) < ((v7 : Nat) : Int) then
    if v8 < v6.length then
      if v7 < v6.length then
        if (v6.getD v8 R_ii.z).a0 = (v6.getD v7 R_ii.z).a0 then
          some (.inr (.r0 (false) : law06_RsetFirstR))
        else
        if (((v8 + 1) : Nat) : Int) ≤ (9223372036854775807 : Int) then
          some (.inl (.h5m0 (v5) (v6) (v7) ((v8 + 1)) (v10) (v11) : law06_RsetFirstX))
        else
        none
      else
      none
    else
    none
  else
  if (((v7 + 1) : Nat) : Int) ≤ (9223372036854775807 : Int) then
    some (.inl (.h4m1 (v5) (v6) ((v7 + 1)) (v10) (v11) : law06_RsetFirstX))
  else
  none

def law06_RsetFirstStep (a0 : Int) (L2 : List R_uii) (n3 : Nat) (n4 : Nat) (N : Nat) : law06_RsetFirstX → Option (law06_RsetFirstX ⊕ law06_RsetFirstR)
  | .h1m0 v5 => law06_RsetFirst_h1m0 a0 L2 n3 n4 N v5
  | .h1m1 v5 => law06_RsetFirst_h1m1 a0 L2 n3 n4 N v5
  | .h1m2 v5 v7 v8 => law06_RsetFirst_h1m2 a0 L2 n3 n4 N v5 v7 v8
  | .h2m0 v5 v8 v9 => law06_RsetFirst_h2m0 a0 L2 n3 n4 N v5 v8 v9
  | .h2m1 v5 v6 v7 v8 v9 v10 v11 v13 v14 => law06_RsetFirst_h2m1 a0 L2 n3 n4 N v5 v6 v7 v8 v9 v10 v11 v13 v14
  | .h2m2 v5 v8 v9 => law06_RsetFirst_h2m2 a0 L2 n3 n4 N v5 v8 v9
  | .h3m0 v5 => law06_RsetFirst_h3m0 a0 L2 n3 n4 N v5
  | .h3m1 v5 v7 v8 => law06_RsetFirst_h3m1 a0 L2 n3 n4 N v5 v7 v8
  | .h3m2 v5 => law06_RsetFirst_h3m2 a0 L2 n3 n4 N v5
  | .h4m0 v5 => law06_RsetFirst_h4m0 a0 L2 n3 n4 N v5
  | .h4m1 v5 v6 v7 v9 v10 => law06_RsetFirst_h4m1 a0 L2 n3 n4 N v5 v6 v7 v9 v10
  | .h4m2 v5 v8 v9 => law06_RsetFirst_h4m2 a0 L2 n3 n4 N v5 v8 v9
  | .h4m3 v5 => law06_RsetFirst_h4m3 a0 L2 n3 n4 N v5
  | .h5m0 v5 v6 v7 v8 v10 v11 => law06_RsetFirst_h5m0 a0 L2 n3 n4 N v5 v6 v7 v8 v10 v11

def law06_RsetFirstIn (a0 : Int) (L2 : List R_uii) (n3 : Nat) (n4 : Nat) (N : Nat) : Option (law06_RsetFirstX ⊕ law06_RsetFirstR) :=
  if (-9223372036854775808 : Int) ≤ a0 then
    if a0 ≤ (9223372036854775807 : Int) then
      ((rset_New ((IntKind.i64.wrap ((1 : Int) + (Int.tmod a0 (20 : Int))))) N).bind fun r => match r with
      | .r0 =>
        some (.inr (.r0 (false) : law06_RsetFirstR))
      | .r1 =>
        some (.inl (.h1m0 (0) : law06_RsetFirstX))
      )
    else
    none
  else
  none

def law06_RsetFirst (a0 : Int) (L2 : List R_uii) (n3 : Nat) (n4 : Nat) (N : Nat) : Option law06_RsetFirstR := goM (law06_RsetFirstStep a0 L2 n3 n4 N) N (law06_RsetFirstIn a0 L2 n3 n4 N)

/-- gantlet/gantletlaw06.RsetFirst -/
inductive law06_RsetFirst_2R where
  | r0 (w0 : Bool)

inductive law06_RsetFirst_2X where
  | h1m0

def law06_RsetFirst_2_h1m0 (a0 : Int) (N : Nat) : Option (law06_RsetFirst_2X ⊕ law06_RsetFirst_2R) :=
  some (.inr (.r0 (true) : law06_RsetFirst_2R))

def law06_RsetFirst_2Step (a0 : Int) (N : Nat) : law06_RsetFirst_2X → Option (law06_RsetFirst_2X ⊕ law06_RsetFirst_2R)
  | .h1m0 => law06_RsetFirst_2_h1m0 a0 N

def law06_RsetFirst_2In (a0 : Int) (N : Nat) : Option (law06_RsetFirst_2X ⊕ law06_RsetFirst_2R) :=
  if (-9223372036854775808 : Int) ≤ a0 then
    if a0 ≤ (9223372036854775807 : Int) then
      ((rset_New ((IntKind.i64.wrap ((1 : Int) + (Int.tmod a0 (20 : Int))))) N).bind fun r => match r with
      | .r0 =>
        some (.inr (.r0 (false) : law06_RsetFirst_2R))
      | .r1 =>
        some (.inl (.h1m0 : law06_RsetFirst_2X))
      )
    else
    none
  else
  none

def law06_RsetFirst_2 (a0 : Int) (N : Nat) : Option law06_RsetFirst_2R := goM (law06_RsetFirst_2Step a0 N) N (law06_RsetFirst_2In a0 N)
end Ev
end Go.Proofs.Ytjidnaifcjlhmaa
