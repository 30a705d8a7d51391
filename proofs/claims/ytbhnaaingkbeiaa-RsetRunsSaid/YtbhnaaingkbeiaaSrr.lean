/- Records, and the program's functions as plain ones. -/
import Derived.Test.YtbhnaaingkbeiaaFm
namespace Go.Proofs.Ytbhnaaingkbeiaa
open Go.RowKit
namespace Ev
set_option linter.unusedVariables false
structure R_ii where
  a0 : Int
  a1 : Int
def R_ii.z : R_ii := ⟨0, 0⟩
structure R_uii where
  a0 : Int
  a1 : Int
  a2 : Int
def R_uii.z : R_uii := ⟨0, 0, 0⟩
/-- Maps of numbers, as lists of what they hold. -/
def mHas (L : List R_ii) (k : Int) : Bool := L.any fun x => x.a0 == k
def mGet (L : List R_ii) (k : Int) : Int := match L.find? (fun x => x.a0 == k) with | some x => x.a1 | none => 0
def mPut : List R_ii → Int → Int → List R_ii
  | [], k, v => [⟨k, v⟩]
  | x :: L, k, v => if x.a0 = k then ⟨k, v⟩ :: L else x :: mPut L k v
/-- gantlet/rset.New -/
inductive rset_NewR where
  | r0
  | r1

def rset_New (a0 : Int) (N : Nat) : Option rset_NewR :=
  if a0 < (1 : Int) then
    some (.r0 : rset_NewR)
  else
  if (4096 : Int) < a0 then
    some (.r0 : rset_NewR)
  else
  some (.r1 : rset_NewR)

/-- gantlet/gantletref06.New -/
inductive ref06_NewR where
  | r0 (w0 : Int) (w1 : Int)

def ref06_New (a0 : Int) (N : Nat) : Option ref06_NewR :=
  if a0 < (1 : Int) then
    some (.r0 ((0 : Int)) ((1 : Int)) : ref06_NewR)
  else
  if (4096 : Int) < a0 then
    some (.r0 ((0 : Int)) ((1 : Int)) : ref06_NewR)
  else
  some (.r0 (a0) ((0 : Int)) : ref06_NewR)

/-- (*gantlet/rset.Rset).Fork -/
inductive rset_Rset_ForkR where
  | r0

def rset_Rset_Fork (a0 : Int) (N : Nat) : Option rset_Rset_ForkR :=
  if (0 : Int) < a0 then
    some (.r0 : rset_Rset_ForkR)
  else
  none

/-- (*gantlet/rset.Rset).order -/
inductive rset_Rset_orderR where
  | r0

inductive rset_Rset_orderX where
  | h1m0

def rset_Rset_order_h1m0 (a0 : Int) (N : Nat) : Option (rset_Rset_orderX ⊕ rset_Rset_orderR) :=
  some (.inr (.r0 : rset_Rset_orderR))

def rset_Rset_orderStep (a0 : Int) (N : Nat) : rset_Rset_orderX → Option (rset_Rset_orderX ⊕ rset_Rset_orderR)
  | .h1m0 => rset_Rset_order_h1m0 a0 N

def rset_Rset_orderIn (a0 : Int) (N : Nat) : Option (rset_Rset_orderX ⊕ rset_Rset_orderR) :=
  some (.inl (.h1m0 : rset_Rset_orderX))

def rset_Rset_order (a0 : Int) (N : Nat) : Option rset_Rset_orderR := goM (rset_Rset_orderStep a0 N) N (rset_Rset_orderIn a0 N)

/-- (*gantlet/rset.Rset).Add -/
inductive rset_Rset_AddR where
  | r0
  | r1

def rset_Rset_Add (a0 : Int) (a1 : Int) (a2 : Int) (N : Nat) : Option rset_Rset_AddR :=
  if (0 : Int) < a2 then
    if a0 < (0 : Int) then
      some (.r0 : rset_Rset_AddR)
    else
    if (1024 : Int) ≤ a0 then
      some (.r0 : rset_Rset_AddR)
    else
    if a1 < (0 : Int) then
      some (.r0 : rset_Rset_AddR)
    else
    if (2199023255552 : Int) < a1 then
      some (.r0 : rset_Rset_AddR)
    else
    ((rset_Rset_order (a2) N).bind fun r => match r with
    | .r0 =>
      some (.r1 : rset_Rset_AddR)
    )
  else
  none

/-- gantlet/gantletref06.Has -/
inductive ref06_HasR where
  | r0

inductive ref06_HasX where
  | h1m0

def ref06_Has_h1m0 (a0 : Int) (a1 : Int) (N : Nat) : Option (ref06_HasX ⊕ ref06_HasR) :=
  some (.inr (.r0 : ref06_HasR))

def ref06_HasStep (a0 : Int) (a1 : Int) (N : Nat) : ref06_HasX → Option (ref06_HasX ⊕ ref06_HasR)
  | .h1m0 => ref06_Has_h1m0 a0 a1 N

def ref06_HasIn (a0 : Int) (a1 : Int) (N : Nat) : Option (ref06_HasX ⊕ ref06_HasR) :=
  some (.inl (.h1m0 : ref06_HasX))

def ref06_Has (a0 : Int) (a1 : Int) (N : Nat) : Option ref06_HasR := goM (ref06_HasStep a0 a1 N) N (ref06_HasIn a0 a1 N)

/-- gantlet/gantletref06.Add -/
inductive ref06_AddR where
  | r0 (w1 : Int)
  | r1

def ref06_Add (a0 : Int) (a1 : Int) (a2 : Int) (N : Nat) : Option ref06_AddR :=
  if a1 < (0 : Int) then
    some (.r0 ((1 : Int)) : ref06_AddR)
  else
  if (1023 : Int) < a1 then
    some (.r0 ((1 : Int)) : ref06_AddR)
  else
  if a2 < (0 : Int) then
    some (.r0 ((1 : Int)) : ref06_AddR)
  else
  if (2199023255552 : Int) < a2 then
    some (.r0 ((1 : Int)) : ref06_AddR)
  else
  ((ref06_Has (a0) (a1) N).bind fun r => match r with
  | .r0 =>
    if a0 ≤ (0 : Int) then
      some (.r0 ((60 : Int)) : ref06_AddR)
    else
    some (.r1 : ref06_AddR)
  )

/-- (*gantlet/rset.Rset).Has -/
inductive rset_Rset_HasR where
  | r0

def rset_Rset_Has (a0 : Int) (a1 : Int) (N : Nat) : Option rset_Rset_HasR :=
  if (0 : Int) < a1 then
    ((rset_Rset_order (a1) N).bind fun r => match r with
    | .r0 =>
      some (.r0 : rset_Rset_HasR)
    )
  else
  none

/-- (*gantlet/rset.Rset).At -/
inductive rset_Rset_AtR where
  | r0

def rset_Rset_At (a0 : Int) (a1 : Int) (L2 : List R_ii) (N : Nat) : Option rset_Rset_AtR :=
  if a0 < (0 : Int) then
    some (.r0 : rset_Rset_AtR)
  else
  if (0 : Int) < a1 then
    some (.r0 : rset_Rset_AtR)
  else
  none

/-- gantlet/gantletref06.Same -/
inductive ref06_SameR where
  | r0

inductive ref06_SameX where
  | h1m0

def ref06_Same_h1m0  (N : Nat) : Option (ref06_SameX ⊕ ref06_SameR) :=
  some (.inr (.r0 : ref06_SameR))

def ref06_SameStep  (N : Nat) : ref06_SameX → Option (ref06_SameX ⊕ ref06_SameR)
  | .h1m0 => ref06_Same_h1m0  N

def ref06_SameIn  (N : Nat) : Option (ref06_SameX ⊕ ref06_SameR) :=
  some (.inl (.h1m0 : ref06_SameX))

def ref06_Same  (N : Nat) : Option ref06_SameR := goM (ref06_SameStep  N) N (ref06_SameIn  N)

/-- (*gantlet/rset.Rset).Has -/
inductive rset_Rset_Has_2R where
  | r0 (w2 : Int) (w3 : Bool)

def rset_Rset_Has_2 (a0 : Int) (a1 : Int) (L2 : List R_ii) (L3 : List R_ii) (N : Nat) : Option rset_Rset_Has_2R :=
  if (0 : Int) < a1 then
    if (mHas L3 a0) = true then
      if (0 : Int) ≤ (mGet L3 a0) then
        if ((mGet L3 a0)).toNat < L2.length then
          some (.r0 ((L2.getD ((mGet L3 a0)).toNat R_ii.z).a1) (true) : rset_Rset_Has_2R)
        else
        none
      else
      none
    else
    some (.r0 ((0 : Int)) (false) : rset_Rset_Has_2R)
  else
  none

/-- gantlet/gantletref06.Has -/
inductive ref06_Has_2R where
  | r0 (w1 : Int) (w2 : Bool)

inductive ref06_Has_2X where
  | h1m0 (v2 : Nat)

def ref06_Has_2_h1m0 (a0 : Int) (L1 : List R_ii) (a2 : Int) (N : Nat) (v2 : Nat) : Option (ref06_Has_2X ⊕ ref06_Has_2R) :=
  if ((v2 : Nat) : Int) < ((L1.length : Nat) : Int) then
    if (L1.getD v2 R_ii.z).a0 = a2 then
      some (.inr (.r0 ((L1.getD v2 R_ii.z).a1) (true) : ref06_Has_2R))
    else
    if (((v2 + 1) : Nat) : Int) ≤ (9223372036854775807 : Int) then
      some (.inl (.h1m0 ((v2 + 1)) : ref06_Has_2X))
    else
    none
  else
  some (.inr (.r0 ((0 : Int)) (false) : ref06_Has_2R))

def ref06_Has_2Step (a0 : Int) (L1 : List R_ii) (a2 : Int) (N : Nat) : ref06_Has_2X → Option (ref06_Has_2X ⊕ ref06_Has_2R)
  | .h1m0 v2 => ref06_Has_2_h1m0 a0 L1 a2 N v2

def ref06_Has_2In (a0 : Int) (L1 : List R_ii) (a2 : Int) (N : Nat) : Option (ref06_Has_2X ⊕ ref06_Has_2R) :=
  some (.inl (.h1m0 (0) : ref06_Has_2X))

def ref06_Has_2 (a0 : Int) (L1 : List R_ii) (a2 : Int) (N : Nat) : Option ref06_Has_2R := goM (ref06_Has_2Step a0 L1 a2 N) N (ref06_Has_2In a0 L1 a2 N)

/-- (*gantlet/rset.Rset).At -/
inductive rset_Rset_At_2R where
  | r0 (w2 : Int) (w3 : Int) (w4 : Bool)

def rset_Rset_At_2 (a0 : Int) (a1 : Int) (L2 : List R_ii) (L3 : List R_ii) (N : Nat) : Option rset_Rset_At_2R :=
  if a0 < (0 : Int) then
    some (.r0 ((0 : Int)) ((0 : Int)) (false) : rset_Rset_At_2R)
  else
  if (0 : Int) < a1 then
    if ((L2.length : Nat) : Int) ≤ a0 then
      some (.r0 ((0 : Int)) ((0 : Int)) (false) : rset_Rset_At_2R)
    else
    some (.r0 ((L2.getD (a0).toNat R_ii.z).a0) ((L2.getD (a0).toNat R_ii.z).a1) (true) : rset_Rset_At_2R)
  else
  none

/-- gantlet/gantletref06.Same -/
inductive ref06_Same_2R where
  | r0 (w2 : Bool)

inductive ref06_Same_2X where
  | h1m0 (v2 : Nat)

def ref06_Same_2_h1m0 (L0 : List R_ii) (L1 : List R_ii) (N : Nat) (v2 : Nat) : Option (ref06_Same_2X ⊕ ref06_Same_2R) :=
  if ((v2 : Nat) : Int) < ((L0.length : Nat) : Int) then
    if v2 < L1.length then
      if ¬ (((L0.getD v2 R_ii.z).a0 = (L1.getD v2 R_ii.z).a0 ∧ (L0.getD v2 R_ii.z).a1 = (L1.getD v2 R_ii.z).a1)) then
        some (.inr (.r0 (false) : ref06_Same_2R))
      else
      if (((v2 + 1) : Nat) : Int) ≤ (9223372036854775807 : Int) then
        some (.inl (.h1m0 ((v2 + 1)) : ref06_Same_2X))
      else
      none
    else
    none
  else
  some (.inr (.r0 (true) : ref06_Same_2R))

def ref06_Same_2Step (L0 : List R_ii) (L1 : List R_ii) (N : Nat) : ref06_Same_2X → Option (ref06_Same_2X ⊕ ref06_Same_2R)
  | .h1m0 v2 => ref06_Same_2_h1m0 L0 L1 N v2

def ref06_Same_2In (L0 : List R_ii) (L1 : List R_ii) (N : Nat) : Option (ref06_Same_2X ⊕ ref06_Same_2R) :=
  if ¬ (((L0.length : Nat) : Int) = ((L1.length : Nat) : Int)) then
    some (.inr (.r0 (false) : ref06_Same_2R))
  else
  some (.inl (.h1m0 (0) : ref06_Same_2X))

def ref06_Same_2 (L0 : List R_ii) (L1 : List R_ii) (N : Nat) : Option ref06_Same_2R := goM (ref06_Same_2Step L0 L1 N) N (ref06_Same_2In L0 L1 N)

/-- (*gantlet/rset.Rset).Fork -/
inductive rset_Rset_Fork_2R where
  | r0

def rset_Rset_Fork_2 (a0 : Int) (L1 : List R_ii) (N : Nat) : Option rset_Rset_Fork_2R :=
  if (0 : Int) < a0 then
    some (.r0 : rset_Rset_Fork_2R)
  else
  none

/-- (*gantlet/rset.Rset).Add -/
inductive rset_Rset_Add_2R where
  | r0 (w1 : Int)
  | r1

def rset_Rset_Add_2 (a0 : Int) (a1 : Int) (a2 : Int) (L3 : List R_ii) (N : Nat) : Option rset_Rset_Add_2R :=
  if (0 : Int) < a2 then
    if a0 < (0 : Int) then
      some (.r0 ((1 : Int)) : rset_Rset_Add_2R)
    else
    if (1024 : Int) ≤ a0 then
      some (.r0 ((1 : Int)) : rset_Rset_Add_2R)
    else
    if a1 < (0 : Int) then
      some (.r0 ((1 : Int)) : rset_Rset_Add_2R)
    else
    if (2199023255552 : Int) < a1 then
      some (.r0 ((1 : Int)) : rset_Rset_Add_2R)
    else
    if (mHas L3 a0) = true then
      some (.r0 ((0 : Int)) : rset_Rset_Add_2R)
    else
    some (.r1 : rset_Rset_Add_2R)
  else
  none

/-- (*gantlet/rset.Rset).Fork -/
inductive rset_Rset_Fork_3R where
  | r0 (w4 : List R_ii)

def rset_Rset_Fork_3 (a0 : Int) (L1 : List R_ii) (L2 : List R_ii) (N : Nat) : Option rset_Rset_Fork_3R :=
  if (0 : Int) < a0 then
    if L1.length = 0 then
      some (.r0 (([] : List R_ii)) : rset_Rset_Fork_3R)
    else
    if L1.length ≤ 100000 then
      some (.r0 (L1) : rset_Rset_Fork_3R)
    else
    none
  else
  none

/-- (*gantlet/rset.Rset).Add -/
inductive rset_Rset_Add_3R where
  | r0 (w2 : Int)
  | r1

def rset_Rset_Add_3 (a0 : Int) (a1 : Int) (a2 : Int) (L3 : List R_ii) (L4 : List R_ii) (N : Nat) : Option rset_Rset_Add_3R :=
  if (0 : Int) < a2 then
    if a0 < (0 : Int) then
      some (.r0 ((1 : Int)) : rset_Rset_Add_3R)
    else
    if (1024 : Int) ≤ a0 then
      some (.r0 ((1 : Int)) : rset_Rset_Add_3R)
    else
    if a1 < (0 : Int) then
      some (.r0 ((1 : Int)) : rset_Rset_Add_3R)
    else
    if (2199023255552 : Int) < a1 then
      some (.r0 ((1 : Int)) : rset_Rset_Add_3R)
    else
    if (mHas L4 a0) = true then
      some (.r0 ((0 : Int)) : rset_Rset_Add_3R)
    else
    if a2 ≤ ((L3.length : Nat) : Int) then
      some (.r0 ((60 : Int)) : rset_Rset_Add_3R)
    else
    if L3.length ≤ 100000 then
      some (.r1 : rset_Rset_Add_3R)
    else
    none
  else
  none

/-- gantlet/gantletref06.Add -/
inductive ref06_Add_2R where
  | r0 (w2 : Int)
  | r1 (w2 : List R_ii)

def ref06_Add_2 (a0 : Int) (L1 : List R_ii) (a2 : Int) (a3 : Int) (N : Nat) : Option ref06_Add_2R :=
  if a2 < (0 : Int) then
    some (.r0 ((1 : Int)) : ref06_Add_2R)
  else
  if (1023 : Int) < a2 then
    some (.r0 ((1 : Int)) : ref06_Add_2R)
  else
  if a3 < (0 : Int) then
    some (.r0 ((1 : Int)) : ref06_Add_2R)
  else
  if (2199023255552 : Int) < a3 then
    some (.r0 ((1 : Int)) : ref06_Add_2R)
  else
  ((ref06_Has_2 (a0) (L1) (a2) N).bind fun r => match r with
  | .r0 y4_0 y4_1 =>
    if y4_1 = true then
      some (.r0 ((0 : Int)) : ref06_Add_2R)
    else
    if a0 ≤ ((L1.length : Nat) : Int) then
      some (.r0 ((60 : Int)) : ref06_Add_2R)
    else
    if L1.length = 0 then
      some (.r1 (([(⟨a2, a3⟩ : R_ii)] : List R_ii)) : ref06_Add_2R)
    else
    if L1.length ≤ 100000 then
      some (.r1 ((L1 ++ ([(⟨a2, a3⟩ : R_ii)] : List R_ii))) : ref06_Add_2R)
    else
    none
  )

/-- (*gantlet/rset.Rset).Has -/
inductive rset_Rset_Has_3R where
  | r0

def rset_Rset_Has_3 (a0 : Int) (a1 : Int) (L2 : List R_ii) (N : Nat) : Option rset_Rset_Has_3R :=
  if (0 : Int) < a1 then
    if (mHas L2 a0) = true then
      none
    else
    some (.r0 : rset_Rset_Has_3R)
  else
  none

/-- (*gantlet/rset.Rset).order -/
inductive rset_Rset_order_2R where
  | r0 (w2 : List R_ii)

inductive rset_Rset_order_2X where
  | h1m0 (v2 : Nat) (v4 : List R_ii)

def rset_Rset_order_2_h1m0 (a0 : Int) (L1 : List R_ii) (N : Nat) (v2 : Nat) (v4 : List R_ii) : Option (rset_Rset_order_2X ⊕ rset_Rset_order_2R) :=
  if ((v2 : Nat) : Int) < ((L1.length : Nat) : Int) then
    if (((v2 + 1) : Nat) : Int) ≤ (9223372036854775807 : Int) then
      some (.inl (.h1m0 ((v2 + 1)) ((mPut v4 (L1.getD v2 R_ii.z).a0 ((v2 : Nat) : Int))) : rset_Rset_order_2X))
    else
    none
  else
  some (.inr (.r0 (v4) : rset_Rset_order_2R))

def rset_Rset_order_2Step (a0 : Int) (L1 : List R_ii) (N : Nat) : rset_Rset_order_2X → Option (rset_Rset_order_2X ⊕ rset_Rset_order_2R)
  | .h1m0 v2 v4 => rset_Rset_order_2_h1m0 a0 L1 N v2 v4

def rset_Rset_order_2In (a0 : Int) (L1 : List R_ii) (N : Nat) : Option (rset_Rset_order_2X ⊕ rset_Rset_order_2R) :=
  some (.inl (.h1m0 (0) (([] : List R_ii)) : rset_Rset_order_2X))

def rset_Rset_order_2 (a0 : Int) (L1 : List R_ii) (N : Nat) : Option rset_Rset_order_2R := goM (rset_Rset_order_2Step a0 L1 N) N (rset_Rset_order_2In a0 L1 N)

/-- (*gantlet/rset.Rset).Has -/
inductive rset_Rset_Has_4R where
  | r0 (w1 : Int) (w2 : Bool) (w4 : List R_ii)

def rset_Rset_Has_4 (a0 : Int) (a1 : Int) (L2 : List R_ii) (N : Nat) : Option rset_Rset_Has_4R :=
  if (0 : Int) < a1 then
    ((rset_Rset_order_2 (a1) (L2) N).bind fun r => match r with
    | .r0 y1_0 =>
      if (mHas y1_0 a0) = true then
        if (0 : Int) ≤ (mGet y1_0 a0) then
          if ((mGet y1_0 a0)).toNat < L2.length then
            some (.r0 ((L2.getD ((mGet y1_0 a0)).toNat R_ii.z).a1) (true) (y1_0) : rset_Rset_Has_4R)
          else
          none
        else
        none
      else
      some (.r0 ((0 : Int)) (false) (y1_0) : rset_Rset_Has_4R)
    )
  else
  none

/-- gantlet/gantletlaw06.RsetRuns -/
inductive law06_RsetRunsR where
  | r0 (w2 : Bool)

inductive law06_RsetRunsX where
  | h1m0 (v6 : Int)
  | h1m1 (v7 : Int)
  | h1m2 (v5 : Nat) (v8 : Int)
  | h1m3 (v5 : Nat) (v7 : List R_ii) (v8 : List R_ii) (v9 : Int) (v10 : List R_ii)
  | h2m0 (v5 : Nat) (v6 : Nat) (v7 : Int) (v9 : Int) (v10 : Int) (v11 : Int) (v12 : Int)
  | h2m1 (v5 : Nat) (v6 : Int) (v7 : Int) (v9 : List R_ii) (v10 : List R_ii) (v11 : Int) (v12 : List R_ii) (v13 : Int) (v14 : Int) (v15 : Int)
  | h2m2 (v5 : Nat) (v6 : Int) (v7 : Int) (v10 : Int) (v11 : Int) (v12 : Int) (v13 : Int)
  | h2m3 (v5 : Nat) (v9 : List R_ii) (v10 : Int) (v11 : List R_ii) (v12 : Int) (v13 : Int) (v14 : Int)

def law06_RsetRuns_h1m0 (a0 : Int) (L2 : List R_uii) (n3 : Nat) (n4 : Nat) (a5 : Int) (N : Nat) (v6 : Int) : Option (law06_RsetRunsX ⊕ law06_RsetRunsR) :=
  some (.inr (.r0 (true) : law06_RsetRunsR))

def law06_RsetRuns_h1m1 (a0 : Int) (L2 : List R_uii) (n3 : Nat) (n4 : Nat) (a5 : Int) (N : Nat) (v7 : Int) : Option (law06_RsetRunsX ⊕ law06_RsetRunsR) :=
  if (0 : Int) < ((n3 : Nat) : Int) then
    if 0 < L2.length then
      if (Int.tmod (L2.getD 0 R_uii.z).a0 (7 : Int)) = (5 : Int) then
        if (0 : Int) < a0 then
          some (.inl (.h2m0 (0) (0) ((0 : Int)) (v7) ((L2.getD 0 R_uii.z).a0) ((L2.getD 0 R_uii.z).a1) ((L2.getD 0 R_uii.z).a2) : law06_RsetRunsX))
        else
        none
      else
      if (Int.tmod (L2.getD 0 R_uii.z).a0 (7 : Int)) = (6 : Int) then
        ((rset_Rset_Fork (a0) N).bind fun r => match r with
        | .r0 =>
          ((rset_Rset_Add ((7 : Int)) ((7 : Int)) (a0) N).bind fun r => match r with
          | .r0 =>
            if (0 : Int) < a0 then
              some (.inl (.h2m0 (0) (0) ((0 : Int)) (v7) ((L2.getD 0 R_uii.z).a0) ((L2.getD 0 R_uii.z).a1) ((L2.getD 0 R_uii.z).a2) : law06_RsetRunsX))
            else
            none
          | .r1 =>
            if (0 : Int) < a0 then
              some (.inl (.h2m0 (0) (0) ((0 : Int)) (v7) ((L2.getD 0 R_uii.z).a0) ((L2.getD 0 R_uii.z).a1) ((L2.getD 0 R_uii.z).a2) : law06_RsetRunsX))
            else
            none
          )
        )
      else
      ((rset_Rset_Add ((L2.getD 0 R_uii.z).a1) ((L2.getD 0 R_uii.z).a2) (a0) N).bind fun r => match r with
      | .r0 =>
        ((ref06_Add (v7) ((L2.getD 0 R_uii.z).a1) ((L2.getD 0 R_uii.z).a2) N).bind fun r => match r with
        | .r0 y5_0 =>
          some (.inl (.h2m0 (0) (1) (y5_0) (v7) ((L2.getD 0 R_uii.z).a0) ((L2.getD 0 R_uii.z).a1) ((L2.getD 0 R_uii.z).a2) : law06_RsetRunsX))
        | .r1 =>
          none
        )
      | .r1 =>
        ((ref06_Add (v7) ((L2.getD 0 R_uii.z).a1) ((L2.getD 0 R_uii.z).a2) N).bind fun r => match r with
        | .r0 _ =>
          none
        | .r1 =>
          some (.inl (.h2m1 (0) ((0 : Int)) ((0 : Int)) (([(⟨(L2.getD 0 R_uii.z).a1, (L2.getD 0 R_uii.z).a2⟩ : R_ii)] : List R_ii)) ((mPut ([] : List R_ii) (L2.getD 0 R_uii.z).a1 (0 : Int))) (v7) (([(⟨(L2.getD 0 R_uii.z).a1, (L2.getD 0 R_uii.z).a2⟩ : R_ii)] : List R_ii)) ((L2.getD 0 R_uii.z).a0) ((L2.getD 0 R_uii.z).a1) ((L2.getD 0 R_uii.z).a2) : law06_RsetRunsX))
        )
      )
    else
    none
  else
  some (.inr (.r0 (true) : law06_RsetRunsR))

def law06_RsetRuns_h1m2 (a0 : Int) (L2 : List R_uii) (n3 : Nat) (n4 : Nat) (a5 : Int) (N : Nat) (v5 : Nat) (v8 : Int) : Option (law06_RsetRunsX ⊕ law06_RsetRunsR) :=
  if ((v5 : Nat) : Int) < ((n3 : Nat) : Int) then
    if ((v5 : Nat) : Int) < (80 : Int) then
      if v5 < L2.length then
        if (Int.tmod (L2.getD v5 R_uii.z).a0 (7 : Int)) = (5 : Int) then
          if (0 : Int) < a0 then
            some (.inl (.h2m2 (v5) ((0 : Int)) ((0 : Int)) (v8) ((L2.getD v5 R_uii.z).a0) ((L2.getD v5 R_uii.z).a1) ((L2.getD v5 R_uii.z).a2) : law06_RsetRunsX))
          else
          none
        else
        if (Int.tmod (L2.getD v5 R_uii.z).a0 (7 : Int)) = (6 : Int) then
          ((rset_Rset_Fork_2 (a0) (([] : List R_ii)) N).bind fun r => match r with
          | .r0 =>
            ((rset_Rset_Add_2 ((7 : Int)) ((7 : Int)) (a0) (([] : List R_ii)) N).bind fun r => match r with
            | .r0 y6_0 =>
              if (0 : Int) < a0 then
                some (.inl (.h2m0 (v5) (0) ((0 : Int)) (v8) ((L2.getD v5 R_uii.z).a0) ((L2.getD v5 R_uii.z).a1) ((L2.getD v5 R_uii.z).a2) : law06_RsetRunsX))
              else
              none
            | .r1 =>
              if (0 : Int) < a0 then
                some (.inl (.h2m0 (v5) (0) ((0 : Int)) (v8) ((L2.getD v5 R_uii.z).a0) ((L2.getD v5 R_uii.z).a1) ((L2.getD v5 R_uii.z).a2) : law06_RsetRunsX))
              else
              none
            )
          )
        else
        ((rset_Rset_Add_2 ((L2.getD v5 R_uii.z).a1) ((L2.getD v5 R_uii.z).a2) (a0) (([] : List R_ii)) N).bind fun r => match r with
        | .r0 y5_0 =>
          ((ref06_Add (v8) ((L2.getD v5 R_uii.z).a1) ((L2.getD v5 R_uii.z).a2) N).bind fun r => match r with
          | .r0 y6_0 =>
            some (.inl (.h2m2 (v5) (y5_0) (y6_0) (v8) ((L2.getD v5 R_uii.z).a0) ((L2.getD v5 R_uii.z).a1) ((L2.getD v5 R_uii.z).a2) : law06_RsetRunsX))
          | .r1 =>
            none
          )
        | .r1 =>
          ((ref06_Add (v8) ((L2.getD v5 R_uii.z).a1) ((L2.getD v5 R_uii.z).a2) N).bind fun r => match r with
          | .r0 _ =>
            none
          | .r1 =>
            some (.inl (.h2m1 (v5) ((0 : Int)) ((0 : Int)) (([(⟨(L2.getD v5 R_uii.z).a1, (L2.getD v5 R_uii.z).a2⟩ : R_ii)] : List R_ii)) ((mPut ([] : List R_ii) (L2.getD v5 R_uii.z).a1 (0 : Int))) (v8) (([(⟨(L2.getD v5 R_uii.z).a1, (L2.getD v5 R_uii.z).a2⟩ : R_ii)] : List R_ii)) ((L2.getD v5 R_uii.z).a0) ((L2.getD v5 R_uii.z).a1) ((L2.getD v5 R_uii.z).a2) : law06_RsetRunsX))
          )
        )
      else
      none
    else
    some (.inr (.r0 (true) : law06_RsetRunsR))
  else
  some (.inr (.r0 (true) : law06_RsetRunsR))

def law06_RsetRuns_h1m3 (a0 : Int) (L2 : List R_uii) (n3 : Nat) (n4 : Nat) (a5 : Int) (N : Nat) (v5 : Nat) (v7 : List R_ii) (v8 : List R_ii) (v9 : Int) (v10 : List R_ii) : Option (law06_RsetRunsX ⊕ law06_RsetRunsR) :=
  if ((v5 : Nat) : Int) < ((n3 : Nat) : Int) then
    if ((v5 : Nat) : Int) < (80 : Int) then
      if v5 < L2.length then
        if (Int.tmod (L2.getD v5 R_uii.z).a0 (7 : Int)) = (5 : Int) then
          if (0 : Int) < a0 then
            some (.inl (.h2m2 (v5) ((0 : Int)) ((0 : Int)) (v9) ((L2.getD v5 R_uii.z).a0) ((L2.getD v5 R_uii.z).a1) ((L2.getD v5 R_uii.z).a2) : law06_RsetRunsX))
          else
          none
        else
        if (Int.tmod (L2.getD v5 R_uii.z).a0 (7 : Int)) = (6 : Int) then
          ((rset_Rset_Fork_3 (a0) (v7) (v8) N).bind fun r => match r with
          | .r0 y5_0 =>
            ((rset_Rset_Add_3 ((7 : Int)) ((7 : Int)) (a0) (v7) (v8) N).bind fun r => match r with
            | .r0 y6_0 =>
              if (0 : Int) < a0 then
                some (.inl (.h2m3 (v5) (y5_0) (v9) (v10) ((L2.getD v5 R_uii.z).a0) ((L2.getD v5 R_uii.z).a1) ((L2.getD v5 R_uii.z).a2) : law06_RsetRunsX))
              else
              none
            | .r1 =>
              if (0 : Int) < a0 then
                some (.inl (.h2m3 (v5) (y5_0) (v9) (v10) ((L2.getD v5 R_uii.z).a0) ((L2.getD v5 R_uii.z).a1) ((L2.getD v5 R_uii.z).a2) : law06_RsetRunsX))
              else
              none
            )
          )
        else
        ((rset_Rset_Add_3 ((L2.getD v5 R_uii.z).a1) ((L2.getD v5 R_uii.z).a2) (a0) (v7) (v8) N).bind fun r => match r with
        | .r0 y5_0 =>
          ((ref06_Add_2 (v9) (v10) ((L2.getD v5 R_uii.z).a1) ((L2.getD v5 R_uii.z).a2) N).bind fun r => match r with
          | .r0 y6_0 =>
            some (.inl (.h2m1 (v5) (y5_0) (y6_0) (v7) (v8) (v9) (v10) ((L2.getD v5 R_uii.z).a0) ((L2.getD v5 R_uii.z).a1) ((L2.getD v5 R_uii.z).a2) : law06_RsetRunsX))
          | .r1 _ =>
            none
          )
        | .r1 =>
          ((ref06_Add_2 (v9) (v10) ((L2.getD v5 R_uii.z).a1) ((L2.getD v5 R_uii.z).a2) N).bind fun r => match r with
          | .r0 _ =>
            none
          | .r1 y6_0 =>
            some (.inl (.h2m1 (v5) ((0 : Int)) ((0 : Int)) ((v7 ++ ([(⟨(L2.getD v5 R_uii.z).a1, (L2.getD v5 R_uii.z).a2⟩ : R_ii)] : List R_ii))) ((mPut v8 (L2.getD v5 R_uii.z).a1 ((v7.length : Nat) : Int))) (v9) (y6_0) ((L2.getD v5 R_uii.z).a0) ((L2.getD v5 R_uii.z).a1) ((L2.getD v5 R_uii.z).a2) : law06_RsetRunsX))
          )
        )
      else
      none
    else
    some (.inr (.r0 (true) : law06_RsetRunsR))
  else
  some (.inr (.r0 (true) : law06_RsetRunsR))

def law06_RsetRuns_h2m0 (a0 : Int) (L2 : List R_uii) (n3 : Nat) (n4 : Nat) (a5 : Int) (N : Nat) (v5 : Nat) (v6 : Nat) (v7 : Int) (v9 : Int) (v10 : Int) (v11 : Int) (v12 : Int) : Option (law06_RsetRunsX ⊕ law06_RsetRunsR) :=
  ((rset_Rset_Has (v11) (a0) N).bind fun r => match r with
  | .r0 =>
    ((ref06_Has (v9) (v11) N).bind fun r => match r with
    | .r0 =>
      ((rset_Rset_At (a5) (a0) (([] : List R_ii)) N).bind fun r => match r with
      | .r0 =>
        if ¬ (((v6 : Nat) : Int) = v7) then
          some (.inr (.r0 (false) : law06_RsetRunsR))
        else
        if (0 : Int) < a0 then
          ((ref06_Same N).bind fun r => match r with
          | .r0 =>
            if (((v5 + 1) : Nat) : Int) ≤ (9223372036854775807 : Int) then
              some (.inl (.h1m2 ((v5 + 1)) (v9) : law06_RsetRunsX))
            else
            none
          )
        else
        none
      )
    )
  )

def law06_RsetRuns_h2m1 (a0 : Int) (L2 : List R_uii) (n3 : Nat) (n4 : Nat) (a5 : Int) (N : Nat) (v5 : Nat) (v6 : Int) (v7 : Int) (v9 : List R_ii) (v10 : List R_ii) (v11 : Int) (v12 : List R_ii) (v13 : Int) (v14 : Int) (v15 : Int) : Option (law06_RsetRunsX ⊕ law06_RsetRunsR) :=
  ((rset_Rset_Has_2 (v14) (a0) (v9) (v10) N).bind fun r => match r with
  | .r0 y0_0 y0_1 =>
    ((ref06_Has_2 (v11) (v12) (v14) N).bind fun r => match r with
    | .r0 y1_0 y1_1 =>
      ((rset_Rset_At_2 (a5) (a0) (v9) (v10) N).bind fun r => match r with
      | .r0 y2_0 y2_1 y2_2 =>
        if (0 : Int) ≤ a5 then
          if a5 < ((v12.length : Nat) : Int) then
            if ¬ (v6 = v7) then
              some (.inr (.r0 (false) : law06_RsetRunsR))
            else
            if ¬ (y0_0 = y1_0) then
              some (.inr (.r0 (false) : law06_RsetRunsR))
            else
            if ¬ (y0_1 = y1_1) then
              some (.inr (.r0 (false) : law06_RsetRunsR))
            else
            if ¬ ((y2_0 = (v12.getD (a5).toNat R_ii.z).a0 ∧ y2_1 = (v12.getD (a5).toNat R_ii.z).a1)) then
              some (.inr (.r0 (false) : law06_RsetRunsR))
            else
            if ¬ (y2_2 = true) then
              some (.inr (.r0 (false) : law06_RsetRunsR))
            else
            if (0 : Int) < a0 then
              if ¬ (((v9.length : Nat) : Int) = ((v12.length : Nat) : Int)) then
                some (.inr (.r0 (false) : law06_RsetRunsR))
              else
              if v9.length ≤ 100000 then
                ((ref06_Same_2 (v9) (v12) N).bind fun r => match r with
                | .r0 y13_0 =>
                  if ¬ (y13_0 = true) then
                    some (.inr (.r0 (false) : law06_RsetRunsR))
                  else
                  if (((v5 + 1) : Nat) : Int) ≤ (9223372036854775807 : Int) then
                    some (.inl (.h1m3 ((v5 + 1)) (v9) (v10) (v11) (v12) : law06_RsetRunsX))
                  else
                  none
                )
              else
              none
            else
            none
          else
          if ¬ (v6 = v7) then
            some (.inr (.r0 (false) : law06_RsetRunsR))
          else
          if ¬ (y0_0 = y1_0) then
            some (.inr (.r0 (false) : law06_RsetRunsR))
          else
          if ¬ (y0_1 = y1_1) then
            some (.inr (.r0 (false) : law06_RsetRunsR))
          else
          if ¬ ((y2_0 = (0 : Int) ∧ y2_1 = (0 : Int))) then
            some (.inr (.r0 (false) : law06_RsetRunsR))
          else
          if ¬ (y2_2 = false) then
            some (.inr (.r0 (false) : law06_RsetRunsR))
          else
          if (0 : Int) < a0 then
            if ¬ (((v9.length : Nat) : Int) = ((v12.length : Nat) : Int)) then
              some (.inr (.r0 (false) : law06_RsetRunsR))
            else
            if v9.length = 0 then
              ((ref06_Same_2 (([] : List R_ii)) (v12) N).bind fun r => match r with
              | .r0 y13_0 =>
                if ¬ (y13_0 = true) then
                  some (.inr (.r0 (false) : law06_RsetRunsR))
                else
                if (((v5 + 1) : Nat) : Int) ≤ (9223372036854775807 : Int) then
                  some (.inl (.h1m3 ((v5 + 1)) (v9) (v10) (v11) (v12) : law06_RsetRunsX))
                else
                none
              )
            else
            if v9.length ≤ 100000 then
              ((ref06_Same_2 (v9) (v12) N).bind fun r => match r with
              | .r0 y14_0 =>
                if ¬ (y14_0 = true) then
                  some (.inr (.r0 (false) : law06_RsetRunsR))
                else
                if (((v5 + 1) : Nat) : Int) ≤ (9223372036854775807 : Int) then
                  some (.inl (.h1m3 ((v5 + 1)) (v9) (v10) (v11) (v12) : law06_RsetRunsX))
                else
                none
              )
            else
            none
          else
          none
        else
        if ¬ (v6 = v7) then
          some (.inr (.r0 (false) : law06_RsetRunsR))
        else
        if ¬ (y0_0 = y1_0) then
          some (.inr (.r0 (false) : law06_RsetRunsR))
        else
        if ¬ (y0_1 = y1_1) then
          some (.inr (.r0 (false) : law06_RsetRunsR))
        else
        if ¬ ((y2_0 = (0 : Int) ∧ y2_1 = (0 : Int))) then
          some (.inr (.r0 (false) : law06_RsetRunsR))
        else
        if ¬ (y2_2 = false) then
          some (.inr (.r0 (false) : law06_RsetRunsR))
        else
        if (0 : Int) < a0 then
          if ¬ (((v9.length : Nat) : Int) = ((v12.length : Nat) : Int)) then
            some (.inr (.r0 (false) : law06_RsetRunsR))
          else
          if v9.length = 0 then
            ((ref06_Same_2 (([] : List R_ii)) (v12) N).bind fun r => match r with
            | .r0 y12_0 =>
              if ¬ (y12_0 = true) then
                some (.inr (.r0 (false) : law06_RsetRunsR))
              else
              if (((v5 + 1) : Nat) : Int) ≤ (9223372036854775807 : Int) then
                some (.inl (.h1m3 ((v5 + 1)) (v9) (v10) (v11) (v12) : law06_RsetRunsX))
              else
              none
            )
          else
          if v9.length ≤ 100000 then
            ((ref06_Same_2 (v9) (v12) N).bind fun r => match r with
            | .r0 y13_0 =>
              if ¬ (y13_0 = true) then
                some (.inr (.r0 (false) : law06_RsetRunsR))
              else
              if (((v5 + 1) : Nat) : Int) ≤ (9223372036854775807 : Int) then
                some (.inl (.h1m3 ((v5 + 1)) (v9) (v10) (v11) (v12) : law06_RsetRunsX))
              else
              none
            )
          else
          none
        else
        none
      )
    )
  )

def law06_RsetRuns_h2m2 (a0 : Int) (L2 : List R_uii) (n3 : Nat) (n4 : Nat) (a5 : Int) (N : Nat) (v5 : Nat) (v6 : Int) (v7 : Int) (v10 : Int) (v11 : Int) (v12 : Int) (v13 : Int) : Option (law06_RsetRunsX ⊕ law06_RsetRunsR) :=
  ((rset_Rset_Has_3 (v12) (a0) (([] : List R_ii)) N).bind fun r => match r with
  | .r0 =>
    ((ref06_Has (v10) (v12) N).bind fun r => match r with
    | .r0 =>
      ((rset_Rset_At (a5) (a0) (([] : List R_ii)) N).bind fun r => match r with
      | .r0 =>
        if ¬ (v6 = v7) then
          some (.inr (.r0 (false) : law06_RsetRunsR))
        else
        if (0 : Int) < a0 then
          ((ref06_Same N).bind fun r => match r with
          | .r0 =>
            if (((v5 + 1) : Nat) : Int) ≤ (9223372036854775807 : Int) then
              some (.inl (.h1m2 ((v5 + 1)) (v10) : law06_RsetRunsX))
            else
            none
          )
        else
        none
      )
    )
  )

def law06_RsetRuns_h2m3 (a0 : Int) (L2 : List R_uii) (n3 : Nat) (n4 : Nat) (a5 : Int) (N : Nat) (v5 : Nat) (v9 : List R_ii) (v10 : Int) (v11 : List R_ii) (v12 : Int) (v13 : Int) (v14 : Int) : Option (law06_RsetRunsX ⊕ law06_RsetRunsR) :=
  ((rset_Rset_Has_4 (v13) (a0) (v9) N).bind fun r => match r with
  | .r0 y0_0 y0_1 y0_2 =>
    ((ref06_Has_2 (v10) (v11) (v13) N).bind fun r => match r with
    | .r0 y1_0 y1_1 =>
      ((rset_Rset_At_2 (a5) (a0) (v9) (y0_2) N).bind fun r => match r with
      | .r0 y2_0 y2_1 y2_2 =>
        if (0 : Int) ≤ a5 then
          if a5 < ((v11.length : Nat) : Int) then
            if ¬ (y0_0 = y1_0) then
              some (.inr (.r0 (false) : law06_RsetRunsR))
            else
            if ¬ (y0_1 = y1_1) then
              some (.inr (.r0 (false) : law06_RsetRunsR))
            else
            if ¬ ((y2_0 = (v11.getD (a5).toNat R_ii.z).a0 ∧ y2_1 = (v11.getD (a5).toNat R_ii.z).a1)) then
              some (.inr (.r0 (false) : law06_RsetRunsR))
            else
            if ¬ (y2_2 = true) then
              some (.inr (.r0 (false) : law06_RsetRunsR))
            else
            if (0 : Int) < a0 then
              if ¬ (((v9.length : Nat) : Int) = ((v11.length : Nat) : Int)) then
                some (.inr (.r0 (false) : law06_RsetRunsR))
              else
              if v9.length ≤ 100000 then
                ((ref06_Same_2 (v9) (v11) N).bind fun r => match r with
                | .r0 y12_0 =>
                  if ¬ (y12_0 = true) then
                    some (.inr (.r0 (false) : law06_RsetRunsR))
                  else
                  if (((v5 + 1) : Nat) : Int) ≤ (9223372036854775807 : Int) then
                    some (.inl (.h1m3 ((v5 + 1)) (v9) (y0_2) (v10) (v11) : law06_RsetRunsX))
                  else
                  none
                )
              else
              none
            else
            none
          else
          if ¬ (y0_0 = y1_0) then
            some (.inr (.r0 (false) : law06_RsetRunsR))
          else
          if ¬ (y0_1 = y1_1) then
            some (.inr (.r0 (false) : law06_RsetRunsR))
          else
          if ¬ ((y2_0 = (0 : Int) ∧ y2_1 = (0 : Int))) then
            some (.inr (.r0 (false) : law06_RsetRunsR))
          else
          if ¬ (y2_2 = false) then
            some (.inr (.r0 (false) : law06_RsetRunsR))
          else
          if (0 : Int) < a0 then
            if ¬ (((v9.length : Nat) : Int) = ((v11.length : Nat) : Int)) then
              some (.inr (.r0 (false) : law06_RsetRunsR))
            else
            if v9.length = 0 then
              ((ref06_Same_2 (([] : List R_ii)) (v11) N).bind fun r => match r with
              | .r0 y12_0 =>
                if ¬ (y12_0 = true) then
                  some (.inr (.r0 (false) : law06_RsetRunsR))
                else
                if (((v5 + 1) : Nat) : Int) ≤ (9223372036854775807 : Int) then
                  some (.inl (.h1m3 ((v5 + 1)) (v9) (y0_2) (v10) (v11) : law06_RsetRunsX))
                else
                none
              )
            else
            if v9.length ≤ 100000 then
              ((ref06_Same_2 (v9) (v11) N).bind fun r => match r with
              | .r0 y13_0 =>
                if ¬ (y13_0 = true) then
                  some (.inr (.r0 (false) : law06_RsetRunsR))
                else
                if (((v5 + 1) : Nat) : Int) ≤ (9223372036854775807 : Int) then
                  some (.inl (.h1m3 ((v5 + 1)) (v9) (y0_2) (v10) (v11) : law06_RsetRunsX))
                else
                none
              )
            else
            none
          else
          none
        else
        if ¬ (y0_0 = y1_0) then
          some (.inr (.r0 (false) : law06_RsetRunsR))
        else
        if ¬ (y0_1 = y1_1) then
          some (.inr (.r0 (false) : law06_RsetRunsR))
        else
        if ¬ ((y2_0 = (0 : Int) ∧ y2_1 = (0 : Int))) then
          some (.inr (.r0 (false) : law06_RsetRunsR))
        else
        if ¬ (y2_2 = false) then
          some (.inr (.r0 (false) : law06_RsetRunsR))
        else
        if (0 : Int) < a0 then
          if ¬ (((v9.length : Nat) : Int) = ((v11.length : Nat) : Int)) then
            some (.inr (.r0 (false) : law06_RsetRunsR))
          else
          if v9.length = 0 then
            ((ref06_Same_2 (([] : List R_ii)) (v11) N).bind fun r => match r with
            | .r0 y11_0 =>
              if ¬ (y11_0 = true) then
                some (.inr (.r0 (false) : law06_RsetRunsR))
              else
              if (((v5 + 1) : Nat) : Int) ≤ (9223372036854775807 : Int) then
                some (.inl (.h1m3 ((v5 + 1)) (v9) (y0_2) (v10) (v11) : law06_RsetRunsX))
              else
              none
            )
          else
          if v9.length ≤ 100000 then
            ((ref06_Same_2 (v9) (v11) N).bind fun r => match r with
            | .r0 y12_0 =>
              if ¬ (y12_0 = true) then
                some (.inr (.r0 (false) : law06_RsetRunsR))
              else
              if (((v5 + 1) : Nat) : Int) ≤ (9223372036854775807 : Int) then
                some (.inl (.h1m3 ((v5 + 1)) (v9) (y0_2) (v10) (v11) : law06_RsetRunsX))
              else
              none
            )
          else
          none
        else
        none
      )
    )
  )

def law06_RsetRunsStep (a0 : Int) (L2 : List R_uii) (n3 : Nat) (n4 : Nat) (a5 : Int) (N : Nat) : law06_RsetRunsX → Option (law06_RsetRunsX ⊕ law06_RsetRunsR)
  | .h1m0 v6 => law06_RsetRuns_h1m0 a0 L2 n3 n4 a5 N v6
  | .h1m1 v7 => law06_RsetRuns_h1m1 a0 L2 n3 n4 a5 N v7
  | .h1m2 v5 v8 => law06_RsetRuns_h1m2 a0 L2 n3 n4 a5 N v5 v8
  | .h1m3 v5 v7 v8 v9 v10 => law06_RsetRuns_h1m3 a0 L2 n3 n4 a5 N v5 v7 v8 v9 v10
  | .h2m0 v5 v6 v7 v9 v10 v11 v12 => law06_RsetRuns_h2m0 a0 L2 n3 n4 a5 N v5 v6 v7 v9 v10 v11 v12
  | .h2m1 v5 v6 v7 v9 v10 v11 v12 v13 v14 v15 => law06_RsetRuns_h2m1 a0 L2 n3 n4 a5 N v5 v6 v7 v9 v10 v11 v12 v13 v14 v15
  | .h2m2 v5 v6 v7 v10 v11 v12 v13 => law06_RsetRuns_h2m2 a0 L2 n3 n4 a5 N v5 v6 v7 v10 v11 v12 v13
  | .h2m3 v5 v9 v10 v11 v12 v13 v14 => law06_RsetRuns_h2m3 a0 L2 n3 n4 a5 N v5 v9 v10 v11 v12 v13 v14

def law06_RsetRunsIn (a0 : Int) (L2 : List R_uii) (n3 : Nat) (n4 : Nat) (a5 : Int) (N : Nat) : Option (law06_RsetRunsX ⊕ law06_RsetRunsR) :=
  ((rset_New (a0) N).bind fun r => match r with
  | .r0 =>
    ((ref06_New (a0) N).bind fun r => match r with
    | .r0 y1_0 y1_1 =>
      if ¬ ((1 : Int) = y1_1) then
        some (.inr (.r0 (false) : law06_RsetRunsR))
      else
      some (.inl (.h1m0 (y1_0) : law06_RsetRunsX))
    )
  | .r1 =>
    ((ref06_New (a0) N).bind fun r => match r with
    | .r0 y1_0 y1_1 =>
      if ¬ ((0 : Int) = y1_1) then
        some (.inr (.r0 (false) : law06_RsetRunsR))
      else
      some (.inl (.h1m1 (y1_0) : law06_RsetRunsX))
    )
  )

def law06_RsetRuns (a0 : Int) (L2 : List R_uii) (n3 : Nat) (n4 : Nat) (a5 : Int) (N : Nat) : Option law06_RsetRunsR := goM (law06_RsetRunsStep a0 L2 n3 n4 a5 N) N (law06_RsetRunsIn a0 L2 n3 n4 a5 N)

/-- gantlet/gantletlaw06.RsetRuns -/
inductive law06_RsetRuns_2R where
  | r0 (w0 : Bool)

inductive law06_RsetRuns_2X where
  | h1m0 (v2 : Int)
  | h1m1 (v3 : Int)

def law06_RsetRuns_2_h1m0 (a0 : Int) (a1 : Int) (N : Nat) (v2 : Int) : Option (law06_RsetRuns_2X ⊕ law06_RsetRuns_2R) :=
  some (.inr (.r0 (true) : law06_RsetRuns_2R))

def law06_RsetRuns_2_h1m1 (a0 : Int) (a1 : Int) (N : Nat) (v3 : Int) : Option (law06_RsetRuns_2X ⊕ law06_RsetRuns_2R) :=
  some (.inr (.r0 (true) : law06_RsetRuns_2R))

def law06_RsetRuns_2Step (a0 : Int) (a1 : Int) (N : Nat) : law06_RsetRuns_2X → Option (law06_RsetRuns_2X ⊕ law06_RsetRuns_2R)
  | .h1m0 v2 => law06_RsetRuns_2_h1m0 a0 a1 N v2
  | .h1m1 v3 => law06_RsetRuns_2_h1m1 a0 a1 N v3

def law06_RsetRuns_2In (a0 : Int) (a1 : Int) (N : Nat) : Option (law06_RsetRuns_2X ⊕ law06_RsetRuns_2R) :=
  ((rset_New (a0) N).bind fun r => match r with
  | .r0 =>
    ((ref06_New (a0) N).bind fun r => match r with
    | .r0 y1_0 y1_1 =>
      if ¬ ((1 : Int) = y1_1) then
        some (.inr (.r0 (false) : law06_RsetRuns_2R))
      else
      some (.inl (.h1m0 (y1_0) : law06_RsetRuns_2X))
    )
  | .r1 =>
    ((ref06_New (a0) N).bind fun r => match r with
    | .r0 y1_0 y1_1 =>
      if ¬ ((0 : Int) = y1_1) then
        some (.inr (.r0 (false) : law06_RsetRuns_2R))
      else
      some (.inl (.h1m1 (y1_0) : law06_RsetRuns_2X))
    )
  )

def law06_RsetRuns_2 (a0 : Int) (a1 : Int) (N : Nat) : Option law06_RsetRuns_2R := goM (law06_RsetRuns_2Step a0 a1 N) N (law06_RsetRuns_2In a0 a1 N)
end Ev
end Go.Proofs.Ytbhnaaingkbeiaa
