/- Records, and the program's functions as plain ones. -/
import Derived.Test.YtlcamddglkfblaaFm
namespace Go.Proofs.Ytlcamddglkfblaa
open Go.RowKit
namespace Ev
set_option linter.unusedVariables false
structure R_iii where
  a0 : Int
  a1 : Int
  a2 : Int
def R_iii.z : R_iii := ⟨0, 0, 0⟩
structure R_iiiiiiii where
  a0 : Int
  a1 : Int
  a2 : Int
  a3 : Int
  a4 : Int
  a5 : Int
  a6 : Int
  a7 : Int
def R_iiiiiiii.z : R_iiiiiiii := ⟨0, 0, 0, 0, 0, 0, 0, 0⟩
/-- gantlet/orec.New -/
inductive orec_NewR where
  | r0
  | r1

def orec_New (a0 : Int) (N : Nat) : Option orec_NewR :=
  if a0 < (1 : Int) then
    some (.r0 : orec_NewR)
  else
  if (1024 : Int) < a0 then
    some (.r0 : orec_NewR)
  else
  some (.r1 : orec_NewR)

/-- gantlet/gantletref03.New -/
inductive ref03_NewR where
  | r0
  | r1

def ref03_New (a0 : Int) (N : Nat) : Option ref03_NewR :=
  if a0 < (1 : Int) then
    some (.r0 : ref03_NewR)
  else
  if (1024 : Int) < a0 then
    some (.r0 : ref03_NewR)
  else
  some (.r1 : ref03_NewR)

/-- gantlet/orec.Word -/
inductive orec_WordR where
  | r0 (w0 : Int) (w1 : Int)

def orec_Word (a0 : Int) (a1 : Int) (a2 : Int) (N : Nat) : Option orec_WordR :=
  if a0 = (0 : Int) then
    if (0 : Int) ≤ a1 then
      if a1 ≤ (2199023255552 : Int) then
        if (0 : Int) ≤ a2 then
          some (.r0 ((((4 : Int) * a1) + a0)) ((0 : Int)) : orec_WordR)
        else
        some (.r0 ((0 : Int)) ((30 : Int)) : orec_WordR)
      else
      some (.r0 ((0 : Int)) ((30 : Int)) : orec_WordR)
    else
    some (.r0 ((0 : Int)) ((30 : Int)) : orec_WordR)
  else
  if a0 = (1 : Int) then
    if (0 : Int) ≤ a1 then
      if a1 ≤ (63 : Int) then
        if (0 : Int) ≤ a2 then
          some (.r0 ((((4 : Int) * a1) + a0)) ((0 : Int)) : orec_WordR)
        else
        some (.r0 ((0 : Int)) ((30 : Int)) : orec_WordR)
      else
      some (.r0 ((0 : Int)) ((30 : Int)) : orec_WordR)
    else
    some (.r0 ((0 : Int)) ((30 : Int)) : orec_WordR)
  else
  if a0 = (2 : Int) then
    if (0 : Int) ≤ a1 then
      if a1 ≤ (63 : Int) then
        if (0 : Int) ≤ a2 then
          some (.r0 ((((4 : Int) * a1) + a0)) ((0 : Int)) : orec_WordR)
        else
        some (.r0 ((0 : Int)) ((30 : Int)) : orec_WordR)
      else
      some (.r0 ((0 : Int)) ((30 : Int)) : orec_WordR)
    else
    some (.r0 ((0 : Int)) ((30 : Int)) : orec_WordR)
  else
  some (.r0 ((0 : Int)) ((30 : Int)) : orec_WordR)

/-- (*gantlet/orec.Table).Take -/
inductive orec_Table_TakeR where
  | r0 (w0 : List Int) (w1 : List Int) (w2 : Bool)

def orec_Table_Take (a0 : Int) (a1 : Int) (a2 : Int) (a3 : Int) (a4 : Int) (L5 : List Int) (L6 : List Int) (N : Nat) : Option orec_Table_TakeR :=
  ((orec_Word ((0 : Int)) (a1) ((0 : Int)) N).bind fun r => match r with
  | .r0 y0_0 y0_1 =>
    if (0 : Int) < ((L5.length : Nat) : Int) then
      if (0 : Int) ≤ a0 then
        if a0 < ((L5.length : Nat) : Int) then
          if ¬ (y0_1 = (0 : Int)) then
            some (.r0 (L5) (L6) (false) : orec_Table_TakeR)
          else
          if a2 = (0 : Int) then
            some (.r0 (L5) (L6) (false) : orec_Table_TakeR)
          else
          if a2 = (1 : Int) then
            if (0 : Int) ≤ a3 then
              if a3 ≤ (63 : Int) then
                if (0 : Int) ≤ a4 then
                  if (L5.getD (a0).toNat 0) = y0_0 then
                    if (a0).toNat < L6.length then
                      some (.r0 ((L5.set (a0).toNat (((4 : Int) * a3) + a2))) ((L6.set (a0).toNat (IntKind.i64.wrap ((L6.getD (a0).toNat 0) + (1 : Int))))) (true) : orec_Table_TakeR)
                    else
                    none
                  else
                  some (.r0 (L5) (L6) (false) : orec_Table_TakeR)
                else
                some (.r0 (L5) (L6) (false) : orec_Table_TakeR)
              else
              some (.r0 (L5) (L6) (false) : orec_Table_TakeR)
            else
            some (.r0 (L5) (L6) (false) : orec_Table_TakeR)
          else
          if a2 = (2 : Int) then
            if (0 : Int) ≤ a3 then
              if a3 ≤ (63 : Int) then
                if (0 : Int) ≤ a4 then
                  if (L5.getD (a0).toNat 0) = y0_0 then
                    if (a0).toNat < L6.length then
                      some (.r0 ((L5.set (a0).toNat (((4 : Int) * a3) + a2))) ((L6.set (a0).toNat (IntKind.i64.wrap ((L6.getD (a0).toNat 0) + (1 : Int))))) (true) : orec_Table_TakeR)
                    else
                    none
                  else
                  some (.r0 (L5) (L6) (false) : orec_Table_TakeR)
                else
                some (.r0 (L5) (L6) (false) : orec_Table_TakeR)
              else
              some (.r0 (L5) (L6) (false) : orec_Table_TakeR)
            else
            some (.r0 (L5) (L6) (false) : orec_Table_TakeR)
          else
          some (.r0 (L5) (L6) (false) : orec_Table_TakeR)
        else
        some (.r0 (L5) (L6) (false) : orec_Table_TakeR)
      else
      some (.r0 (L5) (L6) (false) : orec_Table_TakeR)
    else
    some (.r0 (L5) (L6) (false) : orec_Table_TakeR)
  )

/-- gantlet/gantletref03.Take -/
inductive ref03_TakeR where
  | r0
  | r1

def ref03_Take (L0 : List R_iii) (a1 : Int) (a2 : Int) (a3 : Int) (a4 : Int) (a5 : Int) (N : Nat) : Option ref03_TakeR :=
  if (0 : Int) ≤ a1 then
    if a1 < ((L0.length : Nat) : Int) then
      if ¬ ((L0.getD (a1).toNat R_iii.z).a0 = (0 : Int)) then
        some (.r0 : ref03_TakeR)
      else
      if ¬ ((L0.getD (a1).toNat R_iii.z).a1 = a2) then
        some (.r0 : ref03_TakeR)
      else
      if ¬ (a3 = (1 : Int)) then
        if ¬ (a3 = (2 : Int)) then
          some (.r0 : ref03_TakeR)
        else
        if (0 : Int) ≤ a4 then
          if a4 < (64 : Int) then
            if (0 : Int) ≤ a5 then
              if L0.length ≤ 100000 then
                some (.r1 : ref03_TakeR)
              else
              none
            else
            some (.r0 : ref03_TakeR)
          else
          some (.r0 : ref03_TakeR)
        else
        some (.r0 : ref03_TakeR)
      else
      if (0 : Int) ≤ a4 then
        if a4 < (64 : Int) then
          if (0 : Int) ≤ a5 then
            if L0.length ≤ 100000 then
              some (.r1 : ref03_TakeR)
            else
            none
          else
          some (.r0 : ref03_TakeR)
        else
        some (.r0 : ref03_TakeR)
      else
      some (.r0 : ref03_TakeR)
    else
    some (.r0 : ref03_TakeR)
  else
  some (.r0 : ref03_TakeR)

/-- gantlet/orec.Read -/
inductive orec_ReadR where
  | r0 (w0 : Int) (w1 : Int) (w3 : Int)

def orec_Read (a0 : Int) (N : Nat) : Option orec_ReadR :=
  if a0 < (0 : Int) then
    some (.r0 ((0 : Int)) ((0 : Int)) ((30 : Int)) : orec_ReadR)
  else
  if (a0 / (4 : Int)) ≤ (9223372036854775807 : Int) then
    if (a0 % (4 : Int)) = (0 : Int) then
      if (a0 / (4 : Int)) ≤ (2199023255552 : Int) then
        some (.r0 ((a0 % (4 : Int))) ((a0 / (4 : Int))) ((0 : Int)) : orec_ReadR)
      else
      some (.r0 ((0 : Int)) ((0 : Int)) ((30 : Int)) : orec_ReadR)
    else
    if (a0 % (4 : Int)) = (1 : Int) then
      if (a0 / (4 : Int)) ≤ (63 : Int) then
        some (.r0 ((a0 % (4 : Int))) ((a0 / (4 : Int))) ((0 : Int)) : orec_ReadR)
      else
      some (.r0 ((0 : Int)) ((0 : Int)) ((30 : Int)) : orec_ReadR)
    else
    if (a0 % (4 : Int)) = (2 : Int) then
      if (a0 / (4 : Int)) ≤ (63 : Int) then
        some (.r0 ((a0 % (4 : Int))) ((a0 / (4 : Int))) ((0 : Int)) : orec_ReadR)
      else
      some (.r0 ((0 : Int)) ((0 : Int)) ((30 : Int)) : orec_ReadR)
    else
    some (.r0 ((0 : Int)) ((0 : Int)) ((30 : Int)) : orec_ReadR)
  else
  none

/-- (*gantlet/orec.Table).At -/
inductive orec_Table_AtR where
  | r0 (w2 : Int) (w3 : Int) (w4 : Int)

def orec_Table_At (a0 : Int) (L1 : List Int) (L2 : List Int) (N : Nat) : Option orec_Table_AtR :=
  if (0 : Int) < ((L1.length : Nat) : Int) then
    if (0 : Int) ≤ a0 then
      if a0 < ((L1.length : Nat) : Int) then
        ((orec_Read ((L1.getD (a0).toNat 0)) N).bind fun r => match r with
        | .r0 y3_0 y3_1 y3_2 =>
          if (a0).toNat < L2.length then
            some (.r0 (y3_0) (y3_1) ((L2.getD (a0).toNat 0)) : orec_Table_AtR)
          else
          none
        )
      else
      some (.r0 ((0 : Int)) ((0 : Int)) ((0 : Int)) : orec_Table_AtR)
    else
    some (.r0 ((0 : Int)) ((0 : Int)) ((0 : Int)) : orec_Table_AtR)
  else
  some (.r0 ((0 : Int)) ((0 : Int)) ((0 : Int)) : orec_Table_AtR)

/-- (*gantlet/orec.Table).All -/
inductive orec_Table_AllR where
  | r0
  | r1 (w2 : List R_iii)

inductive orec_Table_AllX where
  | h1m0 (v2 : Nat)
  | h1m1 (v2 : List R_iii) (v3 : Nat) (v4 : Nat)

def orec_Table_All_h1m0 (L0 : List Int) (L1 : List Int) (N : Nat) (v2 : Nat) : Option (orec_Table_AllX ⊕ orec_Table_AllR) :=
  if (0 : Int) < ((v2 : Nat) : Int) then
    ((orec_Table_At ((0 : Int)) (L0) (L1) N).bind fun r => match r with
    | .r0 y1_0 y1_1 y1_2 =>
      some (.inl (.h1m1 (([(⟨y1_0, y1_1, y1_2⟩ : R_iii)] : List R_iii)) (v2) (1) : orec_Table_AllX))
    )
  else
  some (.inr (.r0 : orec_Table_AllR))

def orec_Table_All_h1m1 (L0 : List Int) (L1 : List Int) (N : Nat) (v2 : List R_iii) (v3 : Nat) (v4 : Nat) : Option (orec_Table_AllX ⊕ orec_Table_AllR) :=
  if ((v4 : Nat) : Int) < ((v3 : Nat) : Int) then
    ((orec_Table_At (((v4 : Nat) : Int)) (L0) (L1) N).bind fun r => match r with
    | .r0 y1_0 y1_1 y1_2 =>
      if v2.length ≤ 100000 then
        if (((v4 + 1) : Nat) : Int) ≤ (9223372036854775807 : Int) then
          some (.inl (.h1m1 ((v2 ++ ([(⟨y1_0, y1_1, y1_2⟩ : R_iii)] : List R_iii))) (v3) ((v4 + 1)) : orec_Table_AllX))
        else
        none
      else
      none
    )
  else
  some (.inr (.r1 (v2) : orec_Table_AllR))

def orec_Table_AllStep (L0 : List Int) (L1 : List Int) (N : Nat) : orec_Table_AllX → Option (orec_Table_AllX ⊕ orec_Table_AllR)
  | .h1m0 v2 => orec_Table_All_h1m0 L0 L1 N v2
  | .h1m1 v2 v3 v4 => orec_Table_All_h1m1 L0 L1 N v2 v3 v4

def orec_Table_AllIn (L0 : List Int) (L1 : List Int) (N : Nat) : Option (orec_Table_AllX ⊕ orec_Table_AllR) :=
  if (0 : Int) < ((L0.length : Nat) : Int) then
    some (.inl (.h1m0 (L0.length) : orec_Table_AllX))
  else
  some (.inl (.h1m0 (0) : orec_Table_AllX))

def orec_Table_All (L0 : List Int) (L1 : List Int) (N : Nat) : Option orec_Table_AllR := goM (orec_Table_AllStep L0 L1 N) N (orec_Table_AllIn L0 L1 N)

/-- (*gantlet/orec.Table).Let -/
inductive orec_Table_LetR where
  | r0 (w0 : List Int) (w2 : Int)

def orec_Table_Let (a0 : Int) (a1 : Int) (L2 : List Int) (L3 : List Int) (N : Nat) : Option orec_Table_LetR :=
  if (0 : Int) < ((L2.length : Nat) : Int) then
    if (0 : Int) ≤ a0 then
      if a0 < ((L2.length : Nat) : Int) then
        ((orec_Word ((0 : Int)) (a1) ((0 : Int)) N).bind fun r => match r with
        | .r0 y3_0 y3_1 =>
          if ¬ (y3_1 = (0 : Int)) then
            some (.r0 (L2) ((30 : Int)) : orec_Table_LetR)
          else
          ((orec_Table_At (a0) (L2) (L3) N).bind fun r => match r with
          | .r0 y5_0 y5_1 y5_2 =>
            if y5_0 = (0 : Int) then
              some (.r0 (L2) ((30 : Int)) : orec_Table_LetR)
            else
            some (.r0 ((L2.set (a0).toNat y3_0)) ((0 : Int)) : orec_Table_LetR)
          )
        )
      else
      some (.r0 (L2) ((5 : Int)) : orec_Table_LetR)
    else
    some (.r0 (L2) ((5 : Int)) : orec_Table_LetR)
  else
  some (.r0 (L2) ((4 : Int)) : orec_Table_LetR)

/-- gantlet/gantletref03.Let -/
inductive ref03_LetR where
  | r0 (w1 : Int)
  | r1

def ref03_Let (L0 : List R_iii) (a1 : Int) (a2 : Int) (N : Nat) : Option ref03_LetR :=
  if (0 : Int) ≤ a1 then
    if a1 < ((L0.length : Nat) : Int) then
      if (L0.getD (a1).toNat R_iii.z).a0 = (0 : Int) then
        some (.r0 ((30 : Int)) : ref03_LetR)
      else
      if (0 : Int) ≤ a2 then
        if a2 ≤ (2199023255552 : Int) then
          if (0 : Int) ≤ (L0.getD (a1).toNat R_iii.z).a2 then
            if L0.length ≤ 100000 then
              some (.r1 : ref03_LetR)
            else
            none
          else
          some (.r0 ((30 : Int)) : ref03_LetR)
        else
        some (.r0 ((30 : Int)) : ref03_LetR)
      else
      some (.r0 ((30 : Int)) : ref03_LetR)
    else
    some (.r0 ((5 : Int)) : ref03_LetR)
  else
  some (.r0 ((5 : Int)) : ref03_LetR)

/-- gantlet/gantletref03.At -/
inductive ref03_AtR where
  | r0 (w1 : Int) (w2 : Int) (w3 : Int)

def ref03_At (L0 : List R_iii) (a1 : Int) (N : Nat) : Option ref03_AtR :=
  if (0 : Int) ≤ a1 then
    if a1 < ((L0.length : Nat) : Int) then
      some (.r0 ((L0.getD (a1).toNat R_iii.z).a0) ((L0.getD (a1).toNat R_iii.z).a1) ((L0.getD (a1).toNat R_iii.z).a2) : ref03_AtR)
    else
    some (.r0 ((0 : Int)) ((0 : Int)) ((0 : Int)) : ref03_AtR)
  else
  some (.r0 ((0 : Int)) ((0 : Int)) ((0 : Int)) : ref03_AtR)

/-- (*gantlet/orec.Table).Of -/
inductive orec_Table_OfR where
  | r0
  | r1 (w2 : List Int)

inductive orec_Table_OfX where
  | h1m0 (v3 : Nat) (v4 : Nat)
  | h1m1 (v3 : List Int) (v4 : Nat) (v5 : Nat)

def orec_Table_Of_h1m0 (a0 : Int) (L1 : List Int) (L2 : List Int) (N : Nat) (v3 : Nat) (v4 : Nat) : Option (orec_Table_OfX ⊕ orec_Table_OfR) :=
  if ((v4 : Nat) : Int) < ((v3 : Nat) : Int) then
    ((orec_Table_At (((v4 : Nat) : Int)) (L1) (L2) N).bind fun r => match r with
    | .r0 y1_0 y1_1 y1_2 =>
      if ¬ (y1_0 = (0 : Int)) then
        if y1_1 = a0 then
          if (((v4 + 1) : Nat) : Int) ≤ (9223372036854775807 : Int) then
            some (.inl (.h1m1 (([((v4 : Nat) : Int)] : List Int)) (v3) ((v4 + 1)) : orec_Table_OfX))
          else
          none
        else
        if (((v4 + 1) : Nat) : Int) ≤ (9223372036854775807 : Int) then
          some (.inl (.h1m0 (v3) ((v4 + 1)) : orec_Table_OfX))
        else
        none
      else
      if (((v4 + 1) : Nat) : Int) ≤ (9223372036854775807 : Int) then
        some (.inl (.h1m0 (v3) ((v4 + 1)) : orec_Table_OfX))
      else
      none
    )
  else
  some (.inr (.r0 : orec_Table_OfR))

def orec_Table_Of_h1m1 (a0 : Int) (L1 : List Int) (L2 : List Int) (N : Nat) (v3 : List Int) (v4 : Nat) (v5 : Nat) : Option (orec_Table_OfX ⊕ orec_Table_OfR) :=
  if ((v5 : Nat) : Int) < ((v4 : Nat) : Int) then
    ((orec_Table_At (((v5 : Nat) : Int)) (L1) (L2) N).bind fun r => match r with
    | .r0 y1_0 y1_1 y1_2 =>
      if ¬ (y1_0 = (0 : Int)) then
        if y1_1 = a0 then
          if v3.length ≤ 100000 then
            if (((v5 + 1) : Nat) : Int) ≤ (9223372036854775807 : Int) then
              some (.inl (.h1m1 ((v3 ++ ([((v5 : Nat) : Int)] : List Int))) (v4) ((v5 + 1)) : orec_Table_OfX))
            else
            none
          else
          none
        else
        if (((v5 + 1) : Nat) : Int) ≤ (9223372036854775807 : Int) then
          some (.inl (.h1m1 (v3) (v4) ((v5 + 1)) : orec_Table_OfX))
        else
        none
      else
      if (((v5 + 1) : Nat) : Int) ≤ (9223372036854775807 : Int) then
        some (.inl (.h1m1 (v3) (v4) ((v5 + 1)) : orec_Table_OfX))
      else
      none
    )
  else
  some (.inr (.r1 (v3) : orec_Table_OfR))

def orec_Table_OfStep (a0 : Int) (L1 : List Int) (L2 : List Int) (N : Nat) : orec_Table_OfX → Option (orec_Table_OfX ⊕ orec_Table_OfR)
  | .h1m0 v3 v4 => orec_Table_Of_h1m0 a0 L1 L2 N v3 v4
  | .h1m1 v3 v4 v5 => orec_Table_Of_h1m1 a0 L1 L2 N v3 v4 v5

def orec_Table_OfIn (a0 : Int) (L1 : List Int) (L2 : List Int) (N : Nat) : Option (orec_Table_OfX ⊕ orec_Table_OfR) :=
  if (0 : Int) < ((L1.length : Nat) : Int) then
    some (.inl (.h1m0 (L1.length) (0) : orec_Table_OfX))
  else
  some (.inl (.h1m0 (0) (0) : orec_Table_OfX))

def orec_Table_Of (a0 : Int) (L1 : List Int) (L2 : List Int) (N : Nat) : Option orec_Table_OfR := goM (orec_Table_OfStep a0 L1 L2 N) N (orec_Table_OfIn a0 L1 L2 N)

/-- gantlet/gantletref03.Of -/
inductive ref03_OfR where
  | r0
  | r1 (w1 : List Int)

inductive ref03_OfX where
  | h1m0 (v2 : Nat)
  | h1m1 (v2 : List Int) (v3 : Nat)

def ref03_Of_h1m0 (L0 : List R_iii) (a1 : Int) (N : Nat) (v2 : Nat) : Option (ref03_OfX ⊕ ref03_OfR) :=
  if ((v2 : Nat) : Int) < ((L0.length : Nat) : Int) then
    if ¬ ((L0.getD v2 R_iii.z).a0 = (0 : Int)) then
      if (L0.getD v2 R_iii.z).a1 = a1 then
        if (((v2 + 1) : Nat) : Int) ≤ (9223372036854775807 : Int) then
          some (.inl (.h1m1 (([((v2 : Nat) : Int)] : List Int)) ((v2 + 1)) : ref03_OfX))
        else
        none
      else
      if (((v2 + 1) : Nat) : Int) ≤ (9223372036854775807 : Int) then
        some (.inl (.h1m0 ((v2 + 1)) : ref03_OfX))
      else
      none
    else
    if (((v2 + 1) : Nat) : Int) ≤ (9223372036854775807 : Int) then
      some (.inl (.h1m0 ((v2 + 1)) : ref03_OfX))
    else
    none
  else
  some (.inr (.r0 : ref03_OfR))

def ref03_Of_h1m1 (L0 : List R_iii) (a1 : Int) (N : Nat) (v2 : List Int) (v3 : Nat) : Option (ref03_OfX ⊕ ref03_OfR) :=
  if ((v3 : Nat) : Int) < ((L0.length : Nat) : Int) then
    if ¬ ((L0.getD v3 R_iii.z).a0 = (0 : Int)) then
      if (L0.getD v3 R_iii.z).a1 = a1 then
        if v2.length ≤ 100000 then
          if (((v3 + 1) : Nat) : Int) ≤ (9223372036854775807 : Int) then
            some (.inl (.h1m1 ((v2 ++ ([((v3 : Nat) : Int)] : List Int))) ((v3 + 1)) : ref03_OfX))
          else
          none
        else
        none
      else
      if (((v3 + 1) : Nat) : Int) ≤ (9223372036854775807 : Int) then
        some (.inl (.h1m1 (v2) ((v3 + 1)) : ref03_OfX))
      else
      none
    else
    if (((v3 + 1) : Nat) : Int) ≤ (9223372036854775807 : Int) then
      some (.inl (.h1m1 (v2) ((v3 + 1)) : ref03_OfX))
    else
    none
  else
  some (.inr (.r1 (v2) : ref03_OfR))

def ref03_OfStep (L0 : List R_iii) (a1 : Int) (N : Nat) : ref03_OfX → Option (ref03_OfX ⊕ ref03_OfR)
  | .h1m0 v2 => ref03_Of_h1m0 L0 a1 N v2
  | .h1m1 v2 v3 => ref03_Of_h1m1 L0 a1 N v2 v3

def ref03_OfIn (L0 : List R_iii) (a1 : Int) (N : Nat) : Option (ref03_OfX ⊕ ref03_OfR) :=
  some (.inl (.h1m0 (0) : ref03_OfX))

def ref03_Of (L0 : List R_iii) (a1 : Int) (N : Nat) : Option ref03_OfR := goM (ref03_OfStep L0 a1 N) N (ref03_OfIn L0 a1 N)

/-- gantlet/gantletref03.SameInts -/
inductive ref03_SameIntsR where
  | r0

inductive ref03_SameIntsX where
  | h1m0

def ref03_SameInts_h1m0  (N : Nat) : Option (ref03_SameIntsX ⊕ ref03_SameIntsR) :=
  some (.inr (.r0 : ref03_SameIntsR))

def ref03_SameIntsStep  (N : Nat) : ref03_SameIntsX → Option (ref03_SameIntsX ⊕ ref03_SameIntsR)
  | .h1m0 => ref03_SameInts_h1m0  N

def ref03_SameIntsIn  (N : Nat) : Option (ref03_SameIntsX ⊕ ref03_SameIntsR) :=
  some (.inl (.h1m0 : ref03_SameIntsX))

def ref03_SameInts  (N : Nat) : Option ref03_SameIntsR := goM (ref03_SameIntsStep  N) N (ref03_SameIntsIn  N)

/-- gantlet/gantletref03.SameInts -/
inductive ref03_SameInts_2R where
  | r0 (w1 : Bool)

inductive ref03_SameInts_2X where
  | h1m0

def ref03_SameInts_2_h1m0 (L0 : List Int) (N : Nat) : Option (ref03_SameInts_2X ⊕ ref03_SameInts_2R) :=
  some (.inr (.r0 (true) : ref03_SameInts_2R))

def ref03_SameInts_2Step (L0 : List Int) (N : Nat) : ref03_SameInts_2X → Option (ref03_SameInts_2X ⊕ ref03_SameInts_2R)
  | .h1m0 => ref03_SameInts_2_h1m0 L0 N

def ref03_SameInts_2In (L0 : List Int) (N : Nat) : Option (ref03_SameInts_2X ⊕ ref03_SameInts_2R) :=
  if ¬ ((0 : Int) = ((L0.length : Nat) : Int)) then
    some (.inr (.r0 (false) : ref03_SameInts_2R))
  else
  some (.inl (.h1m0 : ref03_SameInts_2X))

def ref03_SameInts_2 (L0 : List Int) (N : Nat) : Option ref03_SameInts_2R := goM (ref03_SameInts_2Step L0 N) N (ref03_SameInts_2In L0 N)

/-- gantlet/gantletref03.SameInts -/
inductive ref03_SameInts_3R where
  | r0 (w1 : Bool)

inductive ref03_SameInts_3X where
  | h1m0

def ref03_SameInts_3_h1m0 (L0 : List Int) (N : Nat) : Option (ref03_SameInts_3X ⊕ ref03_SameInts_3R) :=
  if (0 : Int) < ((L0.length : Nat) : Int) then
    none
  else
  some (.inr (.r0 (true) : ref03_SameInts_3R))

def ref03_SameInts_3Step (L0 : List Int) (N : Nat) : ref03_SameInts_3X → Option (ref03_SameInts_3X ⊕ ref03_SameInts_3R)
  | .h1m0 => ref03_SameInts_3_h1m0 L0 N

def ref03_SameInts_3In (L0 : List Int) (N : Nat) : Option (ref03_SameInts_3X ⊕ ref03_SameInts_3R) :=
  if ¬ (((L0.length : Nat) : Int) = (0 : Int)) then
    some (.inr (.r0 (false) : ref03_SameInts_3R))
  else
  some (.inl (.h1m0 : ref03_SameInts_3X))

def ref03_SameInts_3 (L0 : List Int) (N : Nat) : Option ref03_SameInts_3R := goM (ref03_SameInts_3Step L0 N) N (ref03_SameInts_3In L0 N)

/-- gantlet/gantletref03.SameInts -/
inductive ref03_SameInts_4R where
  | r0 (w2 : Bool)

inductive ref03_SameInts_4X where
  | h1m0 (v2 : Nat)

def ref03_SameInts_4_h1m0 (L0 : List Int) (L1 : List Int) (N : Nat) (v2 : Nat) : Option (ref03_SameInts_4X ⊕ ref03_SameInts_4R) :=
  if ((v2 : Nat) : Int) < ((L0.length : Nat) : Int) then
    if v2 < L1.length then
      if ¬ ((L0.getD v2 0) = (L1.getD v2 0)) then
        some (.inr (.r0 (false) : ref03_SameInts_4R))
      else
      if (((v2 + 1) : Nat) : Int) ≤ (9223372036854775807 : Int) then
        some (.inl (.h1m0 ((v2 + 1)) : ref03_SameInts_4X))
      else
      none
    else
    none
  else
  some (.inr (.r0 (true) : ref03_SameInts_4R))

def ref03_SameInts_4Step (L0 : List Int) (L1 : List Int) (N : Nat) : ref03_SameInts_4X → Option (ref03_SameInts_4X ⊕ ref03_SameInts_4R)
  | .h1m0 v2 => ref03_SameInts_4_h1m0 L0 L1 N v2

def ref03_SameInts_4In (L0 : List Int) (L1 : List Int) (N : Nat) : Option (ref03_SameInts_4X ⊕ ref03_SameInts_4R) :=
  if ¬ (((L0.length : Nat) : Int) = ((L1.length : Nat) : Int)) then
    some (.inr (.r0 (false) : ref03_SameInts_4R))
  else
  some (.inl (.h1m0 (0) : ref03_SameInts_4X))

def ref03_SameInts_4 (L0 : List Int) (L1 : List Int) (N : Nat) : Option ref03_SameInts_4R := goM (ref03_SameInts_4Step L0 L1 N) N (ref03_SameInts_4In L0 L1 N)

/-- gantlet/value.fits -/
inductive value_fitsR where
  | r0 (w0 : Bool)

def value_fits (a0 : Int) (a1 : Int) (N : Nat) : Option value_fitsR :=
  if (1 : Int) ≤ a0 then
    if a0 ≤ (1073741824 : Int) then
      if (1 : Int) ≤ a1 then
        if a1 ≤ (1048575 : Int) then
          some (.r0 (true) : value_fitsR)
        else
        some (.r0 (false) : value_fitsR)
      else
      some (.r0 (false) : value_fitsR)
    else
    some (.r0 (false) : value_fitsR)
  else
  some (.r0 (false) : value_fitsR)

/-- gantlet/value.Addr -/
inductive value_AddrR where
  | r0 (w0 : Int)

def value_Addr (a0 : Int) (a1 : Int) (N : Nat) : Option value_AddrR :=
  if ¬ (a0 = (2 : Int)) then
    some (.r0 ((0 : Int)) : value_AddrR)
  else
  if (0 : Int) < a1 then
    if (a1 / (1048576 : Int)) ≤ (9223372036854775807 : Int) then
      ((value_fits ((a1 / (1048576 : Int))) ((a1 % (1048576 : Int))) N).bind fun r => match r with
      | .r0 y3_0 =>
        if ¬ (y3_0 = true) then
          some (.r0 ((0 : Int)) : value_AddrR)
        else
        some (.r0 ((a1 % (1048576 : Int))) : value_AddrR)
      )
    else
    none
  else
  some (.r0 ((0 : Int)) : value_AddrR)

/-- (*gantlet/orec.Table).Index -/
inductive orec_Table_IndexR where
  | r0 (w2 : Int)

def orec_Table_Index (a0 : Int) (a1 : Int) (L2 : List Int) (L3 : List Int) (N : Nat) : Option orec_Table_IndexR :=
  if (0 : Int) < ((L2.length : Nat) : Int) then
    ((value_Addr (a0) (a1) N).bind fun r => match r with
    | .r0 y1_0 =>
      some (.r0 ((Int.tmod y1_0 ((L2.length : Nat) : Int))) : orec_Table_IndexR)
    )
  else
  some (.r0 ((0 : Int)) : orec_Table_IndexR)

/-- gantlet/gantletref01.Is -/
inductive ref01_IsR where
  | r0 (w0 : Bool)

def ref01_Is (a0 : Int) (a1 : Int) (N : Nat) : Option ref01_IsR :=
  if a0 = (1 : Int) then
    some (.r0 (true) : ref01_IsR)
  else
  if a0 = (2 : Int) then
    if a1 = (0 : Int) then
      some (.r0 (true) : ref01_IsR)
    else
    if (1048576 : Int) ≤ a1 then
      if (a1 / (1048576 : Int)) ≤ (9223372036854775807 : Int) then
        if (a1 / (1048576 : Int)) ≤ (1073741824 : Int) then
          if (1 : Int) ≤ (a1 % (1048576 : Int)) then
            some (.r0 (true) : ref01_IsR)
          else
          some (.r0 (false) : ref01_IsR)
        else
        some (.r0 (false) : ref01_IsR)
      else
      none
    else
    some (.r0 (false) : ref01_IsR)
  else
  some (.r0 (false) : ref01_IsR)

/-- gantlet/gantletref03.Index -/
inductive ref03_IndexR where
  | r0 (w1 : Int)

def ref03_Index (L0 : List R_iii) (a1 : Int) (a2 : Int) (N : Nat) : Option ref03_IndexR :=
  if ((L0.length : Nat) : Int) = (0 : Int) then
    some (.r0 ((0 : Int)) : ref03_IndexR)
  else
  if a1 = (2 : Int) then
    ((ref01_Is (a1) (a2) N).bind fun r => match r with
    | .r0 y2_0 =>
      if ¬ (y2_0 = true) then
        some (.r0 ((Int.tmod (0 : Int) ((L0.length : Nat) : Int))) : ref03_IndexR)
      else
      some (.r0 ((Int.tmod (Int.tmod a2 (1048576 : Int)) ((L0.length : Nat) : Int))) : ref03_IndexR)
    )
  else
  some (.r0 ((Int.tmod (0 : Int) ((L0.length : Nat) : Int))) : ref03_IndexR)

/-- (*gantlet/orec.Table).Fork -/
inductive orec_Table_ForkR where
  | r0
  | r1 (w2 : List Int) (w3 : List Int)

inductive orec_Table_ForkX where
  | h1m0 (v3 : Nat) (v4 : List Int) (v5 : List Int)

def orec_Table_Fork_h1m0 (L0 : List Int) (L1 : List Int) (N : Nat) (v3 : Nat) (v4 : List Int) (v5 : List Int) : Option (orec_Table_ForkX ⊕ orec_Table_ForkR) :=
  if ((v3 : Nat) : Int) < ((L0.length : Nat) : Int) then
    if v3 < v4.length then
      if v3 < v5.length then
        if v3 < L1.length then
          if (((v3 + 1) : Nat) : Int) ≤ (9223372036854775807 : Int) then
            some (.inl (.h1m0 ((v3 + 1)) ((v4.set v3 (L0.getD v3 0))) ((v5.set v3 (L1.getD v3 0))) : orec_Table_ForkX))
          else
          none
        else
        none
      else
      none
    else
    none
  else
  some (.inr (.r1 (v4) (v5) : orec_Table_ForkR))

def orec_Table_ForkStep (L0 : List Int) (L1 : List Int) (N : Nat) : orec_Table_ForkX → Option (orec_Table_ForkX ⊕ orec_Table_ForkR)
  | .h1m0 v3 v4 v5 => orec_Table_Fork_h1m0 L0 L1 N v3 v4 v5

def orec_Table_ForkIn (L0 : List Int) (L1 : List Int) (N : Nat) : Option (orec_Table_ForkX ⊕ orec_Table_ForkR) :=
  if (0 : Int) < ((L0.length : Nat) : Int) then
    ((orec_New (((L0.length : Nat) : Int)) N).bind fun r => match r with
    | .r0 =>
      some (.inr (.r0 : orec_Table_ForkR))
    | .r1 =>
      some (.inl (.h1m0 (0) ((List.replicate (((L0.length : Nat) : Int)).toNat (0 : Int))) ((List.replicate (((L0.length : Nat) : Int)).toNat (0 : Int))) : orec_Table_ForkX))
    )
  else
  ((orec_New ((0 : Int)) N).bind fun r => match r with
  | .r0 =>
    some (.inr (.r0 : orec_Table_ForkR))
  | .r1 =>
    some (.inl (.h1m0 (0) ((List.replicate ((0 : Int)).toNat (0 : Int))) ((List.replicate ((0 : Int)).toNat (0 : Int))) : orec_Table_ForkX))
  )

def orec_Table_Fork (L0 : List Int) (L1 : List Int) (N : Nat) : Option orec_Table_ForkR := goM (orec_Table_ForkStep L0 L1 N) N (orec_Table_ForkIn L0 L1 N)

/-- gantlet/gantletref03.SameAll -/
inductive ref03_SameAllR where
  | r0 (w1 : Bool)

inductive ref03_SameAllX where
  | h1m0

def ref03_SameAll_h1m0 (L0 : List R_iii) (N : Nat) : Option (ref03_SameAllX ⊕ ref03_SameAllR) :=
  some (.inr (.r0 (true) : ref03_SameAllR))

def ref03_SameAllStep (L0 : List R_iii) (N : Nat) : ref03_SameAllX → Option (ref03_SameAllX ⊕ ref03_SameAllR)
  | .h1m0 => ref03_SameAll_h1m0 L0 N

def ref03_SameAllIn (L0 : List R_iii) (N : Nat) : Option (ref03_SameAllX ⊕ ref03_SameAllR) :=
  if ¬ ((0 : Int) = ((L0.length : Nat) : Int)) then
    some (.inr (.r0 (false) : ref03_SameAllR))
  else
  some (.inl (.h1m0 : ref03_SameAllX))

def ref03_SameAll (L0 : List R_iii) (N : Nat) : Option ref03_SameAllR := goM (ref03_SameAllStep L0 N) N (ref03_SameAllIn L0 N)

/-- gantlet/gantletref03.SameAll -/
inductive ref03_SameAll_2R where
  | r0 (w2 : Bool)

inductive ref03_SameAll_2X where
  | h1m0 (v2 : Nat)

def ref03_SameAll_2_h1m0 (L0 : List R_iii) (L1 : List R_iii) (N : Nat) (v2 : Nat) : Option (ref03_SameAll_2X ⊕ ref03_SameAll_2R) :=
  if ((v2 : Nat) : Int) < ((L0.length : Nat) : Int) then
    if v2 < L1.length then
      if ¬ (((L0.getD v2 R_iii.z).a0 = (L1.getD v2 R_iii.z).a0 ∧ (L0.getD v2 R_iii.z).a1 = (L1.getD v2 R_iii.z).a1 ∧ (L0.getD v2 R_iii.z).a2 = (L1.getD v2 R_iii.z).a2)) then
        some (.inr (.r0 (false) : ref03_SameAll_2R))
      else
      if (((v2 + 1) : Nat) : Int) ≤ (9223372036854775807 : Int) then
        some (.inl (.h1m0 ((v2 + 1)) : ref03_SameAll_2X))
      else
      none
    else
    none
  else
  some (.inr (.r0 (true) : ref03_SameAll_2R))

def ref03_SameAll_2Step (L0 : List R_iii) (L1 : List R_iii) (N : Nat) : ref03_SameAll_2X → Option (ref03_SameAll_2X ⊕ ref03_SameAll_2R)
  | .h1m0 v2 => ref03_SameAll_2_h1m0 L0 L1 N v2

def ref03_SameAll_2In (L0 : List R_iii) (L1 : List R_iii) (N : Nat) : Option (ref03_SameAll_2X ⊕ ref03_SameAll_2R) :=
  if ¬ (((L0.length : Nat) : Int) = ((L1.length : Nat) : Int)) then
    some (.inr (.r0 (false) : ref03_SameAll_2R))
  else
  some (.inl (.h1m0 (0) : ref03_SameAll_2X))

def ref03_SameAll_2 (L0 : List R_iii) (L1 : List R_iii) (N : Nat) : Option ref03_SameAll_2R := goM (ref03_SameAll_2Step L0 L1 N) N (ref03_SameAll_2In L0 L1 N)

/-- gantlet/gantletlaw03.OrecRuns -/
inductive law03_OrecRunsR where
  | r0 (w2 : Bool)

inductive law03_OrecRunsX where
  | h1m0
  | h1m1 (v3 : Nat) (v4 : List Int) (v5 : List Int) (v6 : List R_iii)
  | h2m0 (v3 : Nat) (v4 : List Int) (v5 : List Int) (v6 : List R_iii)
  | h2m1 (v3 : Nat) (v4 : List R_iii) (v5 : List Int) (v6 : List Int) (v7 : List R_iii)
  | h3m0 (v3 : Nat) (v5 : List Int) (v6 : List Int) (v7 : List R_iii)
  | h3m1 (v3 : Nat) (v4 : List R_iii) (v5 : Nat) (v6 : List Int) (v7 : List Int) (v8 : List R_iii)

def law03_OrecRuns_h1m0 (a0 : Int) (L2 : List R_iiiiiiii) (n3 : Nat) (N : Nat) : Option (law03_OrecRunsX ⊕ law03_OrecRunsR) :=
  some (.inr (.r0 (true) : law03_OrecRunsR))

def law03_OrecRuns_h1m1 (a0 : Int) (L2 : List R_iiiiiiii) (n3 : Nat) (N : Nat) (v3 : Nat) (v4 : List Int) (v5 : List Int) (v6 : List R_iii) : Option (law03_OrecRunsX ⊕ law03_OrecRunsR) :=
  if ((v3 : Nat) : Int) < ((L2.length : Nat) : Int) then
    if ((v3 : Nat) : Int) < (60 : Int) then
      if (L2.getD v3 R_iiiiiiii.z).a0 = (1 : Int) then
        ((orec_Table_Take ((L2.getD v3 R_iiiiiiii.z).a1) ((L2.getD v3 R_iiiiiiii.z).a2) ((L2.getD v3 R_iiiiiiii.z).a3) ((L2.getD v3 R_iiiiiiii.z).a4) ((L2.getD v3 R_iiiiiiii.z).a5) (v4) (v5) N).bind fun r => match r with
        | .r0 y3_0 y3_1 y3_2 =>
          ((ref03_Take (v6) ((L2.getD v3 R_iiiiiiii.z).a1) ((L2.getD v3 R_iiiiiiii.z).a2) ((L2.getD v3 R_iiiiiiii.z).a3) ((L2.getD v3 R_iiiiiiii.z).a4) ((L2.getD v3 R_iiiiiiii.z).a5) N).bind fun r => match r with
          | .r0 =>
            if ¬ (y3_2 = false) then
              some (.inr (.r0 (false) : law03_OrecRunsR))
            else
            ((orec_Table_All (y3_0) (y3_1) N).bind fun r => match r with
            | .r0 =>
              some (.inl (.h2m0 (v3) (y3_0) (y3_1) (v6) : law03_OrecRunsX))
            | .r1 y6_0 =>
              some (.inl (.h2m1 (v3) (y6_0) (y3_0) (y3_1) (v6) : law03_OrecRunsX))
            )
          | .r1 =>
            if ¬ (y3_2 = true) then
              some (.inr (.r0 (false) : law03_OrecRunsR))
            else
            ((orec_Table_All (y3_0) (y3_1) N).bind fun r => match r with
            | .r0 =>
              some (.inl (.h2m0 (v3) (y3_0) (y3_1) ((v6.set ((L2.getD v3 R_iiiiiiii.z).a1).toNat (⟨(L2.getD v3 R_iiiiiiii.z).a3, (L2.getD v3 R_iiiiiiii.z).a4, (IntKind.i64.wrap ((v6.getD ((L2.getD v3 R_iiiiiiii.z).a1).toNat R_iii.z).a2 + (1 : Int)))⟩ : R_iii))) : law03_OrecRunsX))
            | .r1 y6_0 =>
              some (.inl (.h2m1 (v3) (y6_0) (y3_0) (y3_1) ((v6.set ((L2.getD v3 R_iiiiiiii.z).a1).toNat (⟨(L2.getD v3 R_iiiiiiii.z).a3, (L2.getD v3 R_iiiiiiii.z).a4, (IntKind.i64.wrap ((v6.getD ((L2.getD v3 R_iiiiiiii.z).a1).toNat R_iii.z).a2 + (1 : Int)))⟩ : R_iii))) : law03_OrecRunsX))
            )
          )
        )
      else
      if (L2.getD v3 R_iiiiiiii.z).a0 = (2 : Int) then
        ((orec_Table_Let ((L2.getD v3 R_iiiiiiii.z).a1) ((L2.getD v3 R_iiiiiiii.z).a2) (v4) (v5) N).bind fun r => match r with
        | .r0 y4_0 y4_1 =>
          ((ref03_Let (v6) ((L2.getD v3 R_iiiiiiii.z).a1) ((L2.getD v3 R_iiiiiiii.z).a2) N).bind fun r => match r with
          | .r0 y5_0 =>
            if ¬ (y4_1 = y5_0) then
              some (.inr (.r0 (false) : law03_OrecRunsR))
            else
            ((orec_Table_All (y4_0) (v5) N).bind fun r => match r with
            | .r0 =>
              some (.inl (.h2m0 (v3) (y4_0) (v5) (v6) : law03_OrecRunsX))
            | .r1 y7_0 =>
              some (.inl (.h2m1 (v3) (y7_0) (y4_0) (v5) (v6) : law03_OrecRunsX))
            )
          | .r1 =>
            if ¬ (y4_1 = (0 : Int)) then
              some (.inr (.r0 (false) : law03_OrecRunsR))
            else
            ((orec_Table_All (y4_0) (v5) N).bind fun r => match r with
            | .r0 =>
              some (.inl (.h2m0 (v3) (y4_0) (v5) ((v6.set ((L2.getD v3 R_iiiiiiii.z).a1).toNat (⟨(0 : Int), (L2.getD v3 R_iiiiiiii.z).a2, (v6.getD ((L2.getD v3 R_iiiiiiii.z).a1).toNat R_iii.z).a2⟩ : R_iii))) : law03_OrecRunsX))
            | .r1 y7_0 =>
              some (.inl (.h2m1 (v3) (y7_0) (y4_0) (v5) ((v6.set ((L2.getD v3 R_iiiiiiii.z).a1).toNat (⟨(0 : Int), (L2.getD v3 R_iiiiiiii.z).a2, (v6.getD ((L2.getD v3 R_iiiiiiii.z).a1).toNat R_iii.z).a2⟩ : R_iii))) : law03_OrecRunsX))
            )
          )
        )
      else
      if (L2.getD v3 R_iiiiiiii.z).a0 = (3 : Int) then
        ((orec_Table_At ((L2.getD v3 R_iiiiiiii.z).a1) (v4) (v5) N).bind fun r => match r with
        | .r0 y5_0 y5_1 y5_2 =>
          ((ref03_At (v6) ((L2.getD v3 R_iiiiiiii.z).a1) N).bind fun r => match r with
          | .r0 y6_0 y6_1 y6_2 =>
            if ¬ ((y5_0 = y6_0 ∧ y5_1 = y6_1 ∧ y5_2 = y6_2)) then
              some (.inr (.r0 (false) : law03_OrecRunsR))
            else
            ((orec_Table_All (v4) (v5) N).bind fun r => match r with
            | .r0 =>
              some (.inl (.h2m0 (v3) (v4) (v5) (v6) : law03_OrecRunsX))
            | .r1 y8_0 =>
              some (.inl (.h2m1 (v3) (y8_0) (v4) (v5) (v6) : law03_OrecRunsX))
            )
          )
        )
      else
      if (L2.getD v3 R_iiiiiiii.z).a0 = (4 : Int) then
        ((orec_Table_Of ((L2.getD v3 R_iiiiiiii.z).a2) (v4) (v5) N).bind fun r => match r with
        | .r0 =>
          ((ref03_Of (v6) ((L2.getD v3 R_iiiiiiii.z).a2) N).bind fun r => match r with
          | .r0 =>
            ((ref03_SameInts N).bind fun r => match r with
            | .r0 =>
              ((orec_Table_All (v4) (v5) N).bind fun r => match r with
              | .r0 =>
                some (.inl (.h2m0 (v3) (v4) (v5) (v6) : law03_OrecRunsX))
              | .r1 y9_0 =>
                some (.inl (.h2m1 (v3) (y9_0) (v4) (v5) (v6) : law03_OrecRunsX))
              )
            )
          | .r1 y7_0 =>
            ((ref03_SameInts_2 (y7_0) N).bind fun r => match r with
            | .r0 y8_0 =>
              if ¬ (y8_0 = true) then
                some (.inr (.r0 (false) : law03_OrecRunsR))
              else
              ((orec_Table_All (v4) (v5) N).bind fun r => match r with
              | .r0 =>
                some (.inl (.h2m0 (v3) (v4) (v5) (v6) : law03_OrecRunsX))
              | .r1 y10_0 =>
                some (.inl (.h2m1 (v3) (y10_0) (v4) (v5) (v6) : law03_OrecRunsX))
              )
            )
          )
        | .r1 y6_0 =>
          ((ref03_Of (v6) ((L2.getD v3 R_iiiiiiii.z).a2) N).bind fun r => match r with
          | .r0 =>
            ((ref03_SameInts_3 (y6_0) N).bind fun r => match r with
            | .r0 y8_0 =>
              if ¬ (y8_0 = true) then
                some (.inr (.r0 (false) : law03_OrecRunsR))
              else
              ((orec_Table_All (v4) (v5) N).bind fun r => match r with
              | .r0 =>
                some (.inl (.h2m0 (v3) (v4) (v5) (v6) : law03_OrecRunsX))
              | .r1 y10_0 =>
                some (.inl (.h2m1 (v3) (y10_0) (v4) (v5) (v6) : law03_OrecRunsX))
              )
            )
          | .r1 y7_0 =>
            ((ref03_SameInts_4 (y6_0) (y7_0) N).bind fun r => match r with
            | .r0 y8_0 =>
              if ¬ (y8_0 = true) then
                some (.inr (.r0 (false) : law03_OrecRunsR))
              else
              ((orec_Table_All (v4) (v5) N).bind fun r => match r with
              | .r0 =>
                some (.inl (.h2m0 (v3) (v4) (v5) (v6) : law03_OrecRunsX))
              | .r1 y10_0 =>
                some (.inl (.h2m1 (v3) (y10_0) (v4) (v5) (v6) : law03_OrecRunsX))
              )
            )
          )
        )
      else
      if (L2.getD v3 R_iiiiiiii.z).a0 = (5 : Int) then
        ((orec_Table_Index ((L2.getD v3 R_iiiiiiii.z).a6) ((L2.getD v3 R_iiiiiiii.z).a7) (v4) (v5) N).bind fun r => match r with
        | .r0 y7_0 =>
          ((ref03_Index (v6) ((L2.getD v3 R_iiiiiiii.z).a6) ((L2.getD v3 R_iiiiiiii.z).a7) N).bind fun r => match r with
          | .r0 y8_0 =>
            if ¬ (y7_0 = y8_0) then
              some (.inr (.r0 (false) : law03_OrecRunsR))
            else
            ((orec_Table_All (v4) (v5) N).bind fun r => match r with
            | .r0 =>
              some (.inl (.h2m0 (v3) (v4) (v5) (v6) : law03_OrecRunsX))
            | .r1 y10_0 =>
              some (.inl (.h2m1 (v3) (y10_0) (v4) (v5) (v6) : law03_OrecRunsX))
            )
          )
        )
      else
      if (L2.getD v3 R_iiiiiiii.z).a0 = (6 : Int) then
        ((orec_Table_Fork (v4) (v5) N).bind fun r => match r with
        | .r0 =>
          some (.inr (.r0 (false) : law03_OrecRunsR))
        | .r1 y8_0 y8_1 =>
          ((orec_Table_At ((0 : Int)) (v4) (v5) N).bind fun r => match r with
          | .r0 y9_0 y9_1 y9_2 =>
            ((orec_Table_Take ((0 : Int)) (y9_1) ((1 : Int)) ((9 : Int)) ((0 : Int)) (v4) (v5) N).bind fun r => match r with
            | .r0 y10_0 y10_1 y10_2 =>
              ((orec_Table_All (y8_0) (y8_1) N).bind fun r => match r with
              | .r0 =>
                some (.inl (.h2m0 (v3) (y8_0) (y8_1) (v6) : law03_OrecRunsX))
              | .r1 y11_0 =>
                some (.inl (.h2m1 (v3) (y11_0) (y8_0) (y8_1) (v6) : law03_OrecRunsX))
              )
            )
          )
        )
      else
      ((orec_Table_All (v4) (v5) N).bind fun r => match r with
      | .r0 =>
        some (.inl (.h2m0 (v3) (v4) (v5) (v6) : law03_OrecRunsX))
      | .r1 y8_0 =>
        some (.inl (.h2m1 (v3) (y8_0) (v4) (v5) (v6) : law03_OrecRunsX))
      )
    else
    some (.inr (.r0 (true) : law03_OrecRunsR))
  else
  some (.inr (.r0 (true) : law03_OrecRunsR))

def law03_OrecRuns_h2m0 (a0 : Int) (L2 : List R_iiiiiiii) (n3 : Nat) (N : Nat) (v3 : Nat) (v4 : List Int) (v5 : List Int) (v6 : List R_iii) : Option (law03_OrecRunsX ⊕ law03_OrecRunsR) :=
  ((ref03_SameAll (v6) N).bind fun r => match r with
  | .r0 y0_0 =>
    if ¬ (y0_0 = true) then
      some (.inr (.r0 (false) : law03_OrecRunsR))
    else
    if (0 : Int) < ((v4.length : Nat) : Int) then
      if ¬ (((v4.length : Nat) : Int) = ((v6.length : Nat) : Int)) then
        some (.inr (.r0 (false) : law03_OrecRunsR))
      else
      some (.inl (.h3m0 (v3) (v4) (v5) (v6) : law03_OrecRunsX))
    else
    if ¬ ((0 : Int) = ((v6.length : Nat) : Int)) then
      some (.inr (.r0 (false) : law03_OrecRunsR))
    else
    some (.inl (.h3m0 (v3) (v4) (v5) (v6) : law03_OrecRunsX))
  )

def law03_OrecRuns_h2m1 (a0 : Int) (L2 : List R_iiiiiiii) (n3 : Nat) (N : Nat) (v3 : Nat) (v4 : List R_iii) (v5 : List Int) (v6 : List Int) (v7 : List R_iii) : Option (law03_OrecRunsX ⊕ law03_OrecRunsR) :=
  ((ref03_SameAll_2 (v4) (v7) N).bind fun r => match r with
  | .r0 y0_0 =>
    if ¬ (y0_0 = true) then
      some (.inr (.r0 (false) : law03_OrecRunsR))
    else
    if (0 : Int) < ((v5.length : Nat) : Int) then
      if ¬ (((v5.length : Nat) : Int) = ((v7.length : Nat) : Int)) then
        some (.inr (.r0 (false) : law03_OrecRunsR))
      else
      some (.inl (.h3m1 (v3) (v4) (0) (v5) (v6) (v7) : law03_OrecRunsX))
    else
    if ¬ ((0 : Int) = ((v7.length : Nat) : Int)) then
      some (.inr (.r0 (false) : law03_OrecRunsR))
    else
    some (.inl (.h3m1 (v3) (v4) (0) (v5) (v6) (v7) : law03_OrecRunsX))
  )

def law03_OrecRuns_h3m0 (a0 : Int) (L2 : List R_iiiiiiii) (n3 : Nat) (N : Nat) (v3 : Nat) (v5 : List Int) (v6 : List Int) (v7 : List R_iii) : Option (law03_OrecRunsX ⊕ law03_OrecRunsR) :=
  if (((v3 + 1) : Nat) : Int) ≤ (9223372036854775807 : Int) then
    some (.inl (.h1m1 ((v3 + 1)) (v5) (v6) (v7) : law03_OrecRunsX))
  else
  none

def law03_OrecRuns_h3m1 (a0 : Int) (L2 : List R_iiiiiiii) (n3 : Nat) (N : Nat) (v3 : Nat) (v4 : List R_iii) (v5 : Nat) (v6 : List Int) (v7 : List Int) (v8 : List R_iii) : Option (law03_OrecRunsX ⊕ law03_OrecRunsR) :=
  if ((v5 : Nat) : Int) < ((v4.length : Nat) : Int) then
    if (((v5 + 1) : Nat) : Int) ≤ (9223372036854775807 : Int) then
      some (.inl (.h3m1 (v3) ((v4.set v5 (⟨(v4.getD v5 R_iii.z).a0, (99 : Int), (v4.getD v5 R_iii.z).a2⟩ : R_iii))) ((v5 + 1)) (v6) (v7) (v8) : law03_OrecRunsX))
    else
    none
  else
  if (((v3 + 1) : Nat) : Int) ≤ (9223372036854775807 : Int) then
    some (.inl (.h1m1 ((v3 + 1)) (v6) (v7) (v8) : law03_OrecRunsX))
  else
  none

def law03_OrecRunsStep (a0 : Int) (L2 : List R_iiiiiiii) (n3 : Nat) (N : Nat) : law03_OrecRunsX → Option (law03_OrecRunsX ⊕ law03_OrecRunsR)
  | .h1m0 => law03_OrecRuns_h1m0 a0 L2 n3 N
  | .h1m1 v3 v4 v5 v6 => law03_OrecRuns_h1m1 a0 L2 n3 N v3 v4 v5 v6
  | .h2m0 v3 v4 v5 v6 => law03_OrecRuns_h2m0 a0 L2 n3 N v3 v4 v5 v6
  | .h2m1 v3 v4 v5 v6 v7 => law03_OrecRuns_h2m1 a0 L2 n3 N v3 v4 v5 v6 v7
  | .h3m0 v3 v5 v6 v7 => law03_OrecRuns_h3m0 a0 L2 n3 N v3 v5 v6 v7
  | .h3m1 v3 v4 v5 v6 v7 v8 => law03_OrecRuns_h3m1 a0 L2 n3 N v3 v4 v5 v6 v7 v8

def law03_OrecRunsIn (a0 : Int) (L2 : List R_iiiiiiii) (n3 : Nat) (N : Nat) : Option (law03_OrecRunsX ⊕ law03_OrecRunsR) :=
  ((orec_New (a0) N).bind fun r => match r with
  | .r0 =>
    ((ref03_New (a0) N).bind fun r => match r with
    | .r0 =>
      some (.inl (.h1m0 : law03_OrecRunsX))
    | .r1 =>
      some (.inr (.r0 (false) : law03_OrecRunsR))
    )
  | .r1 =>
    ((ref03_New (a0) N).bind fun r => match r with
    | .r0 =>
      some (.inr (.r0 (false) : law03_OrecRunsR))
    | .r1 =>
      some (.inl (.h1m1 (0) ((List.replicate (a0).toNat (0 : Int))) ((List.replicate (a0).toNat (0 : Int))) ((List.replicate (a0).toNat (⟨(0 : Int), (0 : Int), (0 : Int)⟩ : R_iii))) : law03_OrecRunsX))
    )
  )

def law03_OrecRuns (a0 : Int) (L2 : List R_iiiiiiii) (n3 : Nat) (N : Nat) : Option law03_OrecRunsR := goM (law03_OrecRunsStep a0 L2 n3 N) N (law03_OrecRunsIn a0 L2 n3 N)

/-- gantlet/gantletlaw03.OrecRuns -/
inductive law03_OrecRuns_2R where
  | r0 (w0 : Bool)

inductive law03_OrecRuns_2X where
  | h1m0
  | h1m1

def law03_OrecRuns_2_h1m0 (a0 : Int) (N : Nat) : Option (law03_OrecRuns_2X ⊕ law03_OrecRuns_2R) :=
  some (.inr (.r0 (true) : law03_OrecRuns_2R))

def law03_OrecRuns_2_h1m1 (a0 : Int) (N : Nat) : Option (law03_OrecRuns_2X ⊕ law03_OrecRuns_2R) :=
  some (.inr (.r0 (true) : law03_OrecRuns_2R))

def law03_OrecRuns_2Step (a0 : Int) (N : Nat) : law03_OrecRuns_2X → Option (law03_OrecRuns_2X ⊕ law03_OrecRuns_2R)
  | .h1m0 => law03_OrecRuns_2_h1m0 a0 N
  | .h1m1 => law03_OrecRuns_2_h1m1 a0 N

def law03_OrecRuns_2In (a0 : Int) (N : Nat) : Option (law03_OrecRuns_2X ⊕ law03_OrecRuns_2R) :=
  ((orec_New (a0) N).bind fun r => match r with
  | .r0 =>
    ((ref03_New (a0) N).bind fun r => match r with
    | .r0 =>
      some (.inl (.h1m0 : law03_OrecRuns_2X))
    | .r1 =>
      some (.inr (.r0 (false) : law03_OrecRuns_2R))
    )
  | .r1 =>
    ((ref03_New (a0) N).bind fun r => match r with
    | .r0 =>
      some (.inr (.r0 (false) : law03_OrecRuns_2R))
    | .r1 =>
      some (.inl (.h1m1 : law03_OrecRuns_2X))
    )
  )

def law03_OrecRuns_2 (a0 : Int) (N : Nat) : Option law03_OrecRuns_2R := goM (law03_OrecRuns_2Step a0 N) N (law03_OrecRuns_2In a0 N)
end Ev
end Go.Proofs.Ytlcamddglkfblaa
