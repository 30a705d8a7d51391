/- Records, and the program's functions as plain ones. -/
import Derived.Test.YtjamgoohhcdaeaaFm
namespace Go.Proofs.Ytjamgoohhcdaeaa
open Go.RowKit
namespace Ev
set_option linter.unusedVariables false
structure R_ii where
  a0 : Int
  a1 : Int
def R_ii.z : R_ii := ⟨0, 0⟩
structure R_iiiiibi where
  a0 : Int
  a1 : Int
  a2 : Int
  a3 : Int
  a4 : Int
  a5 : Bool
  a6 : Int
def R_iiiiibi.z : R_iiiiibi := ⟨0, 0, 0, 0, 0, false, 0⟩
/-- gantlet/undo.New -/
inductive undo_NewR where
  | r0
  | r1

def undo_New (a0 : Int) (N : Nat) : Option undo_NewR :=
  if a0 < (1 : Int) then
    some (.r0 : undo_NewR)
  else
  if (4096 : Int) < a0 then
    some (.r0 : undo_NewR)
  else
  some (.r1 : undo_NewR)

/-- (*gantlet/undo.Log).Push -/
inductive undo_Log_PushR where
  | r0
  | r1

def undo_Log_Push (a0 : Int) (a1 : Int) (a2 : Int) (a3 : Int) (a4 : Int) (b5 : Bool) (a6 : Int) (a7 : Int) (N : Nat) : Option undo_Log_PushR :=
  if (0 : Int) < a7 then
    some (.r0 : undo_Log_PushR)
  else
  some (.r1 : undo_Log_PushR)

/-- (*gantlet/undo.Log).First -/
inductive undo_Log_FirstR where
  | r0 (w1 : Int) (w2 : Int) (w3 : Bool)

inductive undo_Log_FirstX where
  | h1m0 (v2 : Int) (v9 : Int) (v10 : Int) (v11 : Bool)

def undo_Log_First_h1m0 (a0 : Int) (a1 : Int) (a2 : Int) (a3 : Int) (L4 : List R_iiiiibi) (N : Nat) (v2 : Int) (v9 : Int) (v10 : Int) (v11 : Bool) : Option (undo_Log_FirstX ⊕ undo_Log_FirstR) :=
  if (0 : Int) ≤ v2 then
    if (v2).toNat < L4.length then
      if ((L4.getD (v2).toNat R_iiiiibi.z).a0 = a0 ∧ (L4.getD (v2).toNat R_iiiiibi.z).a1 = a1) then
        if (L4.getD (v2).toNat R_iiiiibi.z).a2 = a2 then
          if (L4.getD (v2).toNat R_iiiiibi.z).a5 = true then
            some (.inl (.h1m0 ((IntKind.i64.wrap (v2 - (1 : Int)))) (v9) (v10) (v11) : undo_Log_FirstX))
          else
          some (.inl (.h1m0 ((IntKind.i64.wrap (v2 - (1 : Int)))) ((L4.getD (v2).toNat R_iiiiibi.z).a3) ((L4.getD (v2).toNat R_iiiiibi.z).a4) (true) : undo_Log_FirstX))
        else
        some (.inl (.h1m0 ((IntKind.i64.wrap (v2 - (1 : Int)))) (v9) (v10) (v11) : undo_Log_FirstX))
      else
      some (.inl (.h1m0 ((IntKind.i64.wrap (v2 - (1 : Int)))) (v9) (v10) (v11) : undo_Log_FirstX))
    else
    none
  else
  if v11 = true then
    some (.inr (.r0 (v9) (v10) (true) : undo_Log_FirstR))
  else
  some (.inr (.r0 (v9) (v10) (false) : undo_Log_FirstR))

def undo_Log_FirstStep (a0 : Int) (a1 : Int) (a2 : Int) (a3 : Int) (L4 : List R_iiiiibi) (N : Nat) : undo_Log_FirstX → Option (undo_Log_FirstX ⊕ undo_Log_FirstR)
  | .h1m0 v2 v9 v10 v11 => undo_Log_First_h1m0 a0 a1 a2 a3 L4 N v2 v9 v10 v11

def undo_Log_FirstIn (a0 : Int) (a1 : Int) (a2 : Int) (a3 : Int) (L4 : List R_iiiiibi) (N : Nat) : Option (undo_Log_FirstX ⊕ undo_Log_FirstR) :=
  if (0 : Int) < a3 then
    if (((L4.length : Nat) : Int) - (1 : Int)) ≤ (9223372036854775807 : Int) then
      some (.inl (.h1m0 ((((L4.length : Nat) : Int) - (1 : Int))) ((0 : Int)) ((0 : Int)) (false) : undo_Log_FirstX))
    else
    none
  else
  some (.inr (.r0 ((0 : Int)) ((0 : Int)) (false) : undo_Log_FirstR))

def undo_Log_First (a0 : Int) (a1 : Int) (a2 : Int) (a3 : Int) (L4 : List R_iiiiibi) (N : Nat) : Option undo_Log_FirstR := goM (undo_Log_FirstStep a0 a1 a2 a3 L4 N) N (undo_Log_FirstIn a0 a1 a2 a3 L4 N)

/-- (*gantlet/undo.Log).Push -/
inductive undo_Log_Push_2R where
  | r0 (w1 : Int)
  | r1

def undo_Log_Push_2 (a0 : Int) (a1 : Int) (a2 : Int) (a3 : Int) (a4 : Int) (b5 : Bool) (a6 : Int) (a7 : Int) (L8 : List R_iiiiibi) (N : Nat) : Option undo_Log_Push_2R :=
  if (0 : Int) < a7 then
    if a7 ≤ ((L8.length : Nat) : Int) then
      some (.r0 ((70 : Int)) : undo_Log_Push_2R)
    else
    if L8.length ≤ 100000 then
      some (.r1 : undo_Log_Push_2R)
    else
    none
  else
  some (.r0 ((4 : Int)) : undo_Log_Push_2R)

/-- gantlet/gantletlaw07.UndoBack -/
inductive law07_UndoBackR where
  | r0 (w4 : Bool)

inductive law07_UndoBackX where
  | h1m0
  | h1m1
  | h1m2
  | h1m3
  | h1m4
  | h1m5
  | h1m6
  | h1m7
  | h1m8
  | h2m0
  | h2m1 (v8 : List R_ii) (v10 : Nat) (v12 : List R_iiiiibi)
  | h3m0
  | h3m1 (v4 : List R_ii) (v7 : List R_iiiiibi)
  | h3m2 (v4 : List R_ii) (v7 : List R_iiiiibi) (v8 : Nat) (v9 : Nat)

def law07_UndoBack_h1m0 (L1 : List Int) (n2 : Nat) (n3 : Nat) (L5 : List Int) (n6 : Nat) (n7 : Nat) (N : Nat) : Option (law07_UndoBackX ⊕ law07_UndoBackR) :=
  some (.inl (.h1m1 : law07_UndoBackX))

def law07_UndoBack_h1m1 (L1 : List Int) (n2 : Nat) (n3 : Nat) (L5 : List Int) (n6 : Nat) (n7 : Nat) (N : Nat) : Option (law07_UndoBackX ⊕ law07_UndoBackR) :=
  some (.inl (.h1m2 : law07_UndoBackX))

def law07_UndoBack_h1m2 (L1 : List Int) (n2 : Nat) (n3 : Nat) (L5 : List Int) (n6 : Nat) (n7 : Nat) (N : Nat) : Option (law07_UndoBackX ⊕ law07_UndoBackR) :=
  some (.inl (.h1m3 : law07_UndoBackX))

def law07_UndoBack_h1m3 (L1 : List Int) (n2 : Nat) (n3 : Nat) (L5 : List Int) (n6 : Nat) (n7 : Nat) (N : Nat) : Option (law07_UndoBackX ⊕ law07_UndoBackR) :=
  some (.inl (.h1m4 : law07_UndoBackX))

def law07_UndoBack_h1m4 (L1 : List Int) (n2 : Nat) (n3 : Nat) (L5 : List Int) (n6 : Nat) (n7 : Nat) (N : Nat) : Option (law07_UndoBackX ⊕ law07_UndoBackR) :=
  some (.inl (.h1m5 : law07_UndoBackX))

def law07_UndoBack_h1m5 (L1 : List Int) (n2 : Nat) (n3 : Nat) (L5 : List Int) (n6 : Nat) (n7 : Nat) (N : Nat) : Option (law07_UndoBackX ⊕ law07_UndoBackR) :=
  some (.inl (.h1m6 : law07_UndoBackX))

def law07_UndoBack_h1m6 (L1 : List Int) (n2 : Nat) (n3 : Nat) (L5 : List Int) (n6 : Nat) (n7 : Nat) (N : Nat) : Option (law07_UndoBackX ⊕ law07_UndoBackR) :=
  some (.inl (.h1m7 : law07_UndoBackX))

def law07_UndoBack_h1m7 (L1 : List Int) (n2 : Nat) (n3 : Nat) (L5 : List Int) (n6 : Nat) (n7 : Nat) (N : Nat) : Option (law07_UndoBackX ⊕ law07_UndoBackR) :=
  some (.inl (.h1m8 : law07_UndoBackX))

def law07_UndoBack_h1m8 (L1 : List Int) (n2 : Nat) (n3 : Nat) (L5 : List Int) (n6 : Nat) (n7 : Nat) (N : Nat) : Option (law07_UndoBackX ⊕ law07_UndoBackR) :=
  some (.inl (.h2m0 : law07_UndoBackX))

def law07_UndoBack_h2m0 (L1 : List Int) (n2 : Nat) (n3 : Nat) (L5 : List Int) (n6 : Nat) (n7 : Nat) (N : Nat) : Option (law07_UndoBackX ⊕ law07_UndoBackR) :=
  if (0 : Int) < ((n2 : Nat) : Int) then
    if (0 : Int) < ((n6 : Nat) : Int) then
      if 0 < L1.length then
        if (-9223372036854775808 : Int) ≤ (L1.getD 0 0) then
          if (L1.getD 0 0) ≤ (9223372036854775807 : Int) then
            if (0 : Int) ≤ (Int.tmod (L1.getD 0 0) (8 : Int)) then
              if ((Int.tmod (L1.getD 0 0) (8 : Int))).toNat < 8 then
                ((undo_Log_Push ((0 : Int)) ((0 : Int)) ((Int.tmod (L1.getD 0 0) (8 : Int))) ((([(⟨(1 : Int), (0 : Int)⟩ : R_ii), (⟨(1 : Int), (1 : Int)⟩ : R_ii), (⟨(1 : Int), (2 : Int)⟩ : R_ii), (⟨(1 : Int), (3 : Int)⟩ : R_ii), (⟨(1 : Int), (4 : Int)⟩ : R_ii), (⟨(1 : Int), (5 : Int)⟩ : R_ii), (⟨(1 : Int), (6 : Int)⟩ : R_ii), (⟨(1 : Int), (7 : Int)⟩ : R_ii)] : List R_ii).getD ((Int.tmod (L1.getD 0 0) (8 : Int))).toNat R_ii.z).a0) ((([(⟨(1 : Int), (0 : Int)⟩ : R_ii), (⟨(1 : Int), (1 : Int)⟩ : R_ii), (⟨(1 : Int), (2 : Int)⟩ : R_ii), (⟨(1 : Int), (3 : Int)⟩ : R_ii), (⟨(1 : Int), (4 : Int)⟩ : R_ii), (⟨(1 : Int), (5 : Int)⟩ : R_ii), (⟨(1 : Int), (6 : Int)⟩ : R_ii), (⟨(1 : Int), (7 : Int)⟩ : R_ii)] : List R_ii).getD ((Int.tmod (L1.getD 0 0) (8 : Int))).toNat R_ii.z).a1) (false) ((0 : Int)) ((200 : Int)) N).bind fun r => match r with
                | .r0 =>
                  if 0 < L5.length then
                    ((undo_Log_First ((0 : Int)) ((0 : Int)) ((Int.tmod (L1.getD 0 0) (8 : Int))) ((200 : Int)) (([(⟨(0 : Int), (0 : Int), (Int.tmod (L1.getD 0 0) (8 : Int)), (([(⟨(1 : Int), (0 : Int)⟩ : R_ii), (⟨(1 : Int), (1 : Int)⟩ : R_ii), (⟨(1 : Int), (2 : Int)⟩ : R_ii), (⟨(1 : Int), (3 : Int)⟩ : R_ii), (⟨(1 : Int), (4 : Int)⟩ : R_ii), (⟨(1 : Int), (5 : Int)⟩ : R_ii), (⟨(1 : Int), (6 : Int)⟩ : R_ii), (⟨(1 : Int), (7 : Int)⟩ : R_ii)] : List R_ii).getD ((Int.tmod (L1.getD 0 0) (8 : Int))).toNat R_ii.z).a0, (([(⟨(1 : Int), (0 : Int)⟩ : R_ii), (⟨(1 : Int), (1 : Int)⟩ : R_ii), (⟨(1 : Int), (2 : Int)⟩ : R_ii), (⟨(1 : Int), (3 : Int)⟩ : R_ii), (⟨(1 : Int), (4 : Int)⟩ : R_ii), (⟨(1 : Int), (5 : Int)⟩ : R_ii), (⟨(1 : Int), (6 : Int)⟩ : R_ii), (⟨(1 : Int), (7 : Int)⟩ : R_ii)] : List R_ii).getD ((Int.tmod (L1.getD 0 0) (8 : Int))).toNat R_ii.z).a1, false, (0 : Int)⟩ : R_iiiiibi)] : List R_iiiiibi)) N).bind fun r => match r with
                    | .r0 y9_0 y9_1 y9_2 =>
                      if ¬ (y9_2 = true) then
                        some (.inr (.r0 (false) : law07_UndoBackR))
                      else
                      if ¬ ((y9_0 = (([(⟨(1 : Int), (0 : Int)⟩ : R_ii), (⟨(1 : Int), (1 : Int)⟩ : R_ii), (⟨(1 : Int), (2 : Int)⟩ : R_ii), (⟨(1 : Int), (3 : Int)⟩ : R_ii), (⟨(1 : Int), (4 : Int)⟩ : R_ii), (⟨(1 : Int), (5 : Int)⟩ : R_ii), (⟨(1 : Int), (6 : Int)⟩ : R_ii), (⟨(1 : Int), (7 : Int)⟩ : R_ii)] : List R_ii).getD ((Int.tmod (L1.getD 0 0) (8 : Int))).toNat R_ii.z).a0 ∧ y9_1 = (([(⟨(1 : Int), (0 : Int)⟩ : R_ii), (⟨(1 : Int), (1 : Int)⟩ : R_ii), (⟨(1 : Int), (2 : Int)⟩ : R_ii), (⟨(1 : Int), (3 : Int)⟩ : R_ii), (⟨(1 : Int), (4 : Int)⟩ : R_ii), (⟨(1 : Int), (5 : Int)⟩ : R_ii), (⟨(1 : Int), (6 : Int)⟩ : R_ii), (⟨(1 : Int), (7 : Int)⟩ : R_ii)] : List R_ii).getD ((Int.tmod (L1.getD 0 0) (8 : Int))).toNat R_ii.z).a1)) then
                        some (.inr (.r0 (false) : law07_UndoBackR))
                      else
                      some (.inl (.h2m1 ((([(⟨(1 : Int), (0 : Int)⟩ : R_ii), (⟨(1 : Int), (1 : Int)⟩ : R_ii), (⟨(1 : Int), (2 : Int)⟩ : R_ii), (⟨(1 : Int), (3 : Int)⟩ : R_ii), (⟨(1 : Int), (4 : Int)⟩ : R_ii), (⟨(1 : Int), (5 : Int)⟩ : R_ii), (⟨(1 : Int), (6 : Int)⟩ : R_ii), (⟨(1 : Int), (7 : Int)⟩ : R_ii)] : List R_ii).set ((Int.tmod (L1.getD 0 0) (8 : Int))).toNat (⟨(([(⟨(1 : Int), (0 : Int)⟩ : R_ii), (⟨(1 : Int), (1 : Int)⟩ : R_ii), (⟨(1 : Int), (2 : Int)⟩ : R_ii), (⟨(1 : Int), (3 : Int)⟩ : R_ii), (⟨(1 : Int), (4 : Int)⟩ : R_ii), (⟨(1 : Int), (5 : Int)⟩ : R_ii), (⟨(1 : Int), (6 : Int)⟩ : R_ii), (⟨(1 : Int), (7 : Int)⟩ : R_ii)] : List R_ii).getD ((Int.tmod (L1.getD 0 0) (8 : Int))).toNat R_ii.z).a0, (L5.getD 0 0)⟩ : R_ii))) (1) (([(⟨(0 : Int), (0 : Int), (Int.tmod (L1.getD 0 0) (8 : Int)), (([(⟨(1 : Int), (0 : Int)⟩ : R_ii), (⟨(1 : Int), (1 : Int)⟩ : R_ii), (⟨(1 : Int), (2 : Int)⟩ : R_ii), (⟨(1 : Int), (3 : Int)⟩ : R_ii), (⟨(1 : Int), (4 : Int)⟩ : R_ii), (⟨(1 : Int), (5 : Int)⟩ : R_ii), (⟨(1 : Int), (6 : Int)⟩ : R_ii), (⟨(1 : Int), (7 : Int)⟩ : R_ii)] : List R_ii).getD ((Int.tmod (L1.getD 0 0) (8 : Int))).toNat R_ii.z).a0, (([(⟨(1 : Int), (0 : Int)⟩ : R_ii), (⟨(1 : Int), (1 : Int)⟩ : R_ii), (⟨(1 : Int), (2 : Int)⟩ : R_ii), (⟨(1 : Int), (3 : Int)⟩ : R_ii), (⟨(1 : Int), (4 : Int)⟩ : R_ii), (⟨(1 : Int), (5 : Int)⟩ : R_ii), (⟨(1 : Int), (6 : Int)⟩ : R_ii), (⟨(1 : Int), (7 : Int)⟩ : R_ii)] : List R_ii).getD ((Int.tmod (L1.getD 0 0) (8 : Int))).toNat R_ii.z).a1, false, (0 : Int)⟩ : R_iiiiibi)] : List R_iiiiibi)) : law07_UndoBackX))
                    )
                  else
                  none
                | .r1 =>
                  some (.inr (.r0 (false) : law07_UndoBackR))
                )
              else
              none
            else
            none
          else
          none
        else
        none
      else
      none
    else
    some (.inl (.h3m0 : law07_UndoBackX))
  else
  some (.inl (.h3m0 : law07_UndoBackX))

def law07_UndoBack_h2m1 (L1 : List Int) (n2 : Nat) (n3 : Nat) (L5 : List Int) (n6 : Nat) (n7 : Nat) (N : Nat) (v8 : List R_ii) (v10 : Nat) (v12 : List R_iiiiibi) : Option (law07_UndoBackX ⊕ law07_UndoBackR) :=
  if ((v10 : Nat) : Int) < ((n2 : Nat) : Int) then
    if ((v10 : Nat) : Int) < ((n6 : Nat) : Int) then
      if ((v10 : Nat) : Int) < (200 : Int) then
        if v10 < L1.length then
          if (-9223372036854775808 : Int) ≤ (L1.getD v10 0) then
            if (L1.getD v10 0) ≤ (9223372036854775807 : Int) then
              if (0 : Int) ≤ (Int.tmod (L1.getD v10 0) (8 : Int)) then
                if ((Int.tmod (L1.getD v10 0) (8 : Int))).toNat < 8 then
                  if ((Int.tmod (L1.getD v10 0) (8 : Int))).toNat < v8.length then
                    ((undo_Log_Push_2 ((0 : Int)) ((0 : Int)) ((Int.tmod (L1.getD v10 0) (8 : Int))) ((v8.getD ((Int.tmod (L1.getD v10 0) (8 : Int))).toNat R_ii.z).a0) ((v8.getD ((Int.tmod (L1.getD v10 0) (8 : Int))).toNat R_ii.z).a1) (false) ((0 : Int)) ((200 : Int)) (v12) N).bind fun r => match r with
                    | .r0 y9_0 =>
                      if ¬ (y9_0 = (0 : Int)) then
                        some (.inr (.r0 (false) : law07_UndoBackR))
                      else
                      if v10 < L5.length then
                        ((undo_Log_First ((0 : Int)) ((0 : Int)) ((Int.tmod (L1.getD v10 0) (8 : Int))) ((200 : Int)) (v12) N).bind fun r => match r with
                        | .r0 y12_0 y12_1 y12_2 =>
                          if ¬ (y12_2 = true) then
                            some (.inr (.r0 (false) : law07_UndoBackR))
                          else
                          if ¬ ((y12_0 = (([(⟨(1 : Int), (0 : Int)⟩ : R_ii), (⟨(1 : Int), (1 : Int)⟩ : R_ii), (⟨(1 : Int), (2 : Int)⟩ : R_ii), (⟨(1 : Int), (3 : Int)⟩ : R_ii), (⟨(1 : Int), (4 : Int)⟩ : R_ii), (⟨(1 : Int), (5 : Int)⟩ : R_ii), (⟨(1 : Int), (6 : Int)⟩ : R_ii), (⟨(1 : Int), (7 : Int)⟩ : R_ii)] : List R_ii).getD ((Int.tmod (L1.getD v10 0) (8 : Int))).toNat R_ii.z).a0 ∧ y12_1 = (([(⟨(1 : Int), (0 : Int)⟩ : R_ii), (⟨(1 : Int), (1 : Int)⟩ : R_ii), (⟨(1 : Int), (2 : Int)⟩ : R_ii), (⟨(1 : Int), (3 : Int)⟩ : R_ii), (⟨(1 : Int), (4 : Int)⟩ : R_ii), (⟨(1 : Int), (5 : Int)⟩ : R_ii), (⟨(1 : Int), (6 : Int)⟩ : R_ii), (⟨(1 : Int), (7 : Int)⟩ : R_ii)] : List R_ii).getD ((Int.tmod (L1.getD v10 0) (8 : Int))).toNat R_ii.z).a1)) then
                            some (.inr (.r0 (false) : law07_UndoBackR))
                          else
                          some (.inl (.h2m1 ((v8.set ((Int.tmod (L1.getD v10 0) (8 : Int))).toNat (⟨(v8.getD ((Int.tmod (L1.getD v10 0) (8 : Int))).toNat R_ii.z).a0, (L5.getD v10 0)⟩ : R_ii))) ((v10 + 1)) (v12) : law07_UndoBackX))
                        )
                      else
                      none
                    | .r1 =>
                      if v10 < L5.length then
                        ((undo_Log_First ((0 : Int)) ((0 : Int)) ((Int.tmod (L1.getD v10 0) (8 : Int))) ((200 : Int)) ((v12 ++ ([(⟨(0 : Int), (0 : Int), (Int.tmod (L1.getD v10 0) (8 : Int)), (v8.getD ((Int.tmod (L1.getD v10 0) (8 : Int))).toNat R_ii.z).a0, (v8.getD ((Int.tmod (L1.getD v10 0) (8 : Int))).toNat R_ii.z).a1, false, (0 : Int)⟩ : R_iiiiibi)] : List R_iiiiibi))) N).bind fun r => match r with
                        | .r0 y11_0 y11_1 y11_2 =>
                          if ¬ (y11_2 = true) then
                            some (.inr (.r0 (false) : law07_UndoBackR))
                          else
                          if ¬ ((y11_0 = (([(⟨(1 : Int), (0 : Int)⟩ : R_ii), (⟨(1 : Int), (1 : Int)⟩ : R_ii), (⟨(1 : Int), (2 : Int)⟩ : R_ii), (⟨(1 : Int), (3 : Int)⟩ : R_ii), (⟨(1 : Int), (4 : Int)⟩ : R_ii), (⟨(1 : Int), (5 : Int)⟩ : R_ii), (⟨(1 : Int), (6 : Int)⟩ : R_ii), (⟨(1 : Int), (7 : Int)⟩ : R_ii)] : List R_ii).getD ((Int.tmod (L1.getD v10 0) (8 : Int))).toNat R_ii.z).a0 ∧ y11_1 = (([(⟨(1 : Int), (0 : Int)⟩ : R_ii), (⟨(1 : Int), (1 : Int)⟩ : R_ii), (⟨(1 : Int), (2 : Int)⟩ : R_ii), (⟨(1 : Int), (3 : Int)⟩ : R_ii), (⟨(1 : Int), (4 : Int)⟩ : R_ii), (⟨(1 : Int), (5 : Int)⟩ : R_ii), (⟨(1 : Int), (6 : Int)⟩ : R_ii), (⟨(1 : Int), (7 : Int)⟩ : R_ii)] : List R_ii).getD ((Int.tmod (L1.getD v10 0) (8 : Int))).toNat R_ii.z).a1)) then
                            some (.inr (.r0 (false) : law07_UndoBackR))
                          else
                          some (.inl (.h2m1 ((v8.set ((Int.tmod (L1.getD v10 0) (8 : Int))).toNat (⟨(v8.getD ((Int.tmod (L1.getD v10 0) (8 : Int))).toNat R_ii.z).a0, (L5.getD v10 0)⟩ : R_ii))) ((v10 + 1)) ((v12 ++ ([(⟨(0 : Int), (0 : Int), (Int.tmod (L1.getD v10 0) (8 : Int)), (v8.getD ((Int.tmod (L1.getD v10 0) (8 : Int))).toNat R_ii.z).a0, (v8.getD ((Int.tmod (L1.getD v10 0) (8 : Int))).toNat R_ii.z).a1, false, (0 : Int)⟩ : R_iiiiibi)] : List R_iiiiibi))) : law07_UndoBackX))
                        )
                      else
                      none
                    )
                  else
                  none
                else
                none
              else
              none
            else
            none
          else
          none
        else
        none
      else
      some (.inl (.h3m1 (v8) (v12) : law07_UndoBackX))
    else
    some (.inl (.h3m1 (v8) (v12) : law07_UndoBackX))
  else
  some (.inl (.h3m1 (v8) (v12) : law07_UndoBackX))

def law07_UndoBack_h3m0 (L1 : List Int) (n2 : Nat) (n3 : Nat) (L5 : List Int) (n6 : Nat) (n7 : Nat) (N : Nat) : Option (law07_UndoBackX ⊕ law07_UndoBackR) :=
  some (.inr (.r0 (true) : law07_UndoBackR))

def law07_UndoBack_h3m1 (L1 : List Int) (n2 : Nat) (n3 : Nat) (L5 : List Int) (n6 : Nat) (n7 : Nat) (N : Nat) (v4 : List R_ii) (v7 : List R_iiiiibi) : Option (law07_UndoBackX ⊕ law07_UndoBackR) :=
  if (0 : Int) < ((v7.length : Nat) : Int) then
    if (((v7.length : Nat) : Int) - (1 : Int)) ≤ (9223372036854775807 : Int) then
      if (v7.getD (v7.length - 1) R_iiiiibi.z).a2 < (0 : Int) then
        some (.inr (.r0 (false) : law07_UndoBackR))
      else
      if (7 : Int) < (v7.getD (v7.length - 1) R_iiiiibi.z).a2 then
        some (.inr (.r0 (false) : law07_UndoBackR))
      else
      if ((v7.getD (v7.length - 1) R_iiiiibi.z).a2).toNat < v4.length then
        some (.inl (.h3m2 ((v4.set ((v7.getD (v7.length - 1) R_iiiiibi.z).a2).toNat (⟨(v7.getD (v7.length - 1) R_iiiiibi.z).a3, (v7.getD (v7.length - 1) R_iiiiibi.z).a4⟩ : R_ii))) (v7) (((v7.length - 1) - 0)) ((v7.length - 0)) : law07_UndoBackX))
      else
      none
    else
    none
  else
  if v4.length = 8 then
    if (((v4.getD 0 R_ii.z).a0 = (1 : Int) ∧ (v4.getD 0 R_ii.z).a1 = (0 : Int)) ∧ ((v4.getD 1 R_ii.z).a0 = (1 : Int) ∧ (v4.getD 1 R_ii.z).a1 = (1 : Int)) ∧ ((v4.getD 2 R_ii.z).a0 = (1 : Int) ∧ (v4.getD 2 R_ii.z).a1 = (2 : Int)) ∧ ((v4.getD 3 R_ii.z).a0 = (1 : Int) ∧ (v4.getD 3 R_ii.z).a1 = (3 : Int)) ∧ ((v4.getD 4 R_ii.z).a0 = (1 : Int) ∧ (v4.getD 4 R_ii.z).a1 = (4 : Int)) ∧ ((v4.getD 5 R_ii.z).a0 = (1 : Int) ∧ (v4.getD 5 R_ii.z).a1 = (5 : Int)) ∧ ((v4.getD 6 R_ii.z).a0 = (1 : Int) ∧ (v4.getD 6 R_ii.z).a1 = (6 : Int)) ∧ ((v4.getD 7 R_ii.z).a0 = (1 : Int) ∧ (v4.getD 7 R_ii.z).a1 = (7 : Int))) then
      some (.inr (.r0 (true) : law07_UndoBackR))
    else
    some (.inr (.r0 (false) : law07_UndoBackR))
  else
  none

def law07_UndoBack_h3m2 (L1 : List Int) (n2 : Nat) (n3 : Nat) (L5 : List Int) (n6 : Nat) (n7 : Nat) (N : Nat) (v4 : List R_ii) (v7 : List R_iiiiibi) (v8 : Nat) (v9 : Nat) : Option (law07_UndoBackX ⊕ law07_UndoBackR) :=
  if (0 : Int) < ((v8 : Nat) : Int) then
    if (((v8 : Nat) : Int) - (1 : Int)) ≤ (9223372036854775807 : Int) then
      if (v8 - 1) < v7.length then
        if (((v8 - 1) : Nat) : Int) ≤ ((v9 : Nat) : Int) then
          if (v7.getD (v8 - 1) R_iiiiibi.z).a2 < (0 : Int) then
            some (.inr (.r0 (false) : law07_UndoBackR))
          else
          if (7 : Int) < (v7.getD (v8 - 1) R_iiiiibi.z).a2 then
            some (.inr (.r0 (false) : law07_UndoBackR))
          else
          if ((v7.getD (v8 - 1) R_iiiiibi.z).a2).toNat < v4.length then
            some (.inl (.h3m2 ((v4.set ((v7.getD (v8 - 1) R_iiiiibi.z).a2).toNat (⟨(v7.getD (v8 - 1) R_iiiiibi.z).a3, (v7.getD (v8 - 1) R_iiiiibi.z).a4⟩ : R_ii))) (v7) (((v8 - 1) - 0)) ((v9 - 0)) : law07_UndoBackX))
          else
          none
        else
        none
      else
      none
    else
    none
  else
  if v4.length = 8 then
    if (((v4.getD 0 R_ii.z).a0 = (1 : Int) ∧ (v4.getD 0 R_ii.z).a1 = (0 : Int)) ∧ ((v4.getD 1 R_ii.z).a0 = (1 : Int) ∧ (v4.getD 1 R_ii.z).a1 = (1 : Int)) ∧ ((v4.getD 2 R_ii.z).a0 = (1 : Int) ∧ (v4.getD 2 R_ii.z).a1 = (2 : Int)) ∧ ((v4.getD 3 R_ii.z).a0 = (1 : Int) ∧ (v4.getD 3 R_ii.z).a1 = (3 : Int)) ∧ ((v4.getD 4 R_ii.z).a0 = (1 : Int) ∧ (v4.getD 4 R_ii.z).a1 = (4 : Int)) ∧ ((v4.getD 5 R_ii.z).a0 = (1 : Int) ∧ (v4.getD 5 R_ii.z).a1 = (5 : Int)) ∧ ((v4.getD 6 R_ii.z).a0 = (1 : Int) ∧ (v4.getD 6 R_ii.z).a1 = (6 : Int)) ∧ ((v4.getD 7 R_ii.z).a0 = (1 : Int) ∧ (v4.getD 7 R_ii.z).a1 = (7 : Int))) then
      some (.inr (.r0 (true) : law07_UndoBackR))
    else
    some (.inr (.r0 (false) : law07_UndoBackR))
  else
  none

def law07_UndoBackStep (L1 : List Int) (n2 : Nat) (n3 : Nat) (L5 : List Int) (n6 : Nat) (n7 : Nat) (N : Nat) : law07_UndoBackX → Option (law07_UndoBackX ⊕ law07_UndoBackR)
  | .h1m0 => law07_UndoBack_h1m0 L1 n2 n3 L5 n6 n7 N
  | .h1m1 => law07_UndoBack_h1m1 L1 n2 n3 L5 n6 n7 N
  | .h1m2 => law07_UndoBack_h1m2 L1 n2 n3 L5 n6 n7 N
  | .h1m3 => law07_UndoBack_h1m3 L1 n2 n3 L5 n6 n7 N
  | .h1m4 => law07_UndoBack_h1m4 L1 n2 n3 L5 n6 n7 N
  | .h1m5 => law07_UndoBack_h1m5 L1 n2 n3 L5 n6 n7 N
  | .h1m6 => law07_UndoBack_h1m6 L1 n2 n3 L5 n6 n7 N
  | .h1m7 => law07_UndoBack_h1m7 L1 n2 n3 L5 n6 n7 N
  | .h1m8 => law07_UndoBack_h1m8 L1 n2 n3 L5 n6 n7 N
  | .h2m0 => law07_UndoBack_h2m0 L1 n2 n3 L5 n6 n7 N
  | .h2m1 v8 v10 v12 => law07_UndoBack_h2m1 L1 n2 n3 L5 n6 n7 N v8 v10 v12
  | .h3m0 => law07_UndoBack_h3m0 L1 n2 n3 L5 n6 n7 N
  | .h3m1 v4 v7 => law07_UndoBack_h3m1 L1 n2 n3 L5 n6 n7 N v4 v7
  | .h3m2 v4 v7 v8 v9 => law07_UndoBack_h3m2 L1 n2 n3 L5 n6 n7 N v4 v7 v8 v9

def law07_UndoBackIn (L1 : List Int) (n2 : Nat) (n3 : Nat) (L5 : List Int) (n6 : Nat) (n7 : Nat) (N : Nat) : Option (law07_UndoBackX ⊕ law07_UndoBackR) :=
  ((undo_New ((200 : Int)) N).bind fun r => match r with
  | .r0 =>
    some (.inr (.r0 (false) : law07_UndoBackR))
  | .r1 =>
    some (.inl (.h1m0 : law07_UndoBackX))
  )

def law07_UndoBack (L1 : List Int) (n2 : Nat) (n3 : Nat) (L5 : List Int) (n6 : Nat) (n7 : Nat) (N : Nat) : Option law07_UndoBackR := goM (law07_UndoBackStep L1 n2 n3 L5 n6 n7 N) N (law07_UndoBackIn L1 n2 n3 L5 n6 n7 N)

/-- gantlet/gantletlaw07.UndoBack -/
inductive law07_UndoBack_2R where
  | r0 (w2 : Bool)

inductive law07_UndoBack_2X where
  | h1m0
  | h1m1
  | h1m2
  | h1m3
  | h1m4
  | h1m5
  | h1m6
  | h1m7
  | h1m8
  | h2m0
  | h3m0

def law07_UndoBack_2_h1m0 (L1 : List Int) (n2 : Nat) (n3 : Nat) (N : Nat) : Option (law07_UndoBack_2X ⊕ law07_UndoBack_2R) :=
  some (.inl (.h1m1 : law07_UndoBack_2X))

def law07_UndoBack_2_h1m1 (L1 : List Int) (n2 : Nat) (n3 : Nat) (N : Nat) : Option (law07_UndoBack_2X ⊕ law07_UndoBack_2R) :=
  some (.inl (.h1m2 : law07_UndoBack_2X))

def law07_UndoBack_2_h1m2 (L1 : List Int) (n2 : Nat) (n3 : Nat) (N : Nat) : Option (law07_UndoBack_2X ⊕ law07_UndoBack_2R) :=
  some (.inl (.h1m3 : law07_UndoBack_2X))

def law07_UndoBack_2_h1m3 (L1 : List Int) (n2 : Nat) (n3 : Nat) (N : Nat) : Option (law07_UndoBack_2X ⊕ law07_UndoBack_2R) :=
  some (.inl (.h1m4 : law07_UndoBack_2X))

def law07_UndoBack_2_h1m4 (L1 : List Int) (n2 : Nat) (n3 : Nat) (N : Nat) : Option (law07_UndoBack_2X ⊕ law07_UndoBack_2R) :=
  some (.inl (.h1m5 : law07_UndoBack_2X))

def law07_UndoBack_2_h1m5 (L1 : List Int) (n2 : Nat) (n3 : Nat) (N : Nat) : Option (law07_UndoBack_2X ⊕ law07_UndoBack_2R) :=
  some (.inl (.h1m6 : law07_UndoBack_2X))

def law07_UndoBack_2_h1m6 (L1 : List Int) (n2 : Nat) (n3 : Nat) (N : Nat) : Option (law07_UndoBack_2X ⊕ law07_UndoBack_2R) :=
  some (.inl (.h1m7 : law07_UndoBack_2X))

def law07_UndoBack_2_h1m7 (L1 : List Int) (n2 : Nat) (n3 : Nat) (N : Nat) : Option (law07_UndoBack_2X ⊕ law07_UndoBack_2R) :=
  some (.inl (.h1m8 : law07_UndoBack_2X))

def law07_UndoBack_2_h1m8 (L1 : List Int) (n2 : Nat) (n3 : Nat) (N : Nat) : Option (law07_UndoBack_2X ⊕ law07_UndoBack_2R) :=
  some (.inl (.h2m0 : law07_UndoBack_2X))

def law07_UndoBack_2_h2m0 (L1 : List Int) (n2 : Nat) (n3 : Nat) (N : Nat) : Option (law07_UndoBack_2X ⊕ law07_UndoBack_2R) :=
  some (.inl (.h3m0 : law07_UndoBack_2X))

def law07_UndoBack_2_h3m0 (L1 : List Int) (n2 : Nat) (n3 : Nat) (N : Nat) : Option (law07_UndoBack_2X ⊕ law07_UndoBack_2R) :=
  some (.inr (.r0 (true) : law07_UndoBack_2R))

def law07_UndoBack_2Step (L1 : List Int) (n2 : Nat) (n3 : Nat) (N : Nat) : law07_UndoBack_2X → Option (law07_UndoBack_2X ⊕ law07_UndoBack_2R)
  | .h1m0 => law07_UndoBack_2_h1m0 L1 n2 n3 N
  | .h1m1 => law07_UndoBack_2_h1m1 L1 n2 n3 N
  | .h1m2 => law07_UndoBack_2_h1m2 L1 n2 n3 N
  | .h1m3 => law07_UndoBack_2_h1m3 L1 n2 n3 N
  | .h1m4 => law07_UndoBack_2_h1m4 L1 n2 n3 N
  | .h1m5 => law07_UndoBack_2_h1m5 L1 n2 n3 N
  | .h1m6 => law07_UndoBack_2_h1m6 L1 n2 n3 N
  | .h1m7 => law07_UndoBack_2_h1m7 L1 n2 n3 N
  | .h1m8 => law07_UndoBack_2_h1m8 L1 n2 n3 N
  | .h2m0 => law07_UndoBack_2_h2m0 L1 n2 n3 N
  | .h3m0 => law07_UndoBack_2_h3m0 L1 n2 n3 N

def law07_UndoBack_2In (L1 : List Int) (n2 : Nat) (n3 : Nat) (N : Nat) : Option (law07_UndoBack_2X ⊕ law07_UndoBack_2R) :=
  ((undo_New ((200 : Int)) N).bind fun r => match r with
  | .r0 =>
    some (.inr (.r0 (false) : law07_UndoBack_2R))
  | .r1 =>
    some (.inl (.h1m0 : law07_UndoBack_2X))
  )

def law07_UndoBack_2 (L1 : List Int) (n2 : Nat) (n3 : Nat) (N : Nat) : Option law07_UndoBack_2R := goM (law07_UndoBack_2Step L1 n2 n3 N) N (law07_UndoBack_2In L1 n2 n3 N)

/-- gantlet/gantletlaw07.UndoBack -/
inductive law07_UndoBack_3R where
  | r0 (w2 : Bool)

inductive law07_UndoBack_3X where
  | h1m0
  | h1m1
  | h1m2
  | h1m3
  | h1m4
  | h1m5
  | h1m6
  | h1m7
  | h1m8
  | h2m0
  | h3m0

def law07_UndoBack_3_h1m0 (L1 : List Int) (n2 : Nat) (n3 : Nat) (N : Nat) : Option (law07_UndoBack_3X ⊕ law07_UndoBack_3R) :=
  some (.inl (.h1m1 : law07_UndoBack_3X))

def law07_UndoBack_3_h1m1 (L1 : List Int) (n2 : Nat) (n3 : Nat) (N : Nat) : Option (law07_UndoBack_3X ⊕ law07_UndoBack_3R) :=
  some (.inl (.h1m2 : law07_UndoBack_3X))

def law07_UndoBack_3_h1m2 (L1 : List Int) (n2 : Nat) (n3 : Nat) (N : Nat) : Option (law07_UndoBack_3X ⊕ law07_UndoBack_3R) :=
  some (.inl (.h1m3 : law07_UndoBack_3X))

def law07_UndoBack_3_h1m3 (L1 : List Int) (n2 : Nat) (n3 : Nat) (N : Nat) : Option (law07_UndoBack_3X ⊕ law07_UndoBack_3R) :=
  some (.inl (.h1m4 : law07_UndoBack_3X))

def law07_UndoBack_3_h1m4 (L1 : List Int) (n2 : Nat) (n3 : Nat) (N : Nat) : Option (law07_UndoBack_3X ⊕ law07_UndoBack_3R) :=
  some (.inl (.h1m5 : law07_UndoBack_3X))

def law07_UndoBack_3_h1m5 (L1 : List Int) (n2 : Nat) (n3 : Nat) (N : Nat) : Option (law07_UndoBack_3X ⊕ law07_UndoBack_3R) :=
  some (.inl (.h1m6 : law07_UndoBack_3X))

def law07_UndoBack_3_h1m6 (L1 : List Int) (n2 : Nat) (n3 : Nat) (N : Nat) : Option (law07_UndoBack_3X ⊕ law07_UndoBack_3R) :=
  some (.inl (.h1m7 : law07_UndoBack_3X))

def law07_UndoBack_3_h1m7 (L1 : List Int) (n2 : Nat) (n3 : Nat) (N : Nat) : Option (law07_UndoBack_3X ⊕ law07_UndoBack_3R) :=
  some (.inl (.h1m8 : law07_UndoBack_3X))

def law07_UndoBack_3_h1m8 (L1 : List Int) (n2 : Nat) (n3 : Nat) (N : Nat) : Option (law07_UndoBack_3X ⊕ law07_UndoBack_3R) :=
  some (.inl (.h2m0 : law07_UndoBack_3X))

def law07_UndoBack_3_h2m0 (L1 : List Int) (n2 : Nat) (n3 : Nat) (N : Nat) : Option (law07_UndoBack_3X ⊕ law07_UndoBack_3R) :=
  some (.inl (.h3m0 : law07_UndoBack_3X))

def law07_UndoBack_3_h3m0 (L1 : List Int) (n2 : Nat) (n3 : Nat) (N : Nat) : Option (law07_UndoBack_3X ⊕ law07_UndoBack_3R) :=
  some (.inr (.r0 (true) : law07_UndoBack_3R))

def law07_UndoBack_3Step (L1 : List Int) (n2 : Nat) (n3 : Nat) (N : Nat) : law07_UndoBack_3X → Option (law07_UndoBack_3X ⊕ law07_UndoBack_3R)
  | .h1m0 => law07_UndoBack_3_h1m0 L1 n2 n3 N
  | .h1m1 => law07_UndoBack_3_h1m1 L1 n2 n3 N
  | .h1m2 => law07_UndoBack_3_h1m2 L1 n2 n3 N
  | .h1m3 => law07_UndoBack_3_h1m3 L1 n2 n3 N
  | .h1m4 => law07_UndoBack_3_h1m4 L1 n2 n3 N
  | .h1m5 => law07_UndoBack_3_h1m5 L1 n2 n3 N
  | .h1m6 => law07_UndoBack_3_h1m6 L1 n2 n3 N
  | .h1m7 => law07_UndoBack_3_h1m7 L1 n2 n3 N
  | .h1m8 => law07_UndoBack_3_h1m8 L1 n2 n3 N
  | .h2m0 => law07_UndoBack_3_h2m0 L1 n2 n3 N
  | .h3m0 => law07_UndoBack_3_h3m0 L1 n2 n3 N

def law07_UndoBack_3In (L1 : List Int) (n2 : Nat) (n3 : Nat) (N : Nat) : Option (law07_UndoBack_3X ⊕ law07_UndoBack_3R) :=
  ((undo_New ((200 : Int)) N).bind fun r => match r with
  | .r0 =>
    some (.inr (.r0 (false) : law07_UndoBack_3R))
  | .r1 =>
    some (.inl (.h1m0 : law07_UndoBack_3X))
  )

def law07_UndoBack_3 (L1 : List Int) (n2 : Nat) (n3 : Nat) (N : Nat) : Option law07_UndoBack_3R := goM (law07_UndoBack_3Step L1 n2 n3 N) N (law07_UndoBack_3In L1 n2 n3 N)

/-- gantlet/gantletlaw07.UndoBack -/
inductive law07_UndoBack_4R where
  | r0 (w0 : Bool)

inductive law07_UndoBack_4X where
  | h1m0
  | h1m1
  | h1m2
  | h1m3
  | h1m4
  | h1m5
  | h1m6
  | h1m7
  | h1m8
  | h2m0
  | h3m0

def law07_UndoBack_4_h1m0  (N : Nat) : Option (law07_UndoBack_4X ⊕ law07_UndoBack_4R) :=
  some (.inl (.h1m1 : law07_UndoBack_4X))

def law07_UndoBack_4_h1m1  (N : Nat) : Option (law07_UndoBack_4X ⊕ law07_UndoBack_4R) :=
  some (.inl (.h1m2 : law07_UndoBack_4X))

def law07_UndoBack_4_h1m2  (N : Nat) : Option (law07_UndoBack_4X ⊕ law07_UndoBack_4R) :=
  some (.inl (.h1m3 : law07_UndoBack_4X))

def law07_UndoBack_4_h1m3  (N : Nat) : Option (law07_UndoBack_4X ⊕ law07_UndoBack_4R) :=
  some (.inl (.h1m4 : law07_UndoBack_4X))

def law07_UndoBack_4_h1m4  (N : Nat) : Option (law07_UndoBack_4X ⊕ law07_UndoBack_4R) :=
  some (.inl (.h1m5 : law07_UndoBack_4X))

def law07_UndoBack_4_h1m5  (N : Nat) : Option (law07_UndoBack_4X ⊕ law07_UndoBack_4R) :=
  some (.inl (.h1m6 : law07_UndoBack_4X))

def law07_UndoBack_4_h1m6  (N : Nat) : Option (law07_UndoBack_4X ⊕ law07_UndoBack_4R) :=
  some (.inl (.h1m7 : law07_UndoBack_4X))

def law07_UndoBack_4_h1m7  (N : Nat) : Option (law07_UndoBack_4X ⊕ law07_UndoBack_4R) :=
  some (.inl (.h1m8 : law07_UndoBack_4X))

def law07_UndoBack_4_h1m8  (N : Nat) : Option (law07_UndoBack_4X ⊕ law07_UndoBack_4R) :=
  some (.inl (.h2m0 : law07_UndoBack_4X))

def law07_UndoBack_4_h2m0  (N : Nat) : Option (law07_UndoBack_4X ⊕ law07_UndoBack_4R) :=
  some (.inl (.h3m0 : law07_UndoBack_4X))

def law07_UndoBack_4_h3m0  (N : Nat) : Option (law07_UndoBack_4X ⊕ law07_UndoBack_4R) :=
  some (.inr (.r0 (true) : law07_UndoBack_4R))

def law07_UndoBack_4Step  (N : Nat) : law07_UndoBack_4X → Option (law07_UndoBack_4X ⊕ law07_UndoBack_4R)
  | .h1m0 => law07_UndoBack_4_h1m0  N
  | .h1m1 => law07_UndoBack_4_h1m1  N
  | .h1m2 => law07_UndoBack_4_h1m2  N
  | .h1m3 => law07_UndoBack_4_h1m3  N
  | .h1m4 => law07_UndoBack_4_h1m4  N
  | .h1m5 => law07_UndoBack_4_h1m5  N
  | .h1m6 => law07_UndoBack_4_h1m6  N
  | .h1m7 => law07_UndoBack_4_h1m7  N
  | .h1m8 => law07_UndoBack_4_h1m8  N
  | .h2m0 => law07_UndoBack_4_h2m0  N
  | .h3m0 => law07_UndoBack_4_h3m0  N

def law07_UndoBack_4In  (N : Nat) : Option (law07_UndoBack_4X ⊕ law07_UndoBack_4R) :=
  ((undo_New ((200 : Int)) N).bind fun r => match r with
  | .r0 =>
    some (.inr (.r0 (false) : law07_UndoBack_4R))
  | .r1 =>
    some (.inl (.h1m0 : law07_UndoBack_4X))
  )

def law07_UndoBack_4  (N : Nat) : Option law07_UndoBack_4R := goM (law07_UndoBack_4Step  N) N (law07_UndoBack_4In  N)
end Ev
end Go.Proofs.Ytjamgoohhcdaeaa
