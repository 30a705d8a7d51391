/- Records, and the program's functions as plain ones. -/
import Derived.Test.YtnahodeffgoccaaFm
namespace Go.Proofs.Ytnahodeffgoccaa
open Go.RowKit
namespace Ev
set_option linter.unusedVariables false
structure R_ii where
  a0 : Int
  a1 : Int
def R_ii.z : R_ii := ⟨0, 0⟩
structure R_iiii where
  a0 : Int
  a1 : Int
  a2 : Int
  a3 : Int
def R_iiii.z : R_iiii := ⟨0, 0, 0, 0⟩
/-- gantlet/instr.kind -/
inductive instr_kindR where
  | r0
  | r1
  | r2
  | r3
  | r4
  | r5
  | r6
  | r7
  | r8
  | r9
  | r10
  | r11
  | r12
  | r13
  | r14
  | r15
  | r16
  | r17
  | r18
  | r19
  | r20

def instr_kind (a0 : Int) (N : Nat) : Option instr_kindR :=
  if a0 < (0 : Int) then
    some (.r0 : instr_kindR)
  else
  if (21 : Int) ≤ a0 then
    some (.r0 : instr_kindR)
  else
  if a0 = (0 : Int) then
    some (.r0 : instr_kindR)
  else
  if a0 = (1 : Int) then
    some (.r1 : instr_kindR)
  else
  if a0 = (2 : Int) then
    some (.r2 : instr_kindR)
  else
  if a0 = (3 : Int) then
    some (.r3 : instr_kindR)
  else
  if a0 = (4 : Int) then
    some (.r4 : instr_kindR)
  else
  if a0 = (5 : Int) then
    some (.r5 : instr_kindR)
  else
  if a0 = (6 : Int) then
    some (.r6 : instr_kindR)
  else
  if a0 = (7 : Int) then
    some (.r7 : instr_kindR)
  else
  if a0 = (8 : Int) then
    some (.r8 : instr_kindR)
  else
  if a0 = (9 : Int) then
    some (.r9 : instr_kindR)
  else
  if a0 = (10 : Int) then
    some (.r10 : instr_kindR)
  else
  if a0 = (11 : Int) then
    some (.r11 : instr_kindR)
  else
  if a0 = (12 : Int) then
    some (.r12 : instr_kindR)
  else
  if a0 = (13 : Int) then
    some (.r13 : instr_kindR)
  else
  if a0 = (14 : Int) then
    some (.r14 : instr_kindR)
  else
  if a0 = (15 : Int) then
    some (.r15 : instr_kindR)
  else
  if a0 = (16 : Int) then
    some (.r16 : instr_kindR)
  else
  if a0 = (17 : Int) then
    some (.r17 : instr_kindR)
  else
  if a0 = (18 : Int) then
    some (.r18 : instr_kindR)
  else
  if a0 = (19 : Int) then
    some (.r19 : instr_kindR)
  else
  some (.r20 : instr_kindR)

/-- (gantlet/instr.shape).fits -/
inductive instr_shape_fitsR where
  | r0 (w0 : Bool)

def instr_shape_fits (a0 : Int) (a1 : Int) (a2 : Int) (N : Nat) : Option instr_shape_fitsR :=
  if a0 = (1 : Int) then
    if (0 : Int) ≤ a1 then
      if a1 ≤ (7 : Int) then
        some (.r0 (true) : instr_shape_fitsR)
      else
      some (.r0 (false) : instr_shape_fitsR)
    else
    some (.r0 (false) : instr_shape_fitsR)
  else
  if a0 = (2 : Int) then
    if (0 : Int) ≤ a1 then
      if a1 ≤ (15 : Int) then
        some (.r0 (true) : instr_shape_fitsR)
      else
      some (.r0 (false) : instr_shape_fitsR)
    else
    some (.r0 (false) : instr_shape_fitsR)
  else
  if a0 = (3 : Int) then
    if (1 : Int) ≤ a1 then
      if a1 ≤ (16 : Int) then
        some (.r0 (true) : instr_shape_fitsR)
      else
      some (.r0 (false) : instr_shape_fitsR)
    else
    some (.r0 (false) : instr_shape_fitsR)
  else
  if a0 = (4 : Int) then
    if (0 : Int) ≤ a1 then
      if a1 ≤ (512 : Int) then
        some (.r0 (true) : instr_shape_fitsR)
      else
      some (.r0 (false) : instr_shape_fitsR)
    else
    some (.r0 (false) : instr_shape_fitsR)
  else
  if a0 = (5 : Int) then
    if (0 : Int) ≤ a2 then
      if a2 ≤ (64 : Int) then
        if (0 : Int) ≤ a1 then
          if a1 ≤ (IntKind.i64.wrap ((IntKind.i64.wrap ((1 : Int) * (2 ^ (a2).toNat : Int))) - (1 : Int))) then
            some (.r0 (true) : instr_shape_fitsR)
          else
          some (.r0 (false) : instr_shape_fitsR)
        else
        some (.r0 (false) : instr_shape_fitsR)
      else
      none
    else
    none
  else
  if a0 = (6 : Int) then
    if (-1099511627776 : Int) ≤ a1 then
      if a1 ≤ (1099511627776 : Int) then
        some (.r0 (true) : instr_shape_fitsR)
      else
      some (.r0 (false) : instr_shape_fitsR)
    else
    some (.r0 (false) : instr_shape_fitsR)
  else
  if (0 : Int) ≤ a1 then
    if a1 ≤ (0 : Int) then
      some (.r0 (true) : instr_shape_fitsR)
    else
    some (.r0 (false) : instr_shape_fitsR)
  else
  some (.r0 (false) : instr_shape_fitsR)

/-- gantlet/instr.Check -/
inductive instr_CheckR where
  | r0 (w0 : Int)

inductive instr_CheckX where
  | h1m0 (v1 : Nat) (v2 : Nat) (v3 : Nat)
  | h1m1 (v1 : Nat) (v2 : Nat) (v3 : Nat)
  | h1m2 (v1 : Nat) (v2 : Nat) (v3 : Nat)
  | h1m3 (v1 : Nat) (v2 : Nat) (v3 : Nat)

def instr_Check_h1m0 (a0 : Int) (a1 : Int) (a2 : Int) (a3 : Int) (N : Nat) (v1 : Nat) (v2 : Nat) (v3 : Nat) : Option (instr_CheckX ⊕ instr_CheckR) :=
  ((instr_shape_fits (((v1 : Nat) : Int)) (a1) ((0 : Int)) N).bind fun r => match r with
  | .r0 y0_0 =>
    if ¬ (y0_0 = true) then
      some (.inr (.r0 ((100 : Int)) : instr_CheckR))
    else
    some (.inl (.h1m1 (v1) (v2) (v3) : instr_CheckX))
  )

def instr_Check_h1m1 (a0 : Int) (a1 : Int) (a2 : Int) (a3 : Int) (N : Nat) (v1 : Nat) (v2 : Nat) (v3 : Nat) : Option (instr_CheckX ⊕ instr_CheckR) :=
  ((instr_shape_fits (((v2 : Nat) : Int)) (a2) (a1) N).bind fun r => match r with
  | .r0 y0_0 =>
    if ¬ (y0_0 = true) then
      some (.inr (.r0 ((100 : Int)) : instr_CheckR))
    else
    some (.inl (.h1m2 (v1) (v2) (v3) : instr_CheckX))
  )

def instr_Check_h1m2 (a0 : Int) (a1 : Int) (a2 : Int) (a3 : Int) (N : Nat) (v1 : Nat) (v2 : Nat) (v3 : Nat) : Option (instr_CheckX ⊕ instr_CheckR) :=
  ((instr_shape_fits (((v3 : Nat) : Int)) (a3) (a2) N).bind fun r => match r with
  | .r0 y0_0 =>
    if ¬ (y0_0 = true) then
      some (.inr (.r0 ((100 : Int)) : instr_CheckR))
    else
    some (.inl (.h1m3 (v1) (v2) (v3) : instr_CheckX))
  )

def instr_Check_h1m3 (a0 : Int) (a1 : Int) (a2 : Int) (a3 : Int) (N : Nat) (v1 : Nat) (v2 : Nat) (v3 : Nat) : Option (instr_CheckX ⊕ instr_CheckR) :=
  some (.inr (.r0 ((0 : Int)) : instr_CheckR))

def instr_CheckStep (a0 : Int) (a1 : Int) (a2 : Int) (a3 : Int) (N : Nat) : instr_CheckX → Option (instr_CheckX ⊕ instr_CheckR)
  | .h1m0 v1 v2 v3 => instr_Check_h1m0 a0 a1 a2 a3 N v1 v2 v3
  | .h1m1 v1 v2 v3 => instr_Check_h1m1 a0 a1 a2 a3 N v1 v2 v3
  | .h1m2 v1 v2 v3 => instr_Check_h1m2 a0 a1 a2 a3 N v1 v2 v3
  | .h1m3 v1 v2 v3 => instr_Check_h1m3 a0 a1 a2 a3 N v1 v2 v3

def instr_CheckIn (a0 : Int) (a1 : Int) (a2 : Int) (a3 : Int) (N : Nat) : Option (instr_CheckX ⊕ instr_CheckR) :=
  ((instr_kind (a0) N).bind fun r => match r with
  | .r0 =>
    some (.inr (.r0 ((100 : Int)) : instr_CheckR))
  | .r1 =>
    some (.inl (.h1m0 (1) (6) (0) : instr_CheckX))
  | .r2 =>
    some (.inl (.h1m0 (1) (0) (0) : instr_CheckX))
  | .r3 =>
    some (.inl (.h1m0 (1) (1) (0) : instr_CheckX))
  | .r4 =>
    some (.inl (.h1m0 (1) (1) (1) : instr_CheckX))
  | .r5 =>
    some (.inl (.h1m0 (1) (1) (1) : instr_CheckX))
  | .r6 =>
    some (.inl (.h1m0 (1) (1) (1) : instr_CheckX))
  | .r7 =>
    some (.inl (.h1m0 (1) (1) (1) : instr_CheckX))
  | .r8 =>
    some (.inl (.h1m0 (4) (0) (0) : instr_CheckX))
  | .r9 =>
    some (.inl (.h1m0 (1) (4) (0) : instr_CheckX))
  | .r10 =>
    some (.inl (.h1m0 (1) (0) (0) : instr_CheckX))
  | .r11 =>
    some (.inl (.h1m0 (1) (3) (5) : instr_CheckX))
  | .r12 =>
    some (.inl (.h1m0 (1) (0) (0) : instr_CheckX))
  | .r13 =>
    some (.inl (.h1m0 (1) (1) (2) : instr_CheckX))
  | .r14 =>
    some (.inl (.h1m0 (1) (2) (1) : instr_CheckX))
  | .r15 =>
    some (.inl (.h1m0 (0) (0) (0) : instr_CheckX))
  | .r16 =>
    some (.inl (.h1m0 (0) (0) (0) : instr_CheckX))
  | .r17 =>
    some (.inl (.h1m0 (0) (0) (0) : instr_CheckX))
  | .r18 =>
    some (.inl (.h1m0 (0) (0) (0) : instr_CheckX))
  | .r19 =>
    some (.inl (.h1m0 (1) (0) (0) : instr_CheckX))
  | .r20 =>
    some (.inl (.h1m0 (0) (0) (0) : instr_CheckX))
  )

def instr_Check (a0 : Int) (a1 : Int) (a2 : Int) (a3 : Int) (N : Nat) : Option instr_CheckR := goM (instr_CheckStep a0 a1 a2 a3 N) N (instr_CheckIn a0 a1 a2 a3 N)

/-- gantlet/value.Add -/
inductive value_AddR where
  | r0 (w0 : Int) (w1 : Int) (w2 : Int)

def value_Add (a0 : Int) (a1 : Int) (a2 : Int) (a3 : Int) (N : Nat) : Option value_AddR :=
  if a0 = (1 : Int) then
    if a2 = (1 : Int) then
      some (.r0 ((1 : Int)) ((IntKind.i64.wrap (a1 + a3))) ((0 : Int)) : value_AddR)
    else
    some (.r0 ((0 : Int)) ((0 : Int)) ((10 : Int)) : value_AddR)
  else
  some (.r0 ((0 : Int)) ((0 : Int)) ((10 : Int)) : value_AddR)

/-- gantlet/value.Sub -/
inductive value_SubR where
  | r0 (w0 : Int) (w1 : Int) (w2 : Int)

def value_Sub (a0 : Int) (a1 : Int) (a2 : Int) (a3 : Int) (N : Nat) : Option value_SubR :=
  if a0 = (1 : Int) then
    if a2 = (1 : Int) then
      some (.r0 ((1 : Int)) ((IntKind.i64.wrap (a1 - a3))) ((0 : Int)) : value_SubR)
    else
    some (.r0 ((0 : Int)) ((0 : Int)) ((10 : Int)) : value_SubR)
  else
  some (.r0 ((0 : Int)) ((0 : Int)) ((10 : Int)) : value_SubR)

/-- gantlet/value.Less -/
inductive value_LessR where
  | r0 (w0 : Int) (w1 : Int) (w2 : Int)

def value_Less (a0 : Int) (a1 : Int) (a2 : Int) (a3 : Int) (N : Nat) : Option value_LessR :=
  if a0 = (1 : Int) then
    if a2 = (1 : Int) then
      if a1 < a3 then
        some (.r0 ((1 : Int)) ((1 : Int)) ((0 : Int)) : value_LessR)
      else
      some (.r0 ((1 : Int)) ((0 : Int)) ((0 : Int)) : value_LessR)
    else
    some (.r0 ((0 : Int)) ((0 : Int)) ((10 : Int)) : value_LessR)
  else
  some (.r0 ((0 : Int)) ((0 : Int)) ((10 : Int)) : value_LessR)

/-- gantlet/regs.result -/
inductive regs_resultR where
  | r0 (w0 : Int) (w1 : Int) (w2 : Int)

def regs_result (a0 : Int) (a1 : Int) (a2 : Int) (a3 : Int) (a4 : Int) (a5 : Int) (a6 : Int) (a7 : Int) (a8 : Int) (a9 : Int) (a10 : Int) (a11 : Int) (a12 : Int) (a13 : Int) (a14 : Int) (a15 : Int) (a16 : Int) (a17 : Int) (a18 : Int) (a19 : Int) (a20 : Int) (a21 : Int) (N : Nat) : Option regs_resultR :=
  if a16 = (1 : Int) then
    some (.r0 ((1 : Int)) (a18) ((0 : Int)) : regs_resultR)
  else
  if a16 = (2 : Int) then
    some (.r0 ((2 : Int)) ((0 : Int)) ((0 : Int)) : regs_resultR)
  else
  if a16 = (3 : Int) then
    if (0 : Int) ≤ a18 then
      if (a18).toNat < 8 then
        some (.r0 ((([(⟨a0, a1⟩ : R_ii), (⟨a2, a3⟩ : R_ii), (⟨a4, a5⟩ : R_ii), (⟨a6, a7⟩ : R_ii), (⟨a8, a9⟩ : R_ii), (⟨a10, a11⟩ : R_ii), (⟨a12, a13⟩ : R_ii), (⟨a14, a15⟩ : R_ii)] : List R_ii).getD (a18).toNat R_ii.z).a0) ((([(⟨a0, a1⟩ : R_ii), (⟨a2, a3⟩ : R_ii), (⟨a4, a5⟩ : R_ii), (⟨a6, a7⟩ : R_ii), (⟨a8, a9⟩ : R_ii), (⟨a10, a11⟩ : R_ii), (⟨a12, a13⟩ : R_ii), (⟨a14, a15⟩ : R_ii)] : List R_ii).getD (a18).toNat R_ii.z).a1) ((0 : Int)) : regs_resultR)
      else
      none
    else
    none
  else
  if a16 = (4 : Int) then
    if (0 : Int) ≤ a18 then
      if (a18).toNat < 8 then
        if (0 : Int) ≤ a19 then
          if (a19).toNat < 8 then
            ((value_Add ((([(⟨a0, a1⟩ : R_ii), (⟨a2, a3⟩ : R_ii), (⟨a4, a5⟩ : R_ii), (⟨a6, a7⟩ : R_ii), (⟨a8, a9⟩ : R_ii), (⟨a10, a11⟩ : R_ii), (⟨a12, a13⟩ : R_ii), (⟨a14, a15⟩ : R_ii)] : List R_ii).getD (a18).toNat R_ii.z).a0) ((([(⟨a0, a1⟩ : R_ii), (⟨a2, a3⟩ : R_ii), (⟨a4, a5⟩ : R_ii), (⟨a6, a7⟩ : R_ii), (⟨a8, a9⟩ : R_ii), (⟨a10, a11⟩ : R_ii), (⟨a12, a13⟩ : R_ii), (⟨a14, a15⟩ : R_ii)] : List R_ii).getD (a18).toNat R_ii.z).a1) ((([(⟨a0, a1⟩ : R_ii), (⟨a2, a3⟩ : R_ii), (⟨a4, a5⟩ : R_ii), (⟨a6, a7⟩ : R_ii), (⟨a8, a9⟩ : R_ii), (⟨a10, a11⟩ : R_ii), (⟨a12, a13⟩ : R_ii), (⟨a14, a15⟩ : R_ii)] : List R_ii).getD (a19).toNat R_ii.z).a0) ((([(⟨a0, a1⟩ : R_ii), (⟨a2, a3⟩ : R_ii), (⟨a4, a5⟩ : R_ii), (⟨a6, a7⟩ : R_ii), (⟨a8, a9⟩ : R_ii), (⟨a10, a11⟩ : R_ii), (⟨a12, a13⟩ : R_ii), (⟨a14, a15⟩ : R_ii)] : List R_ii).getD (a19).toNat R_ii.z).a1) N).bind fun r => match r with
            | .r0 y8_0 y8_1 y8_2 =>
              some (.r0 (y8_0) (y8_1) (y8_2) : regs_resultR)
            )
          else
          none
        else
        none
      else
      none
    else
    none
  else
  if a16 = (5 : Int) then
    if (0 : Int) ≤ a18 then
      if (a18).toNat < 8 then
        if (0 : Int) ≤ a19 then
          if (a19).toNat < 8 then
            ((value_Sub ((([(⟨a0, a1⟩ : R_ii), (⟨a2, a3⟩ : R_ii), (⟨a4, a5⟩ : R_ii), (⟨a6, a7⟩ : R_ii), (⟨a8, a9⟩ : R_ii), (⟨a10, a11⟩ : R_ii), (⟨a12, a13⟩ : R_ii), (⟨a14, a15⟩ : R_ii)] : List R_ii).getD (a18).toNat R_ii.z).a0) ((([(⟨a0, a1⟩ : R_ii), (⟨a2, a3⟩ : R_ii), (⟨a4, a5⟩ : R_ii), (⟨a6, a7⟩ : R_ii), (⟨a8, a9⟩ : R_ii), (⟨a10, a11⟩ : R_ii), (⟨a12, a13⟩ : R_ii), (⟨a14, a15⟩ : R_ii)] : List R_ii).getD (a18).toNat R_ii.z).a1) ((([(⟨a0, a1⟩ : R_ii), (⟨a2, a3⟩ : R_ii), (⟨a4, a5⟩ : R_ii), (⟨a6, a7⟩ : R_ii), (⟨a8, a9⟩ : R_ii), (⟨a10, a11⟩ : R_ii), (⟨a12, a13⟩ : R_ii), (⟨a14, a15⟩ : R_ii)] : List R_ii).getD (a19).toNat R_ii.z).a0) ((([(⟨a0, a1⟩ : R_ii), (⟨a2, a3⟩ : R_ii), (⟨a4, a5⟩ : R_ii), (⟨a6, a7⟩ : R_ii), (⟨a8, a9⟩ : R_ii), (⟨a10, a11⟩ : R_ii), (⟨a12, a13⟩ : R_ii), (⟨a14, a15⟩ : R_ii)] : List R_ii).getD (a19).toNat R_ii.z).a1) N).bind fun r => match r with
            | .r0 y9_0 y9_1 y9_2 =>
              some (.r0 (y9_0) (y9_1) (y9_2) : regs_resultR)
            )
          else
          none
        else
        none
      else
      none
    else
    none
  else
  if a16 = (6 : Int) then
    if (0 : Int) ≤ a18 then
      if (a18).toNat < 8 then
        if (0 : Int) ≤ a19 then
          if (a19).toNat < 8 then
            ((value_Less ((([(⟨a0, a1⟩ : R_ii), (⟨a2, a3⟩ : R_ii), (⟨a4, a5⟩ : R_ii), (⟨a6, a7⟩ : R_ii), (⟨a8, a9⟩ : R_ii), (⟨a10, a11⟩ : R_ii), (⟨a12, a13⟩ : R_ii), (⟨a14, a15⟩ : R_ii)] : List R_ii).getD (a18).toNat R_ii.z).a0) ((([(⟨a0, a1⟩ : R_ii), (⟨a2, a3⟩ : R_ii), (⟨a4, a5⟩ : R_ii), (⟨a6, a7⟩ : R_ii), (⟨a8, a9⟩ : R_ii), (⟨a10, a11⟩ : R_ii), (⟨a12, a13⟩ : R_ii), (⟨a14, a15⟩ : R_ii)] : List R_ii).getD (a18).toNat R_ii.z).a1) ((([(⟨a0, a1⟩ : R_ii), (⟨a2, a3⟩ : R_ii), (⟨a4, a5⟩ : R_ii), (⟨a6, a7⟩ : R_ii), (⟨a8, a9⟩ : R_ii), (⟨a10, a11⟩ : R_ii), (⟨a12, a13⟩ : R_ii), (⟨a14, a15⟩ : R_ii)] : List R_ii).getD (a19).toNat R_ii.z).a0) ((([(⟨a0, a1⟩ : R_ii), (⟨a2, a3⟩ : R_ii), (⟨a4, a5⟩ : R_ii), (⟨a6, a7⟩ : R_ii), (⟨a8, a9⟩ : R_ii), (⟨a10, a11⟩ : R_ii), (⟨a12, a13⟩ : R_ii), (⟨a14, a15⟩ : R_ii)] : List R_ii).getD (a19).toNat R_ii.z).a1) N).bind fun r => match r with
            | .r0 y10_0 y10_1 y10_2 =>
              some (.r0 (y10_0) (y10_1) (y10_2) : regs_resultR)
            )
          else
          none
        else
        none
      else
      none
    else
    none
  else
  if a16 = (7 : Int) then
    if (0 : Int) ≤ a18 then
      if (a18).toNat < 8 then
        if (0 : Int) ≤ a19 then
          if (a19).toNat < 8 then
            if ((([(⟨a0, a1⟩ : R_ii), (⟨a2, a3⟩ : R_ii), (⟨a4, a5⟩ : R_ii), (⟨a6, a7⟩ : R_ii), (⟨a8, a9⟩ : R_ii), (⟨a10, a11⟩ : R_ii), (⟨a12, a13⟩ : R_ii), (⟨a14, a15⟩ : R_ii)] : List R_ii).getD (a18).toNat R_ii.z).a0 = (([(⟨a0, a1⟩ : R_ii), (⟨a2, a3⟩ : R_ii), (⟨a4, a5⟩ : R_ii), (⟨a6, a7⟩ : R_ii), (⟨a8, a9⟩ : R_ii), (⟨a10, a11⟩ : R_ii), (⟨a12, a13⟩ : R_ii), (⟨a14, a15⟩ : R_ii)] : List R_ii).getD (a19).toNat R_ii.z).a0 ∧ (([(⟨a0, a1⟩ : R_ii), (⟨a2, a3⟩ : R_ii), (⟨a4, a5⟩ : R_ii), (⟨a6, a7⟩ : R_ii), (⟨a8, a9⟩ : R_ii), (⟨a10, a11⟩ : R_ii), (⟨a12, a13⟩ : R_ii), (⟨a14, a15⟩ : R_ii)] : List R_ii).getD (a18).toNat R_ii.z).a1 = (([(⟨a0, a1⟩ : R_ii), (⟨a2, a3⟩ : R_ii), (⟨a4, a5⟩ : R_ii), (⟨a6, a7⟩ : R_ii), (⟨a8, a9⟩ : R_ii), (⟨a10, a11⟩ : R_ii), (⟨a12, a13⟩ : R_ii), (⟨a14, a15⟩ : R_ii)] : List R_ii).getD (a19).toNat R_ii.z).a1) then
              some (.r0 ((1 : Int)) ((1 : Int)) ((0 : Int)) : regs_resultR)
            else
            some (.r0 ((1 : Int)) ((0 : Int)) ((0 : Int)) : regs_resultR)
          else
          none
        else
        none
      else
      none
    else
    none
  else
  if a16 = (10 : Int) then
    some (.r0 (a20) (a21) ((0 : Int)) : regs_resultR)
  else
  if a16 = (19 : Int) then
    if (0 : Int) ≤ a17 then
      if (a17).toNat < 8 then
        some (.r0 ((([(⟨a0, a1⟩ : R_ii), (⟨a2, a3⟩ : R_ii), (⟨a4, a5⟩ : R_ii), (⟨a6, a7⟩ : R_ii), (⟨a8, a9⟩ : R_ii), (⟨a10, a11⟩ : R_ii), (⟨a12, a13⟩ : R_ii), (⟨a14, a15⟩ : R_ii)] : List R_ii).getD (a17).toNat R_ii.z).a0) ((([(⟨a0, a1⟩ : R_ii), (⟨a2, a3⟩ : R_ii), (⟨a4, a5⟩ : R_ii), (⟨a6, a7⟩ : R_ii), (⟨a8, a9⟩ : R_ii), (⟨a10, a11⟩ : R_ii), (⟨a12, a13⟩ : R_ii), (⟨a14, a15⟩ : R_ii)] : List R_ii).getD (a17).toNat R_ii.z).a1) ((0 : Int)) : regs_resultR)
      else
      none
    else
    none
  else
  some (.r0 ((0 : Int)) ((0 : Int)) ((0 : Int)) : regs_resultR)

/-- gantlet/instr.Target -/
inductive instr_TargetR where
  | r0 (w0 : Int) (w1 : Bool)

def instr_Target (a0 : Int) (a1 : Int) (a2 : Int) (a3 : Int) (N : Nat) : Option instr_TargetR :=
  if a0 = (8 : Int) then
    some (.r0 (a1) (true) : instr_TargetR)
  else
  if a0 = (9 : Int) then
    some (.r0 (a2) (true) : instr_TargetR)
  else
  some (.r0 ((0 : Int)) (false) : instr_TargetR)

/-- gantlet/regs.Put -/
inductive regs_PutR where
  | r0 (w0 : Int) (w1 : Int) (w2 : Int) (w3 : Int) (w4 : Int) (w5 : Int) (w6 : Int) (w7 : Int) (w8 : Int) (w9 : Int) (w10 : Int) (w11 : Int) (w12 : Int) (w13 : Int) (w14 : Int) (w15 : Int)

def regs_Put (a0 : Int) (a1 : Int) (a2 : Int) (a3 : Int) (a4 : Int) (a5 : Int) (a6 : Int) (a7 : Int) (a8 : Int) (a9 : Int) (a10 : Int) (a11 : Int) (a12 : Int) (a13 : Int) (a14 : Int) (a15 : Int) (a16 : Int) (a17 : Int) (a18 : Int) (N : Nat) : Option regs_PutR :=
  if (0 : Int) ≤ a16 then
    if a16 < (8 : Int) then
      some (.r0 (((([(⟨a0, a1⟩ : R_ii), (⟨a2, a3⟩ : R_ii), (⟨a4, a5⟩ : R_ii), (⟨a6, a7⟩ : R_ii), (⟨a8, a9⟩ : R_ii), (⟨a10, a11⟩ : R_ii), (⟨a12, a13⟩ : R_ii), (⟨a14, a15⟩ : R_ii)] : List R_ii).set (a16).toNat (⟨a17, a18⟩ : R_ii)).getD 0 R_ii.z).a0) (((([(⟨a0, a1⟩ : R_ii), (⟨a2, a3⟩ : R_ii), (⟨a4, a5⟩ : R_ii), (⟨a6, a7⟩ : R_ii), (⟨a8, a9⟩ : R_ii), (⟨a10, a11⟩ : R_ii), (⟨a12, a13⟩ : R_ii), (⟨a14, a15⟩ : R_ii)] : List R_ii).set (a16).toNat (⟨a17, a18⟩ : R_ii)).getD 0 R_ii.z).a1) (((([(⟨a0, a1⟩ : R_ii), (⟨a2, a3⟩ : R_ii), (⟨a4, a5⟩ : R_ii), (⟨a6, a7⟩ : R_ii), (⟨a8, a9⟩ : R_ii), (⟨a10, a11⟩ : R_ii), (⟨a12, a13⟩ : R_ii), (⟨a14, a15⟩ : R_ii)] : List R_ii).set (a16).toNat (⟨a17, a18⟩ : R_ii)).getD 1 R_ii.z).a0) (((([(⟨a0, a1⟩ : R_ii), (⟨a2, a3⟩ : R_ii), (⟨a4, a5⟩ : R_ii), (⟨a6, a7⟩ : R_ii), (⟨a8, a9⟩ : R_ii), (⟨a10, a11⟩ : R_ii), (⟨a12, a13⟩ : R_ii), (⟨a14, a15⟩ : R_ii)] : List R_ii).set (a16).toNat (⟨a17, a18⟩ : R_ii)).getD 1 R_ii.z).a1) (((([(⟨a0, a1⟩ : R_ii), (⟨a2, a3⟩ : R_ii), (⟨a4, a5⟩ : R_ii), (⟨a6, a7⟩ : R_ii), (⟨a8, a9⟩ : R_ii), (⟨a10, a11⟩ : R_ii), (⟨a12, a13⟩ : R_ii), (⟨a14, a15⟩ : R_ii)] : List R_ii).set (a16).toNat (⟨a17, a18⟩ : R_ii)).getD 2 R_ii.z).a0) (((([(⟨a0, a1⟩ : R_ii), (⟨a2, a3⟩ : R_ii), (⟨a4, a5⟩ : R_ii), (⟨a6, a7⟩ : R_ii), (⟨a8, a9⟩ : R_ii), (⟨a10, a11⟩ : R_ii), (⟨a12, a13⟩ : R_ii), (⟨a14, a15⟩ : R_ii)] : List R_ii).set (a16).toNat (⟨a17, a18⟩ : R_ii)).getD 2 R_ii.z).a1) (((([(⟨a0, a1⟩ : R_ii), (⟨a2, a3⟩ : R_ii), (⟨a4, a5⟩ : R_ii), (⟨a6, a7⟩ : R_ii), (⟨a8, a9⟩ : R_ii), (⟨a10, a11⟩ : R_ii), (⟨a12, a13⟩ : R_ii), (⟨a14, a15⟩ : R_ii)] : List R_ii).set (a16).toNat (⟨a17, a18⟩ : R_ii)).getD 3 R_ii.z).a0) (((([(⟨a0, a1⟩ : R_ii), (⟨a2, a3⟩ : R_ii), (⟨a4, a5⟩ : R_ii), (⟨a6, a7⟩ : R_ii), (⟨a8, a9⟩ : R_ii), (⟨a10, a11⟩ : R_ii), (⟨a12, a13⟩ : R_ii), (⟨a14, a15⟩ : R_ii)] : List R_ii).set (a16).toNat (⟨a17, a18⟩ : R_ii)).getD 3 R_ii.z).a1) (((([(⟨a0, a1⟩ : R_ii), (⟨a2, a3⟩ : R_ii), (⟨a4, a5⟩ : R_ii), (⟨a6, a7⟩ : R_ii), (⟨a8, a9⟩ : R_ii), (⟨a10, a11⟩ : R_ii), (⟨a12, a13⟩ : R_ii), (⟨a14, a15⟩ : R_ii)] : List R_ii).set (a16).toNat (⟨a17, a18⟩ : R_ii)).getD 4 R_ii.z).a0) (((([(⟨a0, a1⟩ : R_ii), (⟨a2, a3⟩ : R_ii), (⟨a4, a5⟩ : R_ii), (⟨a6, a7⟩ : R_ii), (⟨a8, a9⟩ : R_ii), (⟨a10, a11⟩ : R_ii), (⟨a12, a13⟩ : R_ii), (⟨a14, a15⟩ : R_ii)] : List R_ii).set (a16).toNat (⟨a17, a18⟩ : R_ii)).getD 4 R_ii.z).a1) (((([(⟨a0, a1⟩ : R_ii), (⟨a2, a3⟩ : R_ii), (⟨a4, a5⟩ : R_ii), (⟨a6, a7⟩ : R_ii), (⟨a8, a9⟩ : R_ii), (⟨a10, a11⟩ : R_ii), (⟨a12, a13⟩ : R_ii), (⟨a14, a15⟩ : R_ii)] : List R_ii).set (a16).toNat (⟨a17, a18⟩ : R_ii)).getD 5 R_ii.z).a0) (((([(⟨a0, a1⟩ : R_ii), (⟨a2, a3⟩ : R_ii), (⟨a4, a5⟩ : R_ii), (⟨a6, a7⟩ : R_ii), (⟨a8, a9⟩ : R_ii), (⟨a10, a11⟩ : R_ii), (⟨a12, a13⟩ : R_ii), (⟨a14, a15⟩ : R_ii)] : List R_ii).set (a16).toNat (⟨a17, a18⟩ : R_ii)).getD 5 R_ii.z).a1) (((([(⟨a0, a1⟩ : R_ii), (⟨a2, a3⟩ : R_ii), (⟨a4, a5⟩ : R_ii), (⟨a6, a7⟩ : R_ii), (⟨a8, a9⟩ : R_ii), (⟨a10, a11⟩ : R_ii), (⟨a12, a13⟩ : R_ii), (⟨a14, a15⟩ : R_ii)] : List R_ii).set (a16).toNat (⟨a17, a18⟩ : R_ii)).getD 6 R_ii.z).a0) (((([(⟨a0, a1⟩ : R_ii), (⟨a2, a3⟩ : R_ii), (⟨a4, a5⟩ : R_ii), (⟨a6, a7⟩ : R_ii), (⟨a8, a9⟩ : R_ii), (⟨a10, a11⟩ : R_ii), (⟨a12, a13⟩ : R_ii), (⟨a14, a15⟩ : R_ii)] : List R_ii).set (a16).toNat (⟨a17, a18⟩ : R_ii)).getD 6 R_ii.z).a1) (((([(⟨a0, a1⟩ : R_ii), (⟨a2, a3⟩ : R_ii), (⟨a4, a5⟩ : R_ii), (⟨a6, a7⟩ : R_ii), (⟨a8, a9⟩ : R_ii), (⟨a10, a11⟩ : R_ii), (⟨a12, a13⟩ : R_ii), (⟨a14, a15⟩ : R_ii)] : List R_ii).set (a16).toNat (⟨a17, a18⟩ : R_ii)).getD 7 R_ii.z).a0) (((([(⟨a0, a1⟩ : R_ii), (⟨a2, a3⟩ : R_ii), (⟨a4, a5⟩ : R_ii), (⟨a6, a7⟩ : R_ii), (⟨a8, a9⟩ : R_ii), (⟨a10, a11⟩ : R_ii), (⟨a12, a13⟩ : R_ii), (⟨a14, a15⟩ : R_ii)] : List R_ii).set (a16).toNat (⟨a17, a18⟩ : R_ii)).getD 7 R_ii.z).a1) : regs_PutR)
    else
    some (.r0 (a0) (a1) (a2) (a3) (a4) (a5) (a6) (a7) (a8) (a9) (a10) (a11) (a12) (a13) (a14) (a15) : regs_PutR)
  else
  some (.r0 (a0) (a1) (a2) (a3) (a4) (a5) (a6) (a7) (a8) (a9) (a10) (a11) (a12) (a13) (a14) (a15) : regs_PutR)

/-- gantlet/regs.next -/
inductive regs_nextR where
  | r0 (w0 : Int)

def regs_next (a0 : Int) (a1 : Int) (a2 : Int) (a3 : Int) (a4 : Int) (a5 : Int) (a6 : Int) (a7 : Int) (a8 : Int) (a9 : Int) (a10 : Int) (a11 : Int) (a12 : Int) (a13 : Int) (a14 : Int) (a15 : Int) (a16 : Int) (a17 : Int) (a18 : Int) (a19 : Int) (a20 : Int) (a21 : Int) (a22 : Int) (a23 : Int) (a24 : Int) (a25 : Int) (a26 : Int) (a27 : Int) (a28 : Int) (a29 : Int) (a30 : Int) (a31 : Int) (a32 : Int) (a33 : Int) (a34 : Int) (a35 : Int) (a36 : Int) (N : Nat) : Option regs_nextR :=
  if ¬ (((a0 = a16 ∧ a1 = a17) ∧ (a2 = a18 ∧ a3 = a19) ∧ (a4 = a20 ∧ a5 = a21) ∧ (a6 = a22 ∧ a7 = a23) ∧ (a8 = a24 ∧ a9 = a25) ∧ (a10 = a26 ∧ a11 = a27) ∧ (a12 = a28 ∧ a13 = a29) ∧ (a14 = a30 ∧ a15 = a31))) then
    some (.r0 ((IntKind.i64.wrap (a32 + (1 : Int)))) : regs_nextR)
  else
  if a33 = (9 : Int) then
    if (0 : Int) ≤ a34 then
      if (a34).toNat < 8 then
        if ((([(⟨a0, a1⟩ : R_ii), (⟨a2, a3⟩ : R_ii), (⟨a4, a5⟩ : R_ii), (⟨a6, a7⟩ : R_ii), (⟨a8, a9⟩ : R_ii), (⟨a10, a11⟩ : R_ii), (⟨a12, a13⟩ : R_ii), (⟨a14, a15⟩ : R_ii)] : List R_ii).getD (a34).toNat R_ii.z).a0 = (2 : Int) ∧ (([(⟨a0, a1⟩ : R_ii), (⟨a2, a3⟩ : R_ii), (⟨a4, a5⟩ : R_ii), (⟨a6, a7⟩ : R_ii), (⟨a8, a9⟩ : R_ii), (⟨a10, a11⟩ : R_ii), (⟨a12, a13⟩ : R_ii), (⟨a14, a15⟩ : R_ii)] : List R_ii).getD (a34).toNat R_ii.z).a1 = (0 : Int)) then
          ((instr_Target (a33) (a34) (a35) (a36) N).bind fun r => match r with
          | .r0 y5_0 y5_1 =>
            some (.r0 (y5_0) : regs_nextR)
          )
        else
        if ((([(⟨a0, a1⟩ : R_ii), (⟨a2, a3⟩ : R_ii), (⟨a4, a5⟩ : R_ii), (⟨a6, a7⟩ : R_ii), (⟨a8, a9⟩ : R_ii), (⟨a10, a11⟩ : R_ii), (⟨a12, a13⟩ : R_ii), (⟨a14, a15⟩ : R_ii)] : List R_ii).getD (a34).toNat R_ii.z).a0 = (1 : Int) ∧ (([(⟨a0, a1⟩ : R_ii), (⟨a2, a3⟩ : R_ii), (⟨a4, a5⟩ : R_ii), (⟨a6, a7⟩ : R_ii), (⟨a8, a9⟩ : R_ii), (⟨a10, a11⟩ : R_ii), (⟨a12, a13⟩ : R_ii), (⟨a14, a15⟩ : R_ii)] : List R_ii).getD (a34).toNat R_ii.z).a1 = (0 : Int)) then
          ((instr_Target (a33) (a34) (a35) (a36) N).bind fun r => match r with
          | .r0 y6_0 y6_1 =>
            some (.r0 (y6_0) : regs_nextR)
          )
        else
        some (.r0 ((IntKind.i64.wrap (a32 + (1 : Int)))) : regs_nextR)
      else
      none
    else
    none
  else
  if a33 = (8 : Int) then
    ((instr_Target (a33) (a34) (a35) (a36) N).bind fun r => match r with
    | .r0 y3_0 y3_1 =>
      some (.r0 (y3_0) : regs_nextR)
    )
  else
  some (.r0 ((IntKind.i64.wrap (a32 + (1 : Int)))) : regs_nextR)

/-- gantlet/regs.Do -/
inductive regs_DoR where
  | r0 (w0 : Int) (w1 : Int) (w2 : Int) (w3 : Int) (w4 : Int) (w5 : Int) (w6 : Int) (w7 : Int) (w8 : Int) (w9 : Int) (w10 : Int) (w11 : Int) (w12 : Int) (w13 : Int) (w14 : Int) (w15 : Int) (w16 : Int) (w17 : Int)

def regs_Do (a0 : Int) (a1 : Int) (a2 : Int) (a3 : Int) (a4 : Int) (a5 : Int) (a6 : Int) (a7 : Int) (a8 : Int) (a9 : Int) (a10 : Int) (a11 : Int) (a12 : Int) (a13 : Int) (a14 : Int) (a15 : Int) (a16 : Int) (a17 : Int) (a18 : Int) (a19 : Int) (a20 : Int) (a21 : Int) (a22 : Int) (N : Nat) : Option regs_DoR :=
  ((instr_Check (a17) (a18) (a19) (a20) N).bind fun r => match r with
  | .r0 y0_0 =>
    if ¬ (y0_0 = (0 : Int)) then
      some (.r0 ((0 : Int)) ((0 : Int)) ((0 : Int)) ((0 : Int)) ((0 : Int)) ((0 : Int)) ((0 : Int)) ((0 : Int)) ((0 : Int)) ((0 : Int)) ((0 : Int)) ((0 : Int)) ((0 : Int)) ((0 : Int)) ((0 : Int)) ((0 : Int)) ((0 : Int)) ((100 : Int)) : regs_DoR)
    else
    if (1 : Int) ≤ a17 then
      if a17 ≤ (10 : Int) then
        if a16 < (0 : Int) then
          some (.r0 ((0 : Int)) ((0 : Int)) ((0 : Int)) ((0 : Int)) ((0 : Int)) ((0 : Int)) ((0 : Int)) ((0 : Int)) ((0 : Int)) ((0 : Int)) ((0 : Int)) ((0 : Int)) ((0 : Int)) ((0 : Int)) ((0 : Int)) ((0 : Int)) ((0 : Int)) ((5 : Int)) : regs_DoR)
        else
        if (512 : Int) ≤ a16 then
          some (.r0 ((0 : Int)) ((0 : Int)) ((0 : Int)) ((0 : Int)) ((0 : Int)) ((0 : Int)) ((0 : Int)) ((0 : Int)) ((0 : Int)) ((0 : Int)) ((0 : Int)) ((0 : Int)) ((0 : Int)) ((0 : Int)) ((0 : Int)) ((0 : Int)) ((0 : Int)) ((5 : Int)) : regs_DoR)
        else
        ((regs_result (a0) (a1) (a2) (a3) (a4) (a5) (a6) (a7) (a8) (a9) (a10) (a11) (a12) (a13) (a14) (a15) (a17) (a18) (a19) (a20) (a21) (a22) N).bind fun r => match r with
        | .r0 y6_0 y6_1 y6_2 =>
          if ¬ (y6_2 = (0 : Int)) then
            some (.r0 ((0 : Int)) ((0 : Int)) ((0 : Int)) ((0 : Int)) ((0 : Int)) ((0 : Int)) ((0 : Int)) ((0 : Int)) ((0 : Int)) ((0 : Int)) ((0 : Int)) ((0 : Int)) ((0 : Int)) ((0 : Int)) ((0 : Int)) ((0 : Int)) ((0 : Int)) (y6_2) : regs_DoR)
          else
          ((instr_Target (a17) (a18) (a19) (a20) N).bind fun r => match r with
          | .r0 y8_0 y8_1 =>
            if ¬ (y8_1 = true) then
              ((regs_Put (a0) (a1) (a2) (a3) (a4) (a5) (a6) (a7) (a8) (a9) (a10) (a11) (a12) (a13) (a14) (a15) (a18) (y6_0) (y6_1) N).bind fun r => match r with
              | .r0 y10_0 y10_1 y10_2 y10_3 y10_4 y10_5 y10_6 y10_7 y10_8 y10_9 y10_10 y10_11 y10_12 y10_13 y10_14 y10_15 =>
                ((regs_next (a0) (a1) (a2) (a3) (a4) (a5) (a6) (a7) (a8) (a9) (a10) (a11) (a12) (a13) (a14) (a15) (y10_0) (y10_1) (y10_2) (y10_3) (y10_4) (y10_5) (y10_6) (y10_7) (y10_8) (y10_9) (y10_10) (y10_11) (y10_12) (y10_13) (y10_14) (y10_15) (a16) (a17) (a18) (a19) (a20) N).bind fun r => match r with
                | .r0 y11_0 =>
                  some (.r0 (y10_0) (y10_1) (y10_2) (y10_3) (y10_4) (y10_5) (y10_6) (y10_7) (y10_8) (y10_9) (y10_10) (y10_11) (y10_12) (y10_13) (y10_14) (y10_15) (y11_0) ((0 : Int)) : regs_DoR)
                )
              )
            else
            ((regs_next (a0) (a1) (a2) (a3) (a4) (a5) (a6) (a7) (a8) (a9) (a10) (a11) (a12) (a13) (a14) (a15) (a0) (a1) (a2) (a3) (a4) (a5) (a6) (a7) (a8) (a9) (a10) (a11) (a12) (a13) (a14) (a15) (a16) (a17) (a18) (a19) (a20) N).bind fun r => match r with
            | .r0 y10_0 =>
              some (.r0 (a0) (a1) (a2) (a3) (a4) (a5) (a6) (a7) (a8) (a9) (a10) (a11) (a12) (a13) (a14) (a15) (y10_0) ((0 : Int)) : regs_DoR)
            )
          )
        )
      else
      if a17 = (19 : Int) then
        if a16 < (0 : Int) then
          some (.r0 ((0 : Int)) ((0 : Int)) ((0 : Int)) ((0 : Int)) ((0 : Int)) ((0 : Int)) ((0 : Int)) ((0 : Int)) ((0 : Int)) ((0 : Int)) ((0 : Int)) ((0 : Int)) ((0 : Int)) ((0 : Int)) ((0 : Int)) ((0 : Int)) ((0 : Int)) ((5 : Int)) : regs_DoR)
        else
        if (512 : Int) ≤ a16 then
          some (.r0 ((0 : Int)) ((0 : Int)) ((0 : Int)) ((0 : Int)) ((0 : Int)) ((0 : Int)) ((0 : Int)) ((0 : Int)) ((0 : Int)) ((0 : Int)) ((0 : Int)) ((0 : Int)) ((0 : Int)) ((0 : Int)) ((0 : Int)) ((0 : Int)) ((0 : Int)) ((5 : Int)) : regs_DoR)
        else
        ((regs_result (a0) (a1) (a2) (a3) (a4) (a5) (a6) (a7) (a8) (a9) (a10) (a11) (a12) (a13) (a14) (a15) (a17) (a18) (a19) (a20) (a21) (a22) N).bind fun r => match r with
        | .r0 y7_0 y7_1 y7_2 =>
          if ¬ (y7_2 = (0 : Int)) then
            some (.r0 ((0 : Int)) ((0 : Int)) ((0 : Int)) ((0 : Int)) ((0 : Int)) ((0 : Int)) ((0 : Int)) ((0 : Int)) ((0 : Int)) ((0 : Int)) ((0 : Int)) ((0 : Int)) ((0 : Int)) ((0 : Int)) ((0 : Int)) ((0 : Int)) ((0 : Int)) (y7_2) : regs_DoR)
          else
          ((instr_Target (a17) (a18) (a19) (a20) N).bind fun r => match r with
          | .r0 y9_0 y9_1 =>
            if ¬ (y9_1 = true) then
              ((regs_Put (a0) (a1) (a2) (a3) (a4) (a5) (a6) (a7) (a8) (a9) (a10) (a11) (a12) (a13) (a14) (a15) (a18) (y7_0) (y7_1) N).bind fun r => match r with
              | .r0 y11_0 y11_1 y11_2 y11_3 y11_4 y11_5 y11_6 y11_7 y11_8 y11_9 y11_10 y11_11 y11_12 y11_13 y11_14 y11_15 =>
                ((regs_next (a0) (a1) (a2) (a3) (a4) (a5) (a6) (a7) (a8) (a9) (a10) (a11) (a12) (a13) (a14) (a15) (y11_0) (y11_1) (y11_2) (y11_3) (y11_4) (y11_5) (y11_6) (y11_7) (y11_8) (y11_9) (y11_10) (y11_11) (y11_12) (y11_13) (y11_14) (y11_15) (a16) (a17) (a18) (a19) (a20) N).bind fun r => match r with
                | .r0 y12_0 =>
                  some (.r0 (y11_0) (y11_1) (y11_2) (y11_3) (y11_4) (y11_5) (y11_6) (y11_7) (y11_8) (y11_9) (y11_10) (y11_11) (y11_12) (y11_13) (y11_14) (y11_15) (y12_0) ((0 : Int)) : regs_DoR)
                )
              )
            else
            ((regs_next (a0) (a1) (a2) (a3) (a4) (a5) (a6) (a7) (a8) (a9) (a10) (a11) (a12) (a13) (a14) (a15) (a0) (a1) (a2) (a3) (a4) (a5) (a6) (a7) (a8) (a9) (a10) (a11) (a12) (a13) (a14) (a15) (a16) (a17) (a18) (a19) (a20) N).bind fun r => match r with
            | .r0 y11_0 =>
              some (.r0 (a0) (a1) (a2) (a3) (a4) (a5) (a6) (a7) (a8) (a9) (a10) (a11) (a12) (a13) (a14) (a15) (y11_0) ((0 : Int)) : regs_DoR)
            )
          )
        )
      else
      some (.r0 ((0 : Int)) ((0 : Int)) ((0 : Int)) ((0 : Int)) ((0 : Int)) ((0 : Int)) ((0 : Int)) ((0 : Int)) ((0 : Int)) ((0 : Int)) ((0 : Int)) ((0 : Int)) ((0 : Int)) ((0 : Int)) ((0 : Int)) ((0 : Int)) ((0 : Int)) ((100 : Int)) : regs_DoR)
    else
    some (.r0 ((0 : Int)) ((0 : Int)) ((0 : Int)) ((0 : Int)) ((0 : Int)) ((0 : Int)) ((0 : Int)) ((0 : Int)) ((0 : Int)) ((0 : Int)) ((0 : Int)) ((0 : Int)) ((0 : Int)) ((0 : Int)) ((0 : Int)) ((0 : Int)) ((0 : Int)) ((100 : Int)) : regs_DoR)
  )

/-- gantlet/gantletref10.Has -/
inductive ref10_HasR where
  | r0 (w0 : Int) (w1 : Int) (w2 : Int) (w3 : Bool)

def ref10_Has (a0 : Int) (N : Nat) : Option ref10_HasR :=
  if a0 = (1 : Int) then
    some (.r0 ((1 : Int)) ((2 : Int)) ((0 : Int)) (true) : ref10_HasR)
  else
  if a0 = (2 : Int) then
    some (.r0 ((1 : Int)) ((0 : Int)) ((0 : Int)) (true) : ref10_HasR)
  else
  if a0 = (10 : Int) then
    some (.r0 ((1 : Int)) ((0 : Int)) ((0 : Int)) (true) : ref10_HasR)
  else
  if a0 = (12 : Int) then
    some (.r0 ((1 : Int)) ((0 : Int)) ((0 : Int)) (true) : ref10_HasR)
  else
  if a0 = (19 : Int) then
    some (.r0 ((1 : Int)) ((0 : Int)) ((0 : Int)) (true) : ref10_HasR)
  else
  if a0 = (3 : Int) then
    some (.r0 ((1 : Int)) ((1 : Int)) ((0 : Int)) (true) : ref10_HasR)
  else
  if a0 = (4 : Int) then
    some (.r0 ((1 : Int)) ((1 : Int)) ((1 : Int)) (true) : ref10_HasR)
  else
  if a0 = (5 : Int) then
    some (.r0 ((1 : Int)) ((1 : Int)) ((1 : Int)) (true) : ref10_HasR)
  else
  if a0 = (6 : Int) then
    some (.r0 ((1 : Int)) ((1 : Int)) ((1 : Int)) (true) : ref10_HasR)
  else
  if a0 = (7 : Int) then
    some (.r0 ((1 : Int)) ((1 : Int)) ((1 : Int)) (true) : ref10_HasR)
  else
  if a0 = (8 : Int) then
    some (.r0 ((3 : Int)) ((0 : Int)) ((0 : Int)) (true) : ref10_HasR)
  else
  if a0 = (9 : Int) then
    some (.r0 ((1 : Int)) ((3 : Int)) ((0 : Int)) (true) : ref10_HasR)
  else
  if a0 = (11 : Int) then
    some (.r0 ((1 : Int)) ((5 : Int)) ((6 : Int)) (true) : ref10_HasR)
  else
  if a0 = (13 : Int) then
    some (.r0 ((1 : Int)) ((1 : Int)) ((4 : Int)) (true) : ref10_HasR)
  else
  if a0 = (14 : Int) then
    some (.r0 ((1 : Int)) ((4 : Int)) ((1 : Int)) (true) : ref10_HasR)
  else
  if a0 = (15 : Int) then
    some (.r0 ((0 : Int)) ((0 : Int)) ((0 : Int)) (true) : ref10_HasR)
  else
  if a0 = (16 : Int) then
    some (.r0 ((0 : Int)) ((0 : Int)) ((0 : Int)) (true) : ref10_HasR)
  else
  if a0 = (17 : Int) then
    some (.r0 ((0 : Int)) ((0 : Int)) ((0 : Int)) (true) : ref10_HasR)
  else
  if a0 = (18 : Int) then
    some (.r0 ((0 : Int)) ((0 : Int)) ((0 : Int)) (true) : ref10_HasR)
  else
  if a0 = (20 : Int) then
    some (.r0 ((0 : Int)) ((0 : Int)) ((0 : Int)) (true) : ref10_HasR)
  else
  some (.r0 ((0 : Int)) ((0 : Int)) ((0 : Int)) (false) : ref10_HasR)

/-- gantlet/gantletref10.fits -/
inductive ref10_fitsR where
  | r0 (w0 : Bool)

def ref10_fits (a0 : Int) (a1 : Int) (a2 : Int) (N : Nat) : Option ref10_fitsR :=
  if a0 = (1 : Int) then
    if (0 : Int) ≤ a1 then
      if a1 < (8 : Int) then
        some (.r0 (true) : ref10_fitsR)
      else
      some (.r0 (false) : ref10_fitsR)
    else
    some (.r0 (false) : ref10_fitsR)
  else
  if a0 = (2 : Int) then
    if (-1099511627776 : Int) ≤ a1 then
      if a1 ≤ (1099511627776 : Int) then
        some (.r0 (true) : ref10_fitsR)
      else
      some (.r0 (false) : ref10_fitsR)
    else
    some (.r0 (false) : ref10_fitsR)
  else
  if a0 = (3 : Int) then
    if (0 : Int) ≤ a1 then
      if a1 ≤ (512 : Int) then
        some (.r0 (true) : ref10_fitsR)
      else
      some (.r0 (false) : ref10_fitsR)
    else
    some (.r0 (false) : ref10_fitsR)
  else
  if a0 = (4 : Int) then
    if (0 : Int) ≤ a1 then
      if a1 < (16 : Int) then
        some (.r0 (true) : ref10_fitsR)
      else
      some (.r0 (false) : ref10_fitsR)
    else
    some (.r0 (false) : ref10_fitsR)
  else
  if a0 = (5 : Int) then
    if (1 : Int) ≤ a1 then
      if a1 ≤ (16 : Int) then
        some (.r0 (true) : ref10_fitsR)
      else
      some (.r0 (false) : ref10_fitsR)
    else
    some (.r0 (false) : ref10_fitsR)
  else
  if a0 = (6 : Int) then
    if (1 : Int) ≤ a2 then
      if a2 ≤ (16 : Int) then
        if (0 : Int) ≤ a1 then
          if a1 < (IntKind.i64.wrap ((1 : Int) * (2 ^ (a2).toNat : Int))) then
            some (.r0 (true) : ref10_fitsR)
          else
          some (.r0 (false) : ref10_fitsR)
        else
        some (.r0 (false) : ref10_fitsR)
      else
      some (.r0 (false) : ref10_fitsR)
    else
    some (.r0 (false) : ref10_fitsR)
  else
  if a1 = (0 : Int) then
    some (.r0 (true) : ref10_fitsR)
  else
  some (.r0 (false) : ref10_fitsR)

/-- gantlet/gantletref10.Is -/
inductive ref10_IsR where
  | r0 (w0 : Bool)

def ref10_Is (a0 : Int) (a1 : Int) (a2 : Int) (a3 : Int) (N : Nat) : Option ref10_IsR :=
  ((ref10_Has (a0) N).bind fun r => match r with
  | .r0 y0_0 y0_1 y0_2 y0_3 =>
    if y0_3 = true then
      ((ref10_fits (y0_0) (a1) ((0 : Int)) N).bind fun r => match r with
      | .r0 y2_0 =>
        if y2_0 = true then
          ((ref10_fits (y0_1) (a2) ((0 : Int)) N).bind fun r => match r with
          | .r0 y4_0 =>
            if y4_0 = true then
              ((ref10_fits (y0_2) (a3) (a2) N).bind fun r => match r with
              | .r0 y6_0 =>
                if y6_0 = true then
                  some (.r0 (true) : ref10_IsR)
                else
                some (.r0 (false) : ref10_IsR)
              )
            else
            some (.r0 (false) : ref10_IsR)
          )
        else
        some (.r0 (false) : ref10_IsR)
      )
    else
    some (.r0 (false) : ref10_IsR)
  )

/-- gantlet/gantletref01.Add -/
inductive ref01_AddR where
  | r0 (w0 : Int) (w1 : Int) (w2 : Int)

def ref01_Add (a0 : Int) (a1 : Int) (a2 : Int) (a3 : Int) (N : Nat) : Option ref01_AddR :=
  if a0 = (1 : Int) then
    if a2 = (1 : Int) then
      some (.r0 ((1 : Int)) ((IntKind.i64.wrap (a1 + a3))) ((0 : Int)) : ref01_AddR)
    else
    some (.r0 ((0 : Int)) ((0 : Int)) ((10 : Int)) : ref01_AddR)
  else
  some (.r0 ((0 : Int)) ((0 : Int)) ((10 : Int)) : ref01_AddR)

/-- gantlet/gantletref01.Sub -/
inductive ref01_SubR where
  | r0 (w0 : Int) (w1 : Int) (w2 : Int)

def ref01_Sub (a0 : Int) (a1 : Int) (a2 : Int) (a3 : Int) (N : Nat) : Option ref01_SubR :=
  if a0 = (1 : Int) then
    if a2 = (1 : Int) then
      some (.r0 ((1 : Int)) ((IntKind.i64.wrap (a1 - a3))) ((0 : Int)) : ref01_SubR)
    else
    some (.r0 ((0 : Int)) ((0 : Int)) ((10 : Int)) : ref01_SubR)
  else
  some (.r0 ((0 : Int)) ((0 : Int)) ((10 : Int)) : ref01_SubR)

/-- gantlet/gantletref01.Less -/
inductive ref01_LessR where
  | r0 (w0 : Int) (w1 : Int) (w2 : Int)

def ref01_Less (a0 : Int) (a1 : Int) (a2 : Int) (a3 : Int) (N : Nat) : Option ref01_LessR :=
  if a0 = (1 : Int) then
    if a2 = (1 : Int) then
      if a1 < a3 then
        some (.r0 ((1 : Int)) ((1 : Int)) ((0 : Int)) : ref01_LessR)
      else
      some (.r0 ((1 : Int)) ((0 : Int)) ((0 : Int)) : ref01_LessR)
    else
    some (.r0 ((0 : Int)) ((0 : Int)) ((10 : Int)) : ref01_LessR)
  else
  some (.r0 ((0 : Int)) ((0 : Int)) ((10 : Int)) : ref01_LessR)

/-- gantlet/gantletref14.made -/
inductive ref14_madeR where
  | r0 (w0 : Int) (w1 : Int) (w2 : Int)

def ref14_made (a0 : Int) (a1 : Int) (a2 : Int) (a3 : Int) (a4 : Int) (a5 : Int) (a6 : Int) (a7 : Int) (a8 : Int) (a9 : Int) (a10 : Int) (a11 : Int) (a12 : Int) (a13 : Int) (a14 : Int) (a15 : Int) (a16 : Int) (a17 : Int) (a18 : Int) (a19 : Int) (a20 : Int) (a21 : Int) (N : Nat) : Option ref14_madeR :=
  if a16 = (1 : Int) then
    some (.r0 ((1 : Int)) (a18) ((0 : Int)) : ref14_madeR)
  else
  if a16 = (2 : Int) then
    some (.r0 ((2 : Int)) ((0 : Int)) ((0 : Int)) : ref14_madeR)
  else
  if a16 = (3 : Int) then
    if (0 : Int) ≤ a18 then
      if (a18).toNat < 8 then
        some (.r0 ((([(⟨a0, a1⟩ : R_ii), (⟨a2, a3⟩ : R_ii), (⟨a4, a5⟩ : R_ii), (⟨a6, a7⟩ : R_ii), (⟨a8, a9⟩ : R_ii), (⟨a10, a11⟩ : R_ii), (⟨a12, a13⟩ : R_ii), (⟨a14, a15⟩ : R_ii)] : List R_ii).getD (a18).toNat R_ii.z).a0) ((([(⟨a0, a1⟩ : R_ii), (⟨a2, a3⟩ : R_ii), (⟨a4, a5⟩ : R_ii), (⟨a6, a7⟩ : R_ii), (⟨a8, a9⟩ : R_ii), (⟨a10, a11⟩ : R_ii), (⟨a12, a13⟩ : R_ii), (⟨a14, a15⟩ : R_ii)] : List R_ii).getD (a18).toNat R_ii.z).a1) ((0 : Int)) : ref14_madeR)
      else
      none
    else
    none
  else
  if a16 = (4 : Int) then
    if (0 : Int) ≤ a18 then
      if (a18).toNat < 8 then
        if (0 : Int) ≤ a19 then
          if (a19).toNat < 8 then
            ((ref01_Add ((([(⟨a0, a1⟩ : R_ii), (⟨a2, a3⟩ : R_ii), (⟨a4, a5⟩ : R_ii), (⟨a6, a7⟩ : R_ii), (⟨a8, a9⟩ : R_ii), (⟨a10, a11⟩ : R_ii), (⟨a12, a13⟩ : R_ii), (⟨a14, a15⟩ : R_ii)] : List R_ii).getD (a18).toNat R_ii.z).a0) ((([(⟨a0, a1⟩ : R_ii), (⟨a2, a3⟩ : R_ii), (⟨a4, a5⟩ : R_ii), (⟨a6, a7⟩ : R_ii), (⟨a8, a9⟩ : R_ii), (⟨a10, a11⟩ : R_ii), (⟨a12, a13⟩ : R_ii), (⟨a14, a15⟩ : R_ii)] : List R_ii).getD (a18).toNat R_ii.z).a1) ((([(⟨a0, a1⟩ : R_ii), (⟨a2, a3⟩ : R_ii), (⟨a4, a5⟩ : R_ii), (⟨a6, a7⟩ : R_ii), (⟨a8, a9⟩ : R_ii), (⟨a10, a11⟩ : R_ii), (⟨a12, a13⟩ : R_ii), (⟨a14, a15⟩ : R_ii)] : List R_ii).getD (a19).toNat R_ii.z).a0) ((([(⟨a0, a1⟩ : R_ii), (⟨a2, a3⟩ : R_ii), (⟨a4, a5⟩ : R_ii), (⟨a6, a7⟩ : R_ii), (⟨a8, a9⟩ : R_ii), (⟨a10, a11⟩ : R_ii), (⟨a12, a13⟩ : R_ii), (⟨a14, a15⟩ : R_ii)] : List R_ii).getD (a19).toNat R_ii.z).a1) N).bind fun r => match r with
            | .r0 y8_0 y8_1 y8_2 =>
              some (.r0 (y8_0) (y8_1) (y8_2) : ref14_madeR)
            )
          else
          none
        else
        none
      else
      none
    else
    none
  else
  if a16 = (5 : Int) then
    if (0 : Int) ≤ a18 then
      if (a18).toNat < 8 then
        if (0 : Int) ≤ a19 then
          if (a19).toNat < 8 then
            ((ref01_Sub ((([(⟨a0, a1⟩ : R_ii), (⟨a2, a3⟩ : R_ii), (⟨a4, a5⟩ : R_ii), (⟨a6, a7⟩ : R_ii), (⟨a8, a9⟩ : R_ii), (⟨a10, a11⟩ : R_ii), (⟨a12, a13⟩ : R_ii), (⟨a14, a15⟩ : R_ii)] : List R_ii).getD (a18).toNat R_ii.z).a0) ((([(⟨a0, a1⟩ : R_ii), (⟨a2, a3⟩ : R_ii), (⟨a4, a5⟩ : R_ii), (⟨a6, a7⟩ : R_ii), (⟨a8, a9⟩ : R_ii), (⟨a10, a11⟩ : R_ii), (⟨a12, a13⟩ : R_ii), (⟨a14, a15⟩ : R_ii)] : List R_ii).getD (a18).toNat R_ii.z).a1) ((([(⟨a0, a1⟩ : R_ii), (⟨a2, a3⟩ : R_ii), (⟨a4, a5⟩ : R_ii), (⟨a6, a7⟩ : R_ii), (⟨a8, a9⟩ : R_ii), (⟨a10, a11⟩ : R_ii), (⟨a12, a13⟩ : R_ii), (⟨a14, a15⟩ : R_ii)] : List R_ii).getD (a19).toNat R_ii.z).a0) ((([(⟨a0, a1⟩ : R_ii), (⟨a2, a3⟩ : R_ii), (⟨a4, a5⟩ : R_ii), (⟨a6, a7⟩ : R_ii), (⟨a8, a9⟩ : R_ii), (⟨a10, a11⟩ : R_ii), (⟨a12, a13⟩ : R_ii), (⟨a14, a15⟩ : R_ii)] : List R_ii).getD (a19).toNat R_ii.z).a1) N).bind fun r => match r with
            | .r0 y9_0 y9_1 y9_2 =>
              some (.r0 (y9_0) (y9_1) (y9_2) : ref14_madeR)
            )
          else
          none
        else
        none
      else
      none
    else
    none
  else
  if a16 = (6 : Int) then
    if (0 : Int) ≤ a18 then
      if (a18).toNat < 8 then
        if (0 : Int) ≤ a19 then
          if (a19).toNat < 8 then
            ((ref01_Less ((([(⟨a0, a1⟩ : R_ii), (⟨a2, a3⟩ : R_ii), (⟨a4, a5⟩ : R_ii), (⟨a6, a7⟩ : R_ii), (⟨a8, a9⟩ : R_ii), (⟨a10, a11⟩ : R_ii), (⟨a12, a13⟩ : R_ii), (⟨a14, a15⟩ : R_ii)] : List R_ii).getD (a18).toNat R_ii.z).a0) ((([(⟨a0, a1⟩ : R_ii), (⟨a2, a3⟩ : R_ii), (⟨a4, a5⟩ : R_ii), (⟨a6, a7⟩ : R_ii), (⟨a8, a9⟩ : R_ii), (⟨a10, a11⟩ : R_ii), (⟨a12, a13⟩ : R_ii), (⟨a14, a15⟩ : R_ii)] : List R_ii).getD (a18).toNat R_ii.z).a1) ((([(⟨a0, a1⟩ : R_ii), (⟨a2, a3⟩ : R_ii), (⟨a4, a5⟩ : R_ii), (⟨a6, a7⟩ : R_ii), (⟨a8, a9⟩ : R_ii), (⟨a10, a11⟩ : R_ii), (⟨a12, a13⟩ : R_ii), (⟨a14, a15⟩ : R_ii)] : List R_ii).getD (a19).toNat R_ii.z).a0) ((([(⟨a0, a1⟩ : R_ii), (⟨a2, a3⟩ : R_ii), (⟨a4, a5⟩ : R_ii), (⟨a6, a7⟩ : R_ii), (⟨a8, a9⟩ : R_ii), (⟨a10, a11⟩ : R_ii), (⟨a12, a13⟩ : R_ii), (⟨a14, a15⟩ : R_ii)] : List R_ii).getD (a19).toNat R_ii.z).a1) N).bind fun r => match r with
            | .r0 y10_0 y10_1 y10_2 =>
              some (.r0 (y10_0) (y10_1) (y10_2) : ref14_madeR)
            )
          else
          none
        else
        none
      else
      none
    else
    none
  else
  if a16 = (7 : Int) then
    if (0 : Int) ≤ a18 then
      if (a18).toNat < 8 then
        if (0 : Int) ≤ a19 then
          if (a19).toNat < 8 then
            if ((([(⟨a0, a1⟩ : R_ii), (⟨a2, a3⟩ : R_ii), (⟨a4, a5⟩ : R_ii), (⟨a6, a7⟩ : R_ii), (⟨a8, a9⟩ : R_ii), (⟨a10, a11⟩ : R_ii), (⟨a12, a13⟩ : R_ii), (⟨a14, a15⟩ : R_ii)] : List R_ii).getD (a18).toNat R_ii.z).a0 = (([(⟨a0, a1⟩ : R_ii), (⟨a2, a3⟩ : R_ii), (⟨a4, a5⟩ : R_ii), (⟨a6, a7⟩ : R_ii), (⟨a8, a9⟩ : R_ii), (⟨a10, a11⟩ : R_ii), (⟨a12, a13⟩ : R_ii), (⟨a14, a15⟩ : R_ii)] : List R_ii).getD (a19).toNat R_ii.z).a0 ∧ (([(⟨a0, a1⟩ : R_ii), (⟨a2, a3⟩ : R_ii), (⟨a4, a5⟩ : R_ii), (⟨a6, a7⟩ : R_ii), (⟨a8, a9⟩ : R_ii), (⟨a10, a11⟩ : R_ii), (⟨a12, a13⟩ : R_ii), (⟨a14, a15⟩ : R_ii)] : List R_ii).getD (a18).toNat R_ii.z).a1 = (([(⟨a0, a1⟩ : R_ii), (⟨a2, a3⟩ : R_ii), (⟨a4, a5⟩ : R_ii), (⟨a6, a7⟩ : R_ii), (⟨a8, a9⟩ : R_ii), (⟨a10, a11⟩ : R_ii), (⟨a12, a13⟩ : R_ii), (⟨a14, a15⟩ : R_ii)] : List R_ii).getD (a19).toNat R_ii.z).a1) then
              some (.r0 ((1 : Int)) ((1 : Int)) ((0 : Int)) : ref14_madeR)
            else
            some (.r0 ((1 : Int)) ((0 : Int)) ((0 : Int)) : ref14_madeR)
          else
          none
        else
        none
      else
      none
    else
    none
  else
  some (.r0 (a20) (a21) ((0 : Int)) : ref14_madeR)

/-- gantlet/gantletref14.Put -/
inductive ref14_PutR where
  | r0 (w0 : Int) (w1 : Int) (w2 : Int) (w3 : Int) (w4 : Int) (w5 : Int) (w6 : Int) (w7 : Int) (w8 : Int) (w9 : Int) (w10 : Int) (w11 : Int) (w12 : Int) (w13 : Int) (w14 : Int) (w15 : Int)

def ref14_Put (a0 : Int) (a1 : Int) (a2 : Int) (a3 : Int) (a4 : Int) (a5 : Int) (a6 : Int) (a7 : Int) (a8 : Int) (a9 : Int) (a10 : Int) (a11 : Int) (a12 : Int) (a13 : Int) (a14 : Int) (a15 : Int) (a16 : Int) (a17 : Int) (a18 : Int) (N : Nat) : Option ref14_PutR :=
  if (0 : Int) ≤ a16 then
    if a16 < (8 : Int) then
      some (.r0 (((([(⟨a0, a1⟩ : R_ii), (⟨a2, a3⟩ : R_ii), (⟨a4, a5⟩ : R_ii), (⟨a6, a7⟩ : R_ii), (⟨a8, a9⟩ : R_ii), (⟨a10, a11⟩ : R_ii), (⟨a12, a13⟩ : R_ii), (⟨a14, a15⟩ : R_ii)] : List R_ii).set (a16).toNat (⟨a17, a18⟩ : R_ii)).getD 0 R_ii.z).a0) (((([(⟨a0, a1⟩ : R_ii), (⟨a2, a3⟩ : R_ii), (⟨a4, a5⟩ : R_ii), (⟨a6, a7⟩ : R_ii), (⟨a8, a9⟩ : R_ii), (⟨a10, a11⟩ : R_ii), (⟨a12, a13⟩ : R_ii), (⟨a14, a15⟩ : R_ii)] : List R_ii).set (a16).toNat (⟨a17, a18⟩ : R_ii)).getD 0 R_ii.z).a1) (((([(⟨a0, a1⟩ : R_ii), (⟨a2, a3⟩ : R_ii), (⟨a4, a5⟩ : R_ii), (⟨a6, a7⟩ : R_ii), (⟨a8, a9⟩ : R_ii), (⟨a10, a11⟩ : R_ii), (⟨a12, a13⟩ : R_ii), (⟨a14, a15⟩ : R_ii)] : List R_ii).set (a16).toNat (⟨a17, a18⟩ : R_ii)).getD 1 R_ii.z).a0) (((([(⟨a0, a1⟩ : R_ii), (⟨a2, a3⟩ : R_ii), (⟨a4, a5⟩ : R_ii), (⟨a6, a7⟩ : R_ii), (⟨a8, a9⟩ : R_ii), (⟨a10, a11⟩ : R_ii), (⟨a12, a13⟩ : R_ii), (⟨a14, a15⟩ : R_ii)] : List R_ii).set (a16).toNat (⟨a17, a18⟩ : R_ii)).getD 1 R_ii.z).a1) (((([(⟨a0, a1⟩ : R_ii), (⟨a2, a3⟩ : R_ii), (⟨a4, a5⟩ : R_ii), (⟨a6, a7⟩ : R_ii), (⟨a8, a9⟩ : R_ii), (⟨a10, a11⟩ : R_ii), (⟨a12, a13⟩ : R_ii), (⟨a14, a15⟩ : R_ii)] : List R_ii).set (a16).toNat (⟨a17, a18⟩ : R_ii)).getD 2 R_ii.z).a0) (((([(⟨a0, a1⟩ : R_ii), (⟨a2, a3⟩ : R_ii), (⟨a4, a5⟩ : R_ii), (⟨a6, a7⟩ : R_ii), (⟨a8, a9⟩ : R_ii), (⟨a10, a11⟩ : R_ii), (⟨a12, a13⟩ : R_ii), (⟨a14, a15⟩ : R_ii)] : List R_ii).set (a16).toNat (⟨a17, a18⟩ : R_ii)).getD 2 R_ii.z).a1) (((([(⟨a0, a1⟩ : R_ii), (⟨a2, a3⟩ : R_ii), (⟨a4, a5⟩ : R_ii), (⟨a6, a7⟩ : R_ii), (⟨a8, a9⟩ : R_ii), (⟨a10, a11⟩ : R_ii), (⟨a12, a13⟩ : R_ii), (⟨a14, a15⟩ : R_ii)] : List R_ii).set (a16).toNat (⟨a17, a18⟩ : R_ii)).getD 3 R_ii.z).a0) (((([(⟨a0, a1⟩ : R_ii), (⟨a2, a3⟩ : R_ii), (⟨a4, a5⟩ : R_ii), (⟨a6, a7⟩ : R_ii), (⟨a8, a9⟩ : R_ii), (⟨a10, a11⟩ : R_ii), (⟨a12, a13⟩ : R_ii), (⟨a14, a15⟩ : R_ii)] : List R_ii).set (a16).toNat (⟨a17, a18⟩ : R_ii)).getD 3 R_ii.z).a1) (((([(⟨a0, a1⟩ : R_ii), (⟨a2, a3⟩ : R_ii), (⟨a4, a5⟩ : R_ii), (⟨a6, a7⟩ : R_ii), (⟨a8, a9⟩ : R_ii), (⟨a10, a11⟩ : R_ii), (⟨a12, a13⟩ : R_ii), (⟨a14, a15⟩ : R_ii)] : List R_ii).set (a16).toNat (⟨a17, a18⟩ : R_ii)).getD 4 R_ii.z).a0) (((([(⟨a0, a1⟩ : R_ii), (⟨a2, a3⟩ : R_ii), (⟨a4, a5⟩ : R_ii), (⟨a6, a7⟩ : R_ii), (⟨a8, a9⟩ : R_ii), (⟨a10, a11⟩ : R_ii), (⟨a12, a13⟩ : R_ii), (⟨a14, a15⟩ : R_ii)] : List R_ii).set (a16).toNat (⟨a17, a18⟩ : R_ii)).getD 4 R_ii.z).a1) (((([(⟨a0, a1⟩ : R_ii), (⟨a2, a3⟩ : R_ii), (⟨a4, a5⟩ : R_ii), (⟨a6, a7⟩ : R_ii), (⟨a8, a9⟩ : R_ii), (⟨a10, a11⟩ : R_ii), (⟨a12, a13⟩ : R_ii), (⟨a14, a15⟩ : R_ii)] : List R_ii).set (a16).toNat (⟨a17, a18⟩ : R_ii)).getD 5 R_ii.z).a0) (((([(⟨a0, a1⟩ : R_ii), (⟨a2, a3⟩ : R_ii), (⟨a4, a5⟩ : R_ii), (⟨a6, a7⟩ : R_ii), (⟨a8, a9⟩ : R_ii), (⟨a10, a11⟩ : R_ii), (⟨a12, a13⟩ : R_ii), (⟨a14, a15⟩ : R_ii)] : List R_ii).set (a16).toNat (⟨a17, a18⟩ : R_ii)).getD 5 R_ii.z).a1) (((([(⟨a0, a1⟩ : R_ii), (⟨a2, a3⟩ : R_ii), (⟨a4, a5⟩ : R_ii), (⟨a6, a7⟩ : R_ii), (⟨a8, a9⟩ : R_ii), (⟨a10, a11⟩ : R_ii), (⟨a12, a13⟩ : R_ii), (⟨a14, a15⟩ : R_ii)] : List R_ii).set (a16).toNat (⟨a17, a18⟩ : R_ii)).getD 6 R_ii.z).a0) (((([(⟨a0, a1⟩ : R_ii), (⟨a2, a3⟩ : R_ii), (⟨a4, a5⟩ : R_ii), (⟨a6, a7⟩ : R_ii), (⟨a8, a9⟩ : R_ii), (⟨a10, a11⟩ : R_ii), (⟨a12, a13⟩ : R_ii), (⟨a14, a15⟩ : R_ii)] : List R_ii).set (a16).toNat (⟨a17, a18⟩ : R_ii)).getD 6 R_ii.z).a1) (((([(⟨a0, a1⟩ : R_ii), (⟨a2, a3⟩ : R_ii), (⟨a4, a5⟩ : R_ii), (⟨a6, a7⟩ : R_ii), (⟨a8, a9⟩ : R_ii), (⟨a10, a11⟩ : R_ii), (⟨a12, a13⟩ : R_ii), (⟨a14, a15⟩ : R_ii)] : List R_ii).set (a16).toNat (⟨a17, a18⟩ : R_ii)).getD 7 R_ii.z).a0) (((([(⟨a0, a1⟩ : R_ii), (⟨a2, a3⟩ : R_ii), (⟨a4, a5⟩ : R_ii), (⟨a6, a7⟩ : R_ii), (⟨a8, a9⟩ : R_ii), (⟨a10, a11⟩ : R_ii), (⟨a12, a13⟩ : R_ii), (⟨a14, a15⟩ : R_ii)] : List R_ii).set (a16).toNat (⟨a17, a18⟩ : R_ii)).getD 7 R_ii.z).a1) : ref14_PutR)
    else
    some (.r0 (a0) (a1) (a2) (a3) (a4) (a5) (a6) (a7) (a8) (a9) (a10) (a11) (a12) (a13) (a14) (a15) : ref14_PutR)
  else
  some (.r0 (a0) (a1) (a2) (a3) (a4) (a5) (a6) (a7) (a8) (a9) (a10) (a11) (a12) (a13) (a14) (a15) : ref14_PutR)

/-- gantlet/gantletref14.Do -/
inductive ref14_DoR where
  | r0 (w0 : Int) (w1 : Int) (w2 : Int) (w3 : Int) (w4 : Int) (w5 : Int) (w6 : Int) (w7 : Int) (w8 : Int) (w9 : Int) (w10 : Int) (w11 : Int) (w12 : Int) (w13 : Int) (w14 : Int) (w15 : Int) (w16 : Int) (w17 : Int)

def ref14_Do (a0 : Int) (a1 : Int) (a2 : Int) (a3 : Int) (a4 : Int) (a5 : Int) (a6 : Int) (a7 : Int) (a8 : Int) (a9 : Int) (a10 : Int) (a11 : Int) (a12 : Int) (a13 : Int) (a14 : Int) (a15 : Int) (a16 : Int) (a17 : Int) (a18 : Int) (a19 : Int) (a20 : Int) (a21 : Int) (a22 : Int) (N : Nat) : Option ref14_DoR :=
  ((ref10_Is (a17) (a18) (a19) (a20) N).bind fun r => match r with
  | .r0 y0_0 =>
    if ¬ (y0_0 = true) then
      some (.r0 ((0 : Int)) ((0 : Int)) ((0 : Int)) ((0 : Int)) ((0 : Int)) ((0 : Int)) ((0 : Int)) ((0 : Int)) ((0 : Int)) ((0 : Int)) ((0 : Int)) ((0 : Int)) ((0 : Int)) ((0 : Int)) ((0 : Int)) ((0 : Int)) ((0 : Int)) ((100 : Int)) : ref14_DoR)
    else
    if (1 : Int) ≤ a17 then
      if a17 ≤ (10 : Int) then
        if a16 < (0 : Int) then
          some (.r0 ((0 : Int)) ((0 : Int)) ((0 : Int)) ((0 : Int)) ((0 : Int)) ((0 : Int)) ((0 : Int)) ((0 : Int)) ((0 : Int)) ((0 : Int)) ((0 : Int)) ((0 : Int)) ((0 : Int)) ((0 : Int)) ((0 : Int)) ((0 : Int)) ((0 : Int)) ((5 : Int)) : ref14_DoR)
        else
        if (511 : Int) < a16 then
          some (.r0 ((0 : Int)) ((0 : Int)) ((0 : Int)) ((0 : Int)) ((0 : Int)) ((0 : Int)) ((0 : Int)) ((0 : Int)) ((0 : Int)) ((0 : Int)) ((0 : Int)) ((0 : Int)) ((0 : Int)) ((0 : Int)) ((0 : Int)) ((0 : Int)) ((0 : Int)) ((5 : Int)) : ref14_DoR)
        else
        if a17 = (8 : Int) then
          some (.r0 (a0) (a1) (a2) (a3) (a4) (a5) (a6) (a7) (a8) (a9) (a10) (a11) (a12) (a13) (a14) (a15) (a18) ((0 : Int)) : ref14_DoR)
        else
        if a17 = (9 : Int) then
          if (0 : Int) ≤ a18 then
            if (a18).toNat < 8 then
              if ((([(⟨a0, a1⟩ : R_ii), (⟨a2, a3⟩ : R_ii), (⟨a4, a5⟩ : R_ii), (⟨a6, a7⟩ : R_ii), (⟨a8, a9⟩ : R_ii), (⟨a10, a11⟩ : R_ii), (⟨a12, a13⟩ : R_ii), (⟨a14, a15⟩ : R_ii)] : List R_ii).getD (a18).toNat R_ii.z).a0 = (2 : Int) ∧ (([(⟨a0, a1⟩ : R_ii), (⟨a2, a3⟩ : R_ii), (⟨a4, a5⟩ : R_ii), (⟨a6, a7⟩ : R_ii), (⟨a8, a9⟩ : R_ii), (⟨a10, a11⟩ : R_ii), (⟨a12, a13⟩ : R_ii), (⟨a14, a15⟩ : R_ii)] : List R_ii).getD (a18).toNat R_ii.z).a1 = (0 : Int)) then
                some (.r0 (a0) (a1) (a2) (a3) (a4) (a5) (a6) (a7) (a8) (a9) (a10) (a11) (a12) (a13) (a14) (a15) (a19) ((0 : Int)) : ref14_DoR)
              else
              if ((([(⟨a0, a1⟩ : R_ii), (⟨a2, a3⟩ : R_ii), (⟨a4, a5⟩ : R_ii), (⟨a6, a7⟩ : R_ii), (⟨a8, a9⟩ : R_ii), (⟨a10, a11⟩ : R_ii), (⟨a12, a13⟩ : R_ii), (⟨a14, a15⟩ : R_ii)] : List R_ii).getD (a18).toNat R_ii.z).a0 = (1 : Int) ∧ (([(⟨a0, a1⟩ : R_ii), (⟨a2, a3⟩ : R_ii), (⟨a4, a5⟩ : R_ii), (⟨a6, a7⟩ : R_ii), (⟨a8, a9⟩ : R_ii), (⟨a10, a11⟩ : R_ii), (⟨a12, a13⟩ : R_ii), (⟨a14, a15⟩ : R_ii)] : List R_ii).getD (a18).toNat R_ii.z).a1 = (0 : Int)) then
                some (.r0 (a0) (a1) (a2) (a3) (a4) (a5) (a6) (a7) (a8) (a9) (a10) (a11) (a12) (a13) (a14) (a15) (a19) ((0 : Int)) : ref14_DoR)
              else
              some (.r0 (a0) (a1) (a2) (a3) (a4) (a5) (a6) (a7) (a8) (a9) (a10) (a11) (a12) (a13) (a14) (a15) ((a16 + (1 : Int))) ((0 : Int)) : ref14_DoR)
            else
            none
          else
          none
        else
        ((ref14_made (a0) (a1) (a2) (a3) (a4) (a5) (a6) (a7) (a8) (a9) (a10) (a11) (a12) (a13) (a14) (a15) (a17) (a18) (a19) (a20) (a21) (a22) N).bind fun r => match r with
        | .r0 y8_0 y8_1 y8_2 =>
          if ¬ (y8_2 = (0 : Int)) then
            some (.r0 ((0 : Int)) ((0 : Int)) ((0 : Int)) ((0 : Int)) ((0 : Int)) ((0 : Int)) ((0 : Int)) ((0 : Int)) ((0 : Int)) ((0 : Int)) ((0 : Int)) ((0 : Int)) ((0 : Int)) ((0 : Int)) ((0 : Int)) ((0 : Int)) ((0 : Int)) (y8_2) : ref14_DoR)
          else
          ((ref14_Put (a0) (a1) (a2) (a3) (a4) (a5) (a6) (a7) (a8) (a9) (a10) (a11) (a12) (a13) (a14) (a15) (a18) (y8_0) (y8_1) N).bind fun r => match r with
          | .r0 y10_0 y10_1 y10_2 y10_3 y10_4 y10_5 y10_6 y10_7 y10_8 y10_9 y10_10 y10_11 y10_12 y10_13 y10_14 y10_15 =>
            some (.r0 (y10_0) (y10_1) (y10_2) (y10_3) (y10_4) (y10_5) (y10_6) (y10_7) (y10_8) (y10_9) (y10_10) (y10_11) (y10_12) (y10_13) (y10_14) (y10_15) ((a16 + (1 : Int))) ((0 : Int)) : ref14_DoR)
          )
        )
      else
      if a17 = (19 : Int) then
        if a16 < (0 : Int) then
          some (.r0 ((0 : Int)) ((0 : Int)) ((0 : Int)) ((0 : Int)) ((0 : Int)) ((0 : Int)) ((0 : Int)) ((0 : Int)) ((0 : Int)) ((0 : Int)) ((0 : Int)) ((0 : Int)) ((0 : Int)) ((0 : Int)) ((0 : Int)) ((0 : Int)) ((0 : Int)) ((5 : Int)) : ref14_DoR)
        else
        if (511 : Int) < a16 then
          some (.r0 ((0 : Int)) ((0 : Int)) ((0 : Int)) ((0 : Int)) ((0 : Int)) ((0 : Int)) ((0 : Int)) ((0 : Int)) ((0 : Int)) ((0 : Int)) ((0 : Int)) ((0 : Int)) ((0 : Int)) ((0 : Int)) ((0 : Int)) ((0 : Int)) ((0 : Int)) ((5 : Int)) : ref14_DoR)
        else
        some (.r0 (a0) (a1) (a2) (a3) (a4) (a5) (a6) (a7) (a8) (a9) (a10) (a11) (a12) (a13) (a14) (a15) ((a16 + (1 : Int))) ((0 : Int)) : ref14_DoR)
      else
      some (.r0 ((0 : Int)) ((0 : Int)) ((0 : Int)) ((0 : Int)) ((0 : Int)) ((0 : Int)) ((0 : Int)) ((0 : Int)) ((0 : Int)) ((0 : Int)) ((0 : Int)) ((0 : Int)) ((0 : Int)) ((0 : Int)) ((0 : Int)) ((0 : Int)) ((0 : Int)) ((100 : Int)) : ref14_DoR)
    else
    some (.r0 ((0 : Int)) ((0 : Int)) ((0 : Int)) ((0 : Int)) ((0 : Int)) ((0 : Int)) ((0 : Int)) ((0 : Int)) ((0 : Int)) ((0 : Int)) ((0 : Int)) ((0 : Int)) ((0 : Int)) ((0 : Int)) ((0 : Int)) ((0 : Int)) ((0 : Int)) ((100 : Int)) : ref14_DoR)
  )

/-- gantlet/gantletlaw14.RegsRuns -/
inductive law14_RegsRunsR where
  | r0 (w2 : Bool)

inductive law14_RegsRunsX where
  | h1m0 (v4 : Int) (v5 : Nat) (v8 : Int) (v9 : Int) (v10 : Int) (v11 : Int) (v12 : Int) (v13 : Int) (v14 : Int) (v15 : Int) (v16 : Int) (v17 : Int) (v18 : Int) (v19 : Int) (v20 : Int) (v21 : Int) (v22 : Int) (v23 : Int) (v24 : Int) (v25 : Int) (v26 : Int) (v27 : Int) (v28 : Int) (v29 : Int) (v30 : Int) (v31 : Int) (v32 : Int) (v33 : Int) (v34 : Int) (v35 : Int) (v36 : Int) (v37 : Int) (v38 : Int) (v39 : Int)

def law14_RegsRuns_h1m0 (L1 : List R_iiii) (n2 : Nat) (n3 : Nat) (a4 : Int) (a5 : Int) (N : Nat) (v4 : Int) (v5 : Nat) (v8 : Int) (v9 : Int) (v10 : Int) (v11 : Int) (v12 : Int) (v13 : Int) (v14 : Int) (v15 : Int) (v16 : Int) (v17 : Int) (v18 : Int) (v19 : Int) (v20 : Int) (v21 : Int) (v22 : Int) (v23 : Int) (v24 : Int) (v25 : Int) (v26 : Int) (v27 : Int) (v28 : Int) (v29 : Int) (v30 : Int) (v31 : Int) (v32 : Int) (v33 : Int) (v34 : Int) (v35 : Int) (v36 : Int) (v37 : Int) (v38 : Int) (v39 : Int) : Option (law14_RegsRunsX ⊕ law14_RegsRunsR) :=
  if ((v5 : Nat) : Int) < (60 : Int) then
    if v4 < ((n2 : Nat) : Int) then
      if v4 < (100 : Int) then
        if (0 : Int) ≤ v4 then
          if (v4).toNat < L1.length then
            ((regs_Do (v8) (v9) (v10) (v11) (v12) (v13) (v14) (v15) (v16) (v17) (v18) (v19) (v20) (v21) (v22) (v23) (v4) ((L1.getD (v4).toNat R_iiii.z).a0) ((L1.getD (v4).toNat R_iiii.z).a1) ((L1.getD (v4).toNat R_iiii.z).a2) ((L1.getD (v4).toNat R_iiii.z).a3) (a4) (a5) N).bind fun r => match r with
            | .r0 y5_0 y5_1 y5_2 y5_3 y5_4 y5_5 y5_6 y5_7 y5_8 y5_9 y5_10 y5_11 y5_12 y5_13 y5_14 y5_15 y5_16 y5_17 =>
              ((ref14_Do (v24) (v25) (v26) (v27) (v28) (v29) (v30) (v31) (v32) (v33) (v34) (v35) (v36) (v37) (v38) (v39) (v4) ((L1.getD (v4).toNat R_iiii.z).a0) ((L1.getD (v4).toNat R_iiii.z).a1) ((L1.getD (v4).toNat R_iiii.z).a2) ((L1.getD (v4).toNat R_iiii.z).a3) (a4) (a5) N).bind fun r => match r with
              | .r0 y6_0 y6_1 y6_2 y6_3 y6_4 y6_5 y6_6 y6_7 y6_8 y6_9 y6_10 y6_11 y6_12 y6_13 y6_14 y6_15 y6_16 y6_17 =>
                if ¬ (((y5_0 = y6_0 ∧ y5_1 = y6_1) ∧ (y5_2 = y6_2 ∧ y5_3 = y6_3) ∧ (y5_4 = y6_4 ∧ y5_5 = y6_5) ∧ (y5_6 = y6_6 ∧ y5_7 = y6_7) ∧ (y5_8 = y6_8 ∧ y5_9 = y6_9) ∧ (y5_10 = y6_10 ∧ y5_11 = y6_11) ∧ (y5_12 = y6_12 ∧ y5_13 = y6_13) ∧ (y5_14 = y6_14 ∧ y5_15 = y6_15))) then
                  some (.inr (.r0 (false) : law14_RegsRunsR))
                else
                if ¬ (y5_16 = y6_16) then
                  some (.inr (.r0 (false) : law14_RegsRunsR))
                else
                if ¬ (y5_17 = y6_17) then
                  some (.inr (.r0 (false) : law14_RegsRunsR))
                else
                if ¬ (y5_17 = (0 : Int)) then
                  some (.inr (.r0 (true) : law14_RegsRunsR))
                else
                some (.inl (.h1m0 (y5_16) ((v5 + 1)) (y5_0) (y5_1) (y5_2) (y5_3) (y5_4) (y5_5) (y5_6) (y5_7) (y5_8) (y5_9) (y5_10) (y5_11) (y5_12) (y5_13) (y5_14) (y5_15) (y6_0) (y6_1) (y6_2) (y6_3) (y6_4) (y6_5) (y6_6) (y6_7) (y6_8) (y6_9) (y6_10) (y6_11) (y6_12) (y6_13) (y6_14) (y6_15) : law14_RegsRunsX))
              )
            )
          else
          none
        else
        none
      else
      some (.inr (.r0 (true) : law14_RegsRunsR))
    else
    some (.inr (.r0 (true) : law14_RegsRunsR))
  else
  some (.inr (.r0 (true) : law14_RegsRunsR))

def law14_RegsRunsStep (L1 : List R_iiii) (n2 : Nat) (n3 : Nat) (a4 : Int) (a5 : Int) (N : Nat) : law14_RegsRunsX → Option (law14_RegsRunsX ⊕ law14_RegsRunsR)
  | .h1m0 v4 v5 v8 v9 v10 v11 v12 v13 v14 v15 v16 v17 v18 v19 v20 v21 v22 v23 v24 v25 v26 v27 v28 v29 v30 v31 v32 v33 v34 v35 v36 v37 v38 v39 => law14_RegsRuns_h1m0 L1 n2 n3 a4 a5 N v4 v5 v8 v9 v10 v11 v12 v13 v14 v15 v16 v17 v18 v19 v20 v21 v22 v23 v24 v25 v26 v27 v28 v29 v30 v31 v32 v33 v34 v35 v36 v37 v38 v39

def law14_RegsRunsIn (L1 : List R_iiii) (n2 : Nat) (n3 : Nat) (a4 : Int) (a5 : Int) (N : Nat) : Option (law14_RegsRunsX ⊕ law14_RegsRunsR) :=
  some (.inl (.h1m0 ((0 : Int)) (0) ((1 : Int)) ((0 : Int)) ((1 : Int)) ((0 : Int)) ((1 : Int)) ((0 : Int)) ((1 : Int)) ((0 : Int)) ((1 : Int)) ((0 : Int)) ((1 : Int)) ((0 : Int)) ((1 : Int)) ((0 : Int)) ((1 : Int)) ((0 : Int)) ((1 : Int)) ((0 : Int)) ((1 : Int)) ((0 : Int)) ((1 : Int)) ((0 : Int)) ((1 : Int)) ((0 : Int)) ((1 : Int)) ((0 : Int)) ((1 : Int)) ((0 : Int)) ((1 : Int)) ((0 : Int)) ((1 : Int)) ((0 : Int)) : law14_RegsRunsX))

def law14_RegsRuns (L1 : List R_iiii) (n2 : Nat) (n3 : Nat) (a4 : Int) (a5 : Int) (N : Nat) : Option law14_RegsRunsR := goM (law14_RegsRunsStep L1 n2 n3 a4 a5 N) N (law14_RegsRunsIn L1 n2 n3 a4 a5 N)

/-- gantlet/gantletlaw14.RegsRuns -/
inductive law14_RegsRuns_2R where
  | r0

inductive law14_RegsRuns_2X where
  | h1m0

def law14_RegsRuns_2_h1m0 (a0 : Int) (a1 : Int) (N : Nat) : Option (law14_RegsRuns_2X ⊕ law14_RegsRuns_2R) :=
  some (.inr (.r0 : law14_RegsRuns_2R))

def law14_RegsRuns_2Step (a0 : Int) (a1 : Int) (N : Nat) : law14_RegsRuns_2X → Option (law14_RegsRuns_2X ⊕ law14_RegsRuns_2R)
  | .h1m0 => law14_RegsRuns_2_h1m0 a0 a1 N

def law14_RegsRuns_2In (a0 : Int) (a1 : Int) (N : Nat) : Option (law14_RegsRuns_2X ⊕ law14_RegsRuns_2R) :=
  some (.inl (.h1m0 : law14_RegsRuns_2X))

def law14_RegsRuns_2 (a0 : Int) (a1 : Int) (N : Nat) : Option law14_RegsRuns_2R := goM (law14_RegsRuns_2Step a0 a1 N) N (law14_RegsRuns_2In a0 a1 N)
end Ev
end Go.Proofs.Ytnahodeffgoccaa
