/- Records, and the program's functions as plain ones. -/
import Derived.Test.YtnahodeffgoccaaFm
namespace Go.Proofs.Ytnahodeffgoccaa
open Go.RowKit
namespace Ev
set_option linter.unusedVariables false
structure R_ii where
  a0 : Int
  a1 : Int
def R_ii.z : R_ii := ⟨0, 0⟩
/-- gantlet/instr.kind -/
inductive instr_kindR where
  | r0
  | r1
  | r2
  | r3
  | r4
  | r5
  | r6
  | r7
  | r8
  | r9
  | r10
  | r11
  | r12
  | r13
  | r14
  | r15
  | r16
  | r17
  | r18
  | r19
  | r20

def instr_kind (a0 : Int) (N : Nat) : Option instr_kindR :=
  if a0 < (0 : Int) then
    some (.r0 : instr_kindR)
  else
  if (21 : Int) ≤ a0 then
    some (.r0 : instr_kindR)
  else
  if a0 = (0 : Int) then
    some (.r0 : instr_kindR)
  else
  if a0 = (1 : Int) then
    some (.r1 : instr_kindR)
  else
  if a0 = (2 : Int) then
    some (.r2 : instr_kindR)
  else
  if a0 = (3 : Int) then
    some (.r3 : instr_kindR)
  else
  if a0 = (4 : Int) then
    some (.r4 : instr_kindR)
  else
  if a0 = (5 : Int) then
    some (.r5 : instr_kindR)
  else
  if a0 = (6 : Int) then
    some (.r6 : instr_kindR)
  else
  if a0 = (7 : Int) then
    some (.r7 : instr_kindR)
  else
  if a0 = (8 : Int) then
    some (.r8 : instr_kindR)
  else
  if a0 = (9 : Int) then
    some (.r9 : instr_kindR)
  else
  if a0 = (10 : Int) then
    some (.r10 : instr_kindR)
  else
  if a0 = (11 : Int) then
    some (.r11 : instr_kindR)
  else
  if a0 = (12 : Int) then
    some (.r12 : instr_kindR)
  else
  if a0 = (13 : Int) then
    some (.r13 : instr_kindR)
  else
  if a0 = (14 : Int) then
    some (.r14 : instr_kindR)
  else
  if a0 = (15 : Int) then
    some (.r15 : instr_kindR)
  else
  if a0 = (16 : Int) then
    some (.r16 : instr_kindR)
  else
  if a0 = (17 : Int) then
    some (.r17 : instr_kindR)
  else
  if a0 = (18 : Int) then
    some (.r18 : instr_kindR)
  else
  if a0 = (19 : Int) then
    some (.r19 : instr_kindR)
  else
  some (.r20 : instr_kindR)

/-- (gantlet/instr.shape).fits -/
inductive instr_shape_fitsR where
  | r0 (w0 : Bool)

def instr_shape_fits (a0 : Int) (a1 : Int) (a2 : Int) (N : Nat) : Option instr_shape_fitsR :=
  if a0 = (1 : Int) then
    if (0 : Int) ≤ a1 then
      if a1 ≤ (7 : Int) then
        some (.r0 (true) : instr_shape_fitsR)
      else
      some (.r0 (false) : instr_shape_fitsR)
    else
    some (.r0 (false) : instr_shape_fitsR)
  else
  if a0 = (2 : Int) then
    if (0 : Int) ≤ a1 then
      if a1 ≤ (15 : Int) then
        some (.r0 (true) : instr_shape_fitsR)
      else
      some (.r0 (false) : instr_shape_fitsR)
    else
    some (.r0 (false) : instr_shape_fitsR)
  else
  if a0 = (3 : Int) then
    if (1 : Int) ≤ a1 then
      if a1 ≤ (16 : Int) then
        some (.r0 (true) : instr_shape_fitsR)
      else
      some (.r0 (false) : instr_shape_fitsR)
    else
    some (.r0 (false) : instr_shape_fitsR)
  else
  if a0 = (4 : Int) then
    if (0 : Int) ≤ a1 then
      if a1 ≤ (512 : Int) then
        some (.r0 (true) : instr_shape_fitsR)
      else
      some (.r0 (false) : instr_shape_fitsR)
    else
    some (.r0 (false) : instr_shape_fitsR)
  else
  if a0 = (5 : Int) then
    if (0 : Int) ≤ a2 then
      if a2 ≤ (64 : Int) then
        if (0 : Int) ≤ a1 then
          if a1 ≤ (IntKind.i64.wrap ((IntKind.i64.wrap ((1 : Int) * (2 ^ (a2).toNat : Int))) - (1 : Int))) then
            some (.r0 (true) : instr_shape_fitsR)
          else
          some (.r0 (false) : instr_shape_fitsR)
        else
        some (.r0 (false) : instr_shape_fitsR)
      else
      none
    else
    none
  else
  if a0 = (6 : Int) then
    if (-1099511627776 : Int) ≤ a1 then
      if a1 ≤ (1099511627776 : Int) then
        some (.r0 (true) : instr_shape_fitsR)
      else
      some (.r0 (false) : instr_shape_fitsR)
    else
    some (.r0 (false) : instr_shape_fitsR)
  else
  if (0 : Int) ≤ a1 then
    if a1 ≤ (0 : Int) then
      some (.r0 (true) : instr_shape_fitsR)
    else
    some (.r0 (false) : instr_shape_fitsR)
  else
  some (.r0 (false) : instr_shape_fitsR)

/-- gantlet/instr.Check -/
inductive instr_CheckR where
  | r0 (w0 : Int)

inductive instr_CheckX where
  | h1m0 (v1 : Nat) (v2 : Nat) (v3 : Nat)
  | h1m1 (v1 : Nat) (v2 : Nat) (v3 : Nat)
  | h1m2 (v1 : Nat) (v2 : Nat) (v3 : Nat)
  | h1m3 (v1 : Nat) (v2 : Nat) (v3 : Nat)

def instr_Check_h1m0 (a0 : Int) (a1 : Int) (a2 : Int) (a3 : Int) (N : Nat) (v1 : Nat) (v2 : Nat) (v3 : Nat) : Option (instr_CheckX ⊕ instr_CheckR) :=
  ((instr_shape_fits (((v1 : Nat) : Int)) (a1) ((0 : Int)) N).bind fun r => match r with
  | .r0 y0_0 =>
    if ¬ (y0_0 = true) then
      some (.inr (.r0 ((100 : Int)) : instr_CheckR))
    else
    some (.inl (.h1m1 (v1) (v2) (v3) : instr_CheckX))
  )

def instr_Check_h1m1 (a0 : Int) (a1 : Int) (a2 : Int) (a3 : Int) (N : Nat) (v1 : Nat) (v2 : Nat) (v3 : Nat) : Option (instr_CheckX ⊕ instr_CheckR) :=
  ((instr_shape_fits (((v2 : Nat) : Int)) (a2) (a1) N).bind fun r => match r with
  | .r0 y0_0 =>
    if ¬ (y0_0 = true) then
      some (.inr (.r0 ((100 : Int)) : instr_CheckR))
    else
    some (.inl (.h1m2 (v1) (v2) (v3) : instr_CheckX))
  )

def instr_Check_h1m2 (a0 : Int) (a1 : Int) (a2 : Int) (a3 : Int) (N : Nat) (v1 : Nat) (v2 : Nat) (v3 : Nat) : Option (instr_CheckX ⊕ instr_CheckR) :=
  ((instr_shape_fits (((v3 : Nat) : Int)) (a3) (a2) N).bind fun r => match r with
  | .r0 y0_0 =>
    if ¬ (y0_0 = true) then
      some (.inr (.r0 ((100 : Int)) : instr_CheckR))
    else
    some (.inl (.h1m3 (v1) (v2) (v3) : instr_CheckX))
  )

def instr_Check_h1m3 (a0 : Int) (a1 : Int) (a2 : Int) (a3 : Int) (N : Nat) (v1 : Nat) (v2 : Nat) (v3 : Nat) : Option (instr_CheckX ⊕ instr_CheckR) :=
  some (.inr (.r0 ((0 : Int)) : instr_CheckR))

def instr_CheckStep (a0 : Int) (a1 : Int) (a2 : Int) (a3 : Int) (N : Nat) : instr_CheckX → Option (instr_CheckX ⊕ instr_CheckR)
  | .h1m0 v1 v2 v3 => instr_Check_h1m0 a0 a1 a2 a3 N v1 v2 v3
  | .h1m1 v1 v2 v3 => instr_Check_h1m1 a0 a1 a2 a3 N v1 v2 v3
  | .h1m2 v1 v2 v3 => instr_Check_h1m2 a0 a1 a2 a3 N v1 v2 v3
  | .h1m3 v1 v2 v3 => instr_Check_h1m3 a0 a1 a2 a3 N v1 v2 v3

def instr_CheckIn (a0 : Int) (a1 : Int) (a2 : Int) (a3 : Int) (N : Nat) : Option (instr_CheckX ⊕ instr_CheckR) :=
  ((instr_kind (a0) N).bind fun r => match r with
  | .r0 =>
    some (.inr (.r0 ((100 : Int)) : instr_CheckR))
  | .r1 =>
    some (.inl (.h1m0 (1) (6) (0) : instr_CheckX))
  | .r2 =>
    some (.inl (.h1m0 (1) (0) (0) : instr_CheckX))
  | .r3 =>
    some (.inl (.h1m0 (1) (1) (0) : instr_CheckX))
  | .r4 =>
    some (.inl (.h1m0 (1) (1) (1) : instr_CheckX))
  | .r5 =>
    some (.inl (.h1m0 (1) (1) (1) : instr_CheckX))
  | .r6 =>
    some (.inl (.h1m0 (1) (1) (1) : instr_CheckX))
  | .r7 =>
    some (.inl (.h1m0 (1) (1) (1) : instr_CheckX))
  | .r8 =>
    some (.inl (.h1m0 (4) (0) (0) : instr_CheckX))
  | .r9 =>
    some (.inl (.h1m0 (1) (4) (0) : instr_CheckX))
  | .r10 =>
    some (.inl (.h1m0 (1) (0) (0) : instr_CheckX))
  | .r11 =>
    some (.inl (.h1m0 (1) (3) (5) : instr_CheckX))
  | .r12 =>
    some (.inl (.h1m0 (1) (0) (0) : instr_CheckX))
  | .r13 =>
    some (.inl (.h1m0 (1) (1) (2) : instr_CheckX))
  | .r14 =>
    some (.inl (.h1m0 (1) (2) (1) : instr_CheckX))
  | .r15 =>
    some (.inl (.h1m0 (0) (0) (0) : instr_CheckX))
  | .r16 =>
    some (.inl (.h1m0 (0) (0) (0) : instr_CheckX))
  | .r17 =>
    some (.inl (.h1m0 (0) (0) (0) : instr_CheckX))
  | .r18 =>
    some (.inl (.h1m0 (0) (0) (0) : instr_CheckX))
  | .r19 =>
    some (.inl (.h1m0 (1) (0) (0) : instr_CheckX))
  | .r20 =>
    some (.inl (.h1m0 (0) (0) (0) : instr_CheckX))
  )

def instr_Check (a0 : Int) (a1 : Int) (a2 : Int) (a3 : Int) (N : Nat) : Option instr_CheckR := goM (instr_CheckStep a0 a1 a2 a3 N) N (instr_CheckIn a0 a1 a2 a3 N)

/-- gantlet/value.Add -/
inductive value_AddR where
  | r0 (w0 : Int) (w1 : Int) (w2 : Int)

def value_Add (a0 : Int) (a1 : Int) (a2 : Int) (a3 : Int) (N : Nat) : Option value_AddR :=
  if a0 = (1 : Int) then
    if a2 = (1 : Int) then
      some (.r0 ((1 : Int)) ((IntKind.i64.wrap (a1 + a3))) ((0 : Int)) : value_AddR)
    else
    some (.r0 ((0 : Int)) ((0 : Int)) ((10 : Int)) : value_AddR)
  else
  some (.r0 ((0 : Int)) ((0 : Int)) ((10 : Int)) : value_AddR)

/-- gantlet/value.Sub -/
inductive value_SubR where
  | r0 (w0 : Int) (w1 : Int) (w2 : Int)

def value_Sub (a0 : Int) (a1 : Int) (a2 : Int) (a3 : Int) (N : Nat) : Option value_SubR :=
  if a0 = (1 : Int) then
    if a2 = (1 : Int) then
      some (.r0 ((1 : Int)) ((IntKind.i64.wrap (a1 - a3))) ((0 : Int)) : value_SubR)
    else
    some (.r0 ((0 : Int)) ((0 : Int)) ((10 : Int)) : value_SubR)
  else
  some (.r0 ((0 : Int)) ((0 : Int)) ((10 : Int)) : value_SubR)

/-- gantlet/value.Less -/
inductive value_LessR where
  | r0 (w0 : Int) (w1 : Int) (w2 : Int)

def value_Less (a0 : Int) (a1 : Int) (a2 : Int) (a3 : Int) (N : Nat) : Option value_LessR :=
  if a0 = (1 : Int) then
    if a2 = (1 : Int) then
      if a1 < a3 then
        some (.r0 ((1 : Int)) ((1 : Int)) ((0 : Int)) : value_LessR)
      else
      some (.r0 ((1 : Int)) ((0 : Int)) ((0 : Int)) : value_LessR)
    else
    some (.r0 ((0 : Int)) ((0 : Int)) ((10 : Int)) : value_LessR)
  else
  some (.r0 ((0 : Int)) ((0 : Int)) ((10 : Int)) : value_LessR)

/-- gantlet/regs.result -/
inductive regs_resultR where
  | r0 (w0 : Int) (w1 : Int) (w2 : Int)

def regs_result (a0 : Int) (a1 : Int) (a2 : Int) (a3 : Int) (a4 : Int) (a5 : Int) (a6 : Int) (a7 : Int) (a8 : Int) (a9 : Int) (a10 : Int) (a11 : Int) (a12 : Int) (a13 : Int) (a14 : Int) (a15 : Int) (a16 : Int) (a17 : Int) (a18 : Int) (a19 : Int) (a20 : Int) (a21 : Int) (N : Nat) : Option regs_resultR :=
  if a16 = (1 : Int) then
    some (.r0 ((1 : Int)) (a18) ((0 : Int)) : regs_resultR)
  else
  if a16 = (2 : Int) then
    some (.r0 ((2 : Int)) ((0 : Int)) ((0 : Int)) : regs_resultR)
  else
  if a16 = (3 : Int) then
    if (0 : Int) ≤ a18 then
      if (a18).toNat < 8 then
        some (.r0 ((([(⟨a0, a1⟩ : R_ii), (⟨a2, a3⟩ : R_ii), (⟨a4, a5⟩ : R_ii), (⟨a6, a7⟩ : R_ii), (⟨a8, a9⟩ : R_ii), (⟨a10, a11⟩ : R_ii), (⟨a12, a13⟩ : R_ii), (⟨a14, a15⟩ : R_ii)] : List R_ii).getD (a18).toNat R_ii.z).a0) ((([(⟨a0, a1⟩ : R_ii), (⟨a2, a3⟩ : R_ii), (⟨a4, a5⟩ : R_ii), (⟨a6, a7⟩ : R_ii), (⟨a8, a9⟩ : R_ii), (⟨a10, a11⟩ : R_ii), (⟨a12, a13⟩ : R_ii), (⟨a14, a15⟩ : R_ii)] : List R_ii).getD (a18).toNat R_ii.z).a1) ((0 : Int)) : regs_resultR)
      else
      none
    else
    none
  else
  if a16 = (4 : Int) then
    if (0 : Int) ≤ a18 then
      if (a18).toNat < 8 then
        if (0 : Int) ≤ a19 then
          if (a19).toNat < 8 then
            ((value_Add ((([(⟨a0, a1⟩ : R_ii), (⟨a2, a3⟩ : R_ii), (⟨a4, a5⟩ : R_ii), (⟨a6, a7⟩ : R_ii), (⟨a8, a9⟩ : R_ii), (⟨a10, a11⟩ : R_ii), (⟨a12, a13⟩ : R_ii), (⟨a14, a15⟩ : R_ii)] : List R_ii).getD (a18).toNat R_ii.z).a0) ((([(⟨a0, a1⟩ : R_ii), (⟨a2, a3⟩ : R_ii), (⟨a4, a5⟩ : R_ii), (⟨a6, a7⟩ : R_ii), (⟨a8, a9⟩ : R_ii), (⟨a10, a11⟩ : R_ii), (⟨a12, a13⟩ : R_ii), (⟨a14, a15⟩ : R_ii)] : List R_ii).getD (a18).toNat R_ii.z).a1) ((([(⟨a0, a1⟩ : R_ii), (⟨a2, a3⟩ : R_ii), (⟨a4, a5⟩ : R_ii), (⟨a6, a7⟩ : R_ii), (⟨a8, a9⟩ : R_ii), (⟨a10, a11⟩ : R_ii), (⟨a12, a13⟩ : R_ii), (⟨a14, a15⟩ : R_ii)] : List R_ii).getD (a19).toNat R_ii.z).a0) ((([(⟨a0, a1⟩ : R_ii), (⟨a2, a3⟩ : R_ii), (⟨a4, a5⟩ : R_ii), (⟨a6, a7⟩ : R_ii), (⟨a8, a9⟩ : R_ii), (⟨a10, a11⟩ : R_ii), (⟨a12, a13⟩ : R_ii), (⟨a14, a15⟩ : R_ii)] : List R_ii).getD (a19).toNat R_ii.z).a1) N).bind fun r => match r with
            | .r0 y8_0 y8_1 y8_2 =>
              some (.r0 (y8_0) (y8_1) (y8_2) : regs_resultR)
            )
          else
          none
        else
        none
      else
      none
    else
    none
  else
  if a16 = (5 : Int) then
    if (0 : Int) ≤ a18 then
      if (a18).toNat < 8 then
        if (0 : Int) ≤ a19 then
          if (a19).toNat < 8 then
            ((value_Sub ((([(⟨a0, a1⟩ : R_ii), (⟨a2, a3⟩ : R_ii), (⟨a4, a5⟩ : R_ii), (⟨a6, a7⟩ : R_ii), (⟨a8, a9⟩ : R_ii), (⟨a10, a11⟩ : R_ii), (⟨a12, a13⟩ : R_ii), (⟨a14, a15⟩ : R_ii)] : List R_ii).getD (a18).toNat R_ii.z).a0) ((([(⟨a0, a1⟩ : R_ii), (⟨a2, a3⟩ : R_ii), (⟨a4, a5⟩ : R_ii), (⟨a6, a7⟩ : R_ii), (⟨a8, a9⟩ : R_ii), (⟨a10, a11⟩ : R_ii), (⟨a12, a13⟩ : R_ii), (⟨a14, a15⟩ : R_ii)] : List R_ii).getD (a18).toNat R_ii.z).a1) ((([(⟨a0, a1⟩ : R_ii), (⟨a2, a3⟩ : R_ii), (⟨a4, a5⟩ : R_ii), (⟨a6, a7⟩ : R_ii), (⟨a8, a9⟩ : R_ii), (⟨a10, a11⟩ : R_ii), (⟨a12, a13⟩ : R_ii), (⟨a14, a15⟩ : R_ii)] : List R_ii).getD (a19).toNat R_ii.z).a0) ((([(⟨a0, a1⟩ : R_ii), (⟨a2, a3⟩ : R_ii), (⟨a4, a5⟩ : R_ii), (⟨a6, a7⟩ : R_ii), (⟨a8, a9⟩ : R_ii), (⟨a10, a11⟩ : R_ii), (⟨a12, a13⟩ : R_ii), (⟨a14, a15⟩ : R_ii)] : List R_ii).getD (a19).toNat R_ii.z).a1) N).bind fun r => match r with
            | .r0 y9_0 y9_1 y9_2 =>
              some (.r0 (y9_0) (y9_1) (y9_2) : regs_resultR)
            )
          else
          none
        else
        none
      else
      none
    else
    none
  else
  if a16 = (6 : Int) then
    if (0 : Int) ≤ a18 then
      if (a18).toNat < 8 then
        if (0 : Int) ≤ a19 then
          if (a19).toNat < 8 then
            ((value_Less ((([(⟨a0, a1⟩ : R_ii), (⟨a2, a3⟩ : R_ii), (⟨a4, a5⟩ : R_ii), (⟨a6, a7⟩ : R_ii), (⟨a8, a9⟩ : R_ii), (⟨a10, a11⟩ : R_ii), (⟨a12, a13⟩ : R_ii), (⟨a14, a15⟩ : R_ii)] : List R_ii).getD (a18).toNat R_ii.z).a0) ((([(⟨a0, a1⟩ : R_ii), (⟨a2, a3⟩ : R_ii), (⟨a4, a5⟩ : R_ii), (⟨a6, a7⟩ : R_ii), (⟨a8, a9⟩ : R_ii), (⟨a10, a11⟩ : R_ii), (⟨a12, a13⟩ : R_ii), (⟨a14, a15⟩ : R_ii)] : List R_ii).getD (a18).toNat R_ii.z).a1) ((([(⟨a0, a1⟩ : R_ii), (⟨a2, a3⟩ : R_ii), (⟨a4, a5⟩ : R_ii), (⟨a6, a7⟩ : R_ii), (⟨a8, a9⟩ : R_ii), (⟨a10, a11⟩ : R_ii), (⟨a12, a13⟩ : R_ii), (⟨a14, a15⟩ : R_ii)] : List R_ii).getD (a19).toNat R_ii.z).a0) ((([(⟨a0, a1⟩ : R_ii), (⟨a2, a3⟩ : R_ii), (⟨a4, a5⟩ : R_ii), (⟨a6, a7⟩ : R_ii), (⟨a8, a9⟩ : R_ii), (⟨a10, a11⟩ : R_ii), (⟨a12, a13⟩ : R_ii), (⟨a14, a15⟩ : R_ii)] : List R_ii).getD (a19).toNat R_ii.z).a1) N).bind fun r => match r with
            | .r0 y10_0 y10_1 y10_2 =>
              some (.r0 (y10_0) (y10_1) (y10_2) : regs_resultR)
            )
          else
          none
        else
        none
      else
      none
    else
    none
  else
  if a16 = (7 : Int) then
    if (0 : Int) ≤ a18 then
      if (a18).toNat < 8 then
        if (0 : Int) ≤ a19 then
          if (a19).toNat < 8 then
            if ((([(⟨a0, a1⟩ : R_ii), (⟨a2, a3⟩ : R_ii), (⟨a4, a5⟩ : R_ii), (⟨a6, a7⟩ : R_ii), (⟨a8, a9⟩ : R_ii), (⟨a10, a11⟩ : R_ii), (⟨a12, a13⟩ : R_ii), (⟨a14, a15⟩ : R_ii)] : List R_ii).getD (a18).toNat R_ii.z).a0 = (([(⟨a0, a1⟩ : R_ii), (⟨a2, a3⟩ : R_ii), (⟨a4, a5⟩ : R_ii), (⟨a6, a7⟩ : R_ii), (⟨a8, a9⟩ : R_ii), (⟨a10, a11⟩ : R_ii), (⟨a12, a13⟩ : R_ii), (⟨a14, a15⟩ : R_ii)] : List R_ii).getD (a19).toNat R_ii.z).a0 ∧ (([(⟨a0, a1⟩ : R_ii), (⟨a2, a3⟩ : R_ii), (⟨a4, a5⟩ : R_ii), (⟨a6, a7⟩ : R_ii), (⟨a8, a9⟩ : R_ii), (⟨a10, a11⟩ : R_ii), (⟨a12, a13⟩ : R_ii), (⟨a14, a15⟩ : R_ii)] : List R_ii).getD (a18).toNat R_ii.z).a1 = (([(⟨a0, a1⟩ : R_ii), (⟨a2, a3⟩ : R_ii), (⟨a4, a5⟩ : R_ii), (⟨a6, a7⟩ : R_ii), (⟨a8, a9⟩ : R_ii), (⟨a10, a11⟩ : R_ii), (⟨a12, a13⟩ : R_ii), (⟨a14, a15⟩ : R_ii)] : List R_ii).getD (a19).toNat R_ii.z).a1) then
              some (.r0 ((1 : Int)) ((1 : Int)) ((0 : Int)) : regs_resultR)
            else
            some (.r0 ((1 : Int)) ((0 : Int)) ((0 : Int)) : regs_resultR)
          else
          none
        else
        none
      else
      none
    else
    none
  else
  if a16 = (10 : Int) then
    some (.r0 (a20) (a21) ((0 : Int)) : regs_resultR)
  else
  if a16 = (19 : Int) then
    if (0 : Int) ≤ a17 then
      if (a17).toNat < 8 then
        some (.r0 ((([(⟨a0, a1⟩ : R_ii), (⟨a2, a3⟩ : R_ii), (⟨a4, a5⟩ : R_ii), (⟨a6, a7⟩ : R_ii), (⟨a8, a9⟩ : R_ii), (⟨a10, a11⟩ : R_ii), (⟨a12, a13⟩ : R_ii), (⟨a14, a15⟩ : R_ii)] : List R_ii).getD (a17).toNat R_ii.z).a0) ((([(⟨a0, a1⟩ : R_ii), (⟨a2, a3⟩ : R_ii), (⟨a4, a5⟩ : R_ii), (⟨a6, a7⟩ : R_ii), (⟨a8, a9⟩ : R_ii), (⟨a10, a11⟩ : R_ii), (⟨a12, a13⟩ : R_ii), (⟨a14, a15⟩ : R_ii)] : List R_ii).getD (a17).toNat R_ii.z).a1) ((0 : Int)) : regs_resultR)
      else
      none
    else
    none
  else
  some (.r0 ((0 : Int)) ((0 : Int)) ((0 : Int)) : regs_resultR)

/-- gantlet/instr.Target -/
inductive instr_TargetR where
  | r0 (w0 : Int) (w1 : Bool)

def instr_Target (a0 : Int) (a1 : Int) (a2 : Int) (a3 : Int) (N : Nat) : Option instr_TargetR :=
  if a0 = (8 : Int) then
    some (.r0 (a1) (true) : instr_TargetR)
  else
  if a0 = (9 : Int) then
    some (.r0 (a2) (true) : instr_TargetR)
  else
  some (.r0 ((0 : Int)) (false) : instr_TargetR)

/-- gantlet/regs.Put -/
inductive regs_PutR where
  | r0 (w0 : Int) (w1 : Int) (w2 : Int) (w3 : Int) (w4 : Int) (w5 : Int) (w6 : Int) (w7 : Int) (w8 : Int) (w9 : Int) (w10 : Int) (w11 : Int) (w12 : Int) (w13 : Int) (w14 : Int) (w15 : Int)

def regs_Put (a0 : Int) (a1 : Int) (a2 : Int) (a3 : Int) (a4 : Int) (a5 : Int) (a6 : Int) (a7 : Int) (a8 : Int) (a9 : Int) (a10 : Int) (a11 : Int) (a12 : Int) (a13 : Int) (a14 : Int) (a15 : Int) (a16 : Int) (a17 : Int) (a18 : Int) (N : Nat) : Option regs_PutR :=
  if (0 : Int) ≤ a16 then
    if a16 < (8 : Int) then
      some (.r0 (((([(⟨a0, a1⟩ : R_ii), (⟨a2, a3⟩ : R_ii), (⟨a4, a5⟩ : R_ii), (⟨a6, a7⟩ : R_ii), (⟨a8, a9⟩ : R_ii), (⟨a10, a11⟩ : R_ii), (⟨a12, a13⟩ : R_ii), (⟨a14, a15⟩ : R_ii)] : List R_ii).set (a16).toNat (⟨a17, a18⟩ : R_ii)).getD 0 R_ii.z).a0) (((([(⟨a0, a1⟩ : R_ii), (⟨a2, a3⟩ : R_ii), (⟨a4, a5⟩ : R_ii), (⟨a6, a7⟩ : R_ii), (⟨a8, a9⟩ : R_ii), (⟨a10, a11⟩ : R_ii), (⟨a12, a13⟩ : R_ii), (⟨a14, a15⟩ : R_ii)] : List R_ii).set (a16).toNat (⟨a17, a18⟩ : R_ii)).getD 0 R_ii.z).a1) (((([(⟨a0, a1⟩ : R_ii), (⟨a2, a3⟩ : R_ii), (⟨a4, a5⟩ : R_ii), (⟨a6, a7⟩ : R_ii), (⟨a8, a9⟩ : R_ii), (⟨a10, a11⟩ : R_ii), (⟨a12, a13⟩ : R_ii), (⟨a14, a15⟩ : R_ii)] : List R_ii).set (a16).toNat (⟨a17, a18⟩ : R_ii)).getD 1 R_ii.z).a0) (((([(⟨a0, a1⟩ : R_ii), (⟨a2, a3⟩ : R_ii), (⟨a4, a5⟩ : R_ii), (⟨a6, a7⟩ : R_ii), (⟨a8, a9⟩ : R_ii), (⟨a10, a11⟩ : R_ii), (⟨a12, a13⟩ : R_ii), (⟨a14, a15⟩ : R_ii)] : List R_ii).set (a16).toNat (⟨a17, a18⟩ : R_ii)).getD 1 R_ii.z).a1) (((([(⟨a0, a1⟩ : R_ii), (⟨a2, a3⟩ : R_ii), (⟨a4, a5⟩ : R_ii), (⟨a6, a7⟩ : R_ii), (⟨a8, a9⟩ : R_ii), (⟨a10, a11⟩ : R_ii), (⟨a12, a13⟩ : R_ii), (⟨a14, a15⟩ : R_ii)] : List R_ii).set (a16).toNat (⟨a17, a18⟩ : R_ii)).getD 2 R_ii.z).a0) (((([(⟨a0, a1⟩ : R_ii), (⟨a2, a3⟩ : R_ii), (⟨a4, a5⟩ : R_ii), (⟨a6, a7⟩ : R_ii), (⟨a8, a9⟩ : R_ii), (⟨a10, a11⟩ : R_ii), (⟨a12, a13⟩ : R_ii), (⟨a14, a15⟩ : R_ii)] : List R_ii).set (a16).toNat (⟨a17, a18⟩ : R_ii)).getD 2 R_ii.z).a1) (((([(⟨a0, a1⟩ : R_ii), (⟨a2, a3⟩ : R_ii), (⟨a4, a5⟩ : R_ii), (⟨a6, a7⟩ : R_ii), (⟨a8, a9⟩ : R_ii), (⟨a10, a11⟩ : R_ii), (⟨a12, a13⟩ : R_ii), (⟨a14, a15⟩ : R_ii)] : List R_ii).set (a16).toNat (⟨a17, a18⟩ : R_ii)).getD 3 R_ii.z).a0) (((([(⟨a0, a1⟩ : R_ii), (⟨a2, a3⟩ : R_ii), (⟨a4, a5⟩ : R_ii), (⟨a6, a7⟩ : R_ii), (⟨a8, a9⟩ : R_ii), (⟨a10, a11⟩ : R_ii), (⟨a12, a13⟩ : R_ii), (⟨a14, a15⟩ : R_ii)] : List R_ii).set (a16).toNat (⟨a17, a18⟩ : R_ii)).getD 3 R_ii.z).a1) (((([(⟨a0, a1⟩ : R_ii), (⟨a2, a3⟩ : R_ii), (⟨a4, a5⟩ : R_ii), (⟨a6, a7⟩ : R_ii), (⟨a8, a9⟩ : R_ii), (⟨a10, a11⟩ : R_ii), (⟨a12, a13⟩ : R_ii), (⟨a14, a15⟩ : R_ii)] : List R_ii).set (a16).toNat (⟨a17, a18⟩ : R_ii)).getD 4 R_ii.z).a0) (((([(⟨a0, a1⟩ : R_ii), (⟨a2, a3⟩ : R_ii), (⟨a4, a5⟩ : R_ii), (⟨a6, a7⟩ : R_ii), (⟨a8, a9⟩ : R_ii), (⟨a10, a11⟩ : R_ii), (⟨a12, a13⟩ : R_ii), (⟨a14, a15⟩ : R_ii)] : List R_ii).set (a16).toNat (⟨a17, a18⟩ : R_ii)).getD 4 R_ii.z).a1) (((([(⟨a0, a1⟩ : R_ii), (⟨a2, a3⟩ : R_ii), (⟨a4, a5⟩ : R_ii), (⟨a6, a7⟩ : R_ii), (⟨a8, a9⟩ : R_ii), (⟨a10, a11⟩ : R_ii), (⟨a12, a13⟩ : R_ii), (⟨a14, a15⟩ : R_ii)] : List R_ii).set (a16).toNat (⟨a17, a18⟩ : R_ii)).getD 5 R_ii.z).a0) (((([(⟨a0, a1⟩ : R_ii), (⟨a2, a3⟩ : R_ii), (⟨a4, a5⟩ : R_ii), (⟨a6, a7⟩ : R_ii), (⟨a8, a9⟩ : R_ii), (⟨a10, a11⟩ : R_ii), (⟨a12, a13⟩ : R_ii), (⟨a14, a15⟩ : R_ii)] : List R_ii).set (a16).toNat (⟨a17, a18⟩ : R_ii)).getD 5 R_ii.z).a1) (((([(⟨a0, a1⟩ : R_ii), (⟨a2, a3⟩ : R_ii), (⟨a4, a5⟩ : R_ii), (⟨a6, a7⟩ : R_ii), (⟨a8, a9⟩ : R_ii), (⟨a10, a11⟩ : R_ii), (⟨a12, a13⟩ : R_ii), (⟨a14, a15⟩ : R_ii)] : List R_ii).set (a16).toNat (⟨a17, a18⟩ : R_ii)).getD 6 R_ii.z).a0) (((([(⟨a0, a1⟩ : R_ii), (⟨a2, a3⟩ : R_ii), (⟨a4, a5⟩ : R_ii), (⟨a6, a7⟩ : R_ii), (⟨a8, a9⟩ : R_ii), (⟨a10, a11⟩ : R_ii), (⟨a12, a13⟩ : R_ii), (⟨a14, a15⟩ : R_ii)] : List R_ii).set (a16).toNat (⟨a17, a18⟩ : R_ii)).getD 6 R_ii.z).a1) (((([(⟨a0, a1⟩ : R_ii), (⟨a2, a3⟩ : R_ii), (⟨a4, a5⟩ : R_ii), (⟨a6, a7⟩ : R_ii), (⟨a8, a9⟩ : R_ii), (⟨a10, a11⟩ : R_ii), (⟨a12, a13⟩ : R_ii), (⟨a14, a15⟩ : R_ii)] : List R_ii).set (a16).toNat (⟨a17, a18⟩ : R_ii)).getD 7 R_ii.z).a0) (((([(⟨a0, a1⟩ : R_ii), (⟨a2, a3⟩ : R_ii), (⟨a4, a5⟩ : R_ii), (⟨a6, a7⟩ : R_ii), (⟨a8, a9⟩ : R_ii), (⟨a10, a11⟩ : R_ii), (⟨a12, a13⟩ : R_ii), (⟨a14, a15⟩ : R_ii)] : List R_ii).set (a16).toNat (⟨a17, a18⟩ : R_ii)).getD 7 R_ii.z).a1) : regs_PutR)
    else
    some (.r0 (a0) (a1) (a2) (a3) (a4) (a5) (a6) (a7) (a8) (a9) (a10) (a11) (a12) (a13) (a14) (a15) : regs_PutR)
  else
  some (.r0 (a0) (a1) (a2) (a3) (a4) (a5) (a6) (a7) (a8) (a9) (a10) (a11) (a12) (a13) (a14) (a15) : regs_PutR)

/-- gantlet/regs.next -/
inductive regs_nextR where
  | r0 (w0 : Int)

def regs_next (a0 : Int) (a1 : Int) (a2 : Int) (a3 : Int) (a4 : Int) (a5 : Int) (a6 : Int) (a7 : Int) (a8 : Int) (a9 : Int) (a10 : Int) (a11 : Int) (a12 : Int) (a13 : Int) (a14 : Int) (a15 : Int) (a16 : Int) (a17 : Int) (a18 : Int) (a19 : Int) (a20 : Int) (a21 : Int) (a22 : Int) (a23 : Int) (a24 : Int) (a25 : Int) (a26 : Int) (a27 : Int) (a28 : Int) (a29 : Int) (a30 : Int) (a31 : Int) (a32 : Int) (a33 : Int) (a34 : Int) (a35 : Int) (a36 : Int) (N : Nat) : Option regs_nextR :=
  if ¬ (((a0 = a16 ∧ a1 = a17) ∧ (a2 = a18 ∧ a3 = a19) ∧ (a4 = a20 ∧ a5 = a21) ∧ (a6 = a22 ∧ a7 = a23) ∧ (a8 = a24 ∧ a9 = a25) ∧ (a10 = a26 ∧ a11 = a27) ∧ (a12 = a28 ∧ a13 = a29) ∧ (a14 = a30 ∧ a15 = a31))) then
    some (.r0 ((IntKind.i64.wrap (a32 + (1 : Int)))) : regs_nextR)
  else
  if a33 = (9 : Int) then
    if (0 : Int) ≤ a34 then
      if (a34).toNat < 8 then
        if ((([(⟨a0, a1⟩ : R_ii), (⟨a2, a3⟩ : R_ii), (⟨a4, a5⟩ : R_ii), (⟨a6, a7⟩ : R_ii), (⟨a8, a9⟩ : R_ii), (⟨a10, a11⟩ : R_ii), (⟨a12, a13⟩ : R_ii), (⟨a14, a15⟩ : R_ii)] : List R_ii).getD (a34).toNat R_ii.z).a0 = (2 : Int) ∧ (([(⟨a0, a1⟩ : R_ii), (⟨a2, a3⟩ : R_ii), (⟨a4, a5⟩ : R_ii), (⟨a6, a7⟩ : R_ii), (⟨a8, a9⟩ : R_ii), (⟨a10, a11⟩ : R_ii), (⟨a12, a13⟩ : R_ii), (⟨a14, a15⟩ : R_ii)] : List R_ii).getD (a34).toNat R_ii.z).a1 = (0 : Int)) then
          ((instr_Target (a33) (a34) (a35) (a36) N).bind fun r => match r with
          | .r0 y5_0 y5_1 =>
            some (.r0 (y5_0) : regs_nextR)
          )
        else
        if ((([(⟨a0, a1⟩ : R_ii), (⟨a2, a3⟩ : R_ii), (⟨a4, a5⟩ : R_ii), (⟨a6, a7⟩ : R_ii), (⟨a8, a9⟩ : R_ii), (⟨a10, a11⟩ : R_ii), (⟨a12, a13⟩ : R_ii), (⟨a14, a15⟩ : R_ii)] : List R_ii).getD (a34).toNat R_ii.z).a0 = (1 : Int) ∧ (([(⟨a0, a1⟩ : R_ii), (⟨a2, a3⟩ : R_ii), (⟨a4, a5⟩ : R_ii), (⟨a6, a7⟩ : R_ii), (⟨a8, a9⟩ : R_ii), (⟨a10, a11⟩ : R_ii), (⟨a12, a13⟩ : R_ii), (⟨a14, a15⟩ : R_ii)] : List R_ii).getD (a34).toNat R_ii.z).a1 = (0 : Int)) then
          ((instr_Target (a33) (a34) (a35) (a36) N).bind fun r => match r with
          | .r0 y6_0 y6_1 =>
            some (.r0 (y6_0) : regs_nextR)
          )
        else
        some (.r0 ((IntKind.i64.wrap (a32 + (1 : Int)))) : regs_nextR)
      else
      none
    else
    none
  else
  if a33 = (8 : Int) then
    ((instr_Target (a33) (a34) (a35) (a36) N).bind fun r => match r with
    | .r0 y3_0 y3_1 =>
      some (.r0 (y3_0) : regs_nextR)
    )
  else
  some (.r0 ((IntKind.i64.wrap (a32 + (1 : Int)))) : regs_nextR)

/-- gantlet/regs.Do -/
inductive regs_DoR where
  | r0 (w0 : Int) (w1 : Int) (w2 : Int) (w3 : Int) (w4 : Int) (w5 : Int) (w6 : Int) (w7 : Int) (w8 : Int) (w9 : Int) (w10 : Int) (w11 : Int) (w12 : Int) (w13 : Int) (w14 : Int) (w15 : Int) (w16 : Int) (w17 : Int)

def regs_Do (a0 : Int) (a1 : Int) (a2 : Int) (a3 : Int) (a4 : Int) (a5 : Int) (a6 : Int) (a7 : Int) (a8 : Int) (a9 : Int) (a10 : Int) (a11 : Int) (a12 : Int) (a13 : Int) (a14 : Int) (a15 : Int) (a16 : Int) (a17 : Int) (a18 : Int) (a19 : Int) (a20 : Int) (a21 : Int) (a22 : Int) (N : Nat) : Option regs_DoR :=
  ((instr_Check (a17) (a18) (a19) (a20) N).bind fun r => match r with
  | .r0 y0_0 =>
    if ¬ (y0_0 = (0 : Int)) then
      some (.r0 ((0 : Int)) ((0 : Int)) ((0 : Int)) ((0 : Int)) ((0 : Int)) ((0 : Int)) ((0 : Int)) ((0 : Int)) ((0 : Int)) ((0 : Int)) ((0 : Int)) ((0 : Int)) ((0 : Int)) ((0 : Int)) ((0 : Int)) ((0 : Int)) ((0 : Int)) ((100 : Int)) : regs_DoR)
    else
    if (1 : Int) ≤ a17 then
      if a17 ≤ (10 : Int) then
        if a16 < (0 : Int) then
          some (.r0 ((0 : Int)) ((0 : Int)) ((0 : Int)) ((0 : Int)) ((0 : Int)) ((0 : Int)) ((0 : Int)) ((0 : Int)) ((0 : Int)) ((0 : Int)) ((0 : Int)) ((0 : Int)) ((0 : Int)) ((0 : Int)) ((0 : Int)) ((0 : Int)) ((0 : Int)) ((5 : Int)) : regs_DoR)
        else
        if (512 : Int) ≤ a16 then
          some (.r0 ((0 : Int)) ((0 : Int)) ((0 : Int)) ((0 : Int)) ((0 : Int)) ((0 : Int)) ((0 : Int)) ((0 : Int)) ((0 : Int)) ((0 : Int)) ((0 : Int)) ((0 : Int)) ((0 : Int)) ((0 : Int)) ((0 : Int)) ((0 : Int)) ((0 : Int)) ((5 : Int)) : regs_DoR)
        else
        ((regs_result (a0) (a1) (a2) (a3) (a4) (a5) (a6) (a7) (a8) (a9) (a10) (a11) (a12) (a13) (a14) (a15) (a17) (a18) (a19) (a20) (a21) (a22) N).bind fun r => match r with
        | .r0 y6_0 y6_1 y6_2 =>
          if ¬ (y6_2 = (0 : Int)) then
            some (.r0 ((0 : Int)) ((0 : Int)) ((0 : Int)) ((0 : Int)) ((0 : Int)) ((0 : Int)) ((0 : Int)) ((0 : Int)) ((0 : Int)) ((0 : Int)) ((0 : Int)) ((0 : Int)) ((0 : Int)) ((0 : Int)) ((0 : Int)) ((0 : Int)) ((0 : Int)) (y6_2) : regs_DoR)
          else
          ((instr_Target (a17) (a18) (a19) (a20) N).bind fun r => match r with
          | .r0 y8_0 y8_1 =>
            if ¬ (y8_1 = true) then
              ((regs_Put (a0) (a1) (a2) (a3) (a4) (a5) (a6) (a7) (a8) (a9) (a10) (a11) (a12) (a13) (a14) (a15) (a18) (y6_0) (y6_1) N).bind fun r => match r with
              | .r0 y10_0 y10_1 y10_2 y10_3 y10_4 y10_5 y10_6 y10_7 y10_8 y10_9 y10_10 y10_11 y10_12 y10_13 y10_14 y10_15 =>
                ((regs_next (a0) (a1) (a2) (a3) (a4) (a5) (a6) (a7) (a8) (a9) (a10) (a11) (a12) (a13) (a14) (a15) (y10_0) (y10_1) (y10_2) (y10_3) (y10_4) (y10_5) (y10_6) (y10_7) (y10_8) (y10_9) (y10_10) (y10_11) (y10_12) (y10_13) (y10_14) (y10_15) (a16) (a17) (a18) (a19) (a20) N).bind fun r => match r with
                | .r0 y11_0 =>
                  some (.r0 (y10_0) (y10_1) (y10_2) (y10_3) (y10_4) (y10_5) (y10_6) (y10_7) (y10_8) (y10_9) (y10_10) (y10_11) (y10_12) (y10_13) (y10_14) (y10_15) (y11_0) ((0 : Int)) : regs_DoR)
                )
              )
            else
            ((regs_next (a0) (a1) (a2) (a3) (a4) (a5) (a6) (a7) (a8) (a9) (a10) (a11) (a12) (a13) (a14) (a15) (a0) (a1) (a2) (a3) (a4) (a5) (a6) (a7) (a8) (a9) (a10) (a11) (a12) (a13) (a14) (a15) (a16) (a17) (a18) (a19) (a20) N).bind fun r => match r with
            | .r0 y10_0 =>
              some (.r0 (a0) (a1) (a2) (a3) (a4) (a5) (a6) (a7) (a8) (a9) (a10) (a11) (a12) (a13) (a14) (a15) (y10_0) ((0 : Int)) : regs_DoR)
            )
          )
        )
      else
      if a17 = (19 : Int) then
        if a16 < (0 : Int) then
          some (.r0 ((0 : Int)) ((0 : Int)) ((0 : Int)) ((0 : Int)) ((0 : Int)) ((0 : Int)) ((0 : Int)) ((0 : Int)) ((0 : Int)) ((0 : Int)) ((0 : Int)) ((0 : Int)) ((0 : Int)) ((0 : Int)) ((0 : Int)) ((0 : Int)) ((0 : Int)) ((5 : Int)) : regs_DoR)
        else
        if (512 : Int) ≤ a16 then
          some (.r0 ((0 : Int)) ((0 : Int)) ((0 : Int)) ((0 : Int)) ((0 : Int)) ((0 : Int)) ((0 : Int)) ((0 : Int)) ((0 : Int)) ((0 : Int)) ((0 : Int)) ((0 : Int)) ((0 : Int)) ((0 : Int)) ((0 : Int)) ((0 : Int)) ((0 : Int)) ((5 : Int)) : regs_DoR)
        else
        ((regs_result (a0) (a1) (a2) (a3) (a4) (a5) (a6) (a7) (a8) (a9) (a10) (a11) (a12) (a13) (a14) (a15) (a17) (a18) (a19) (a20) (a21) (a22) N).bind fun r => match r with
        | .r0 y7_0 y7_1 y7_2 =>
          if ¬ (y7_2 = (0 : Int)) then
            some (.r0 ((0 : Int)) ((0 : Int)) ((0 : Int)) ((0 : Int)) ((0 : Int)) ((0 : Int)) ((0 : Int)) ((0 : Int)) ((0 : Int)) ((0 : Int)) ((0 : Int)) ((0 : Int)) ((0 : Int)) ((0 : Int)) ((0 : Int)) ((0 : Int)) ((0 : Int)) (y7_2) : regs_DoR)
          else
          ((instr_Target (a17) (a18) (a19) (a20) N).bind fun r => match r with
          | .r0 y9_0 y9_1 =>
            if ¬ (y9_1 = true) then
              ((regs_Put (a0) (a1) (a2) (a3) (a4) (a5) (a6) (a7) (a8) (a9) (a10) (a11) (a12) (a13) (a14) (a15) (a18) (y7_0) (y7_1) N).bind fun r => match r with
              | .r0 y11_0 y11_1 y11_2 y11_3 y11_4 y11_5 y11_6 y11_7 y11_8 y11_9 y11_10 y11_11 y11_12 y11_13 y11_14 y11_15 =>
                ((regs_next (a0) (a1) (a2) (a3) (a4) (a5) (a6) (a7) (a8) (a9) (a10) (a11) (a12) (a13) (a14) (a15) (y11_0) (y11_1) (y11_2) (y11_3) (y11_4) (y11_5) (y11_6) (y11_7) (y11_8) (y11_9) (y11_10) (y11_11) (y11_12) (y11_13) (y11_14) (y11_15) (a16) (a17) (a18) (a19) (a20) N).bind fun r => match r with
                | .r0 y12_0 =>
                  some (.r0 (y11_0) (y11_1) (y11_2) (y11_3) (y11_4) (y11_5) (y11_6) (y11_7) (y11_8) (y11_9) (y11_10) (y11_11) (y11_12) (y11_13) (y11_14) (y11_15) (y12_0) ((0 : Int)) : regs_DoR)
                )
              )
            else
            ((regs_next (a0) (a1) (a2) (a3) (a4) (a5) (a6) (a7) (a8) (a9) (a10) (a11) (a12) (a13) (a14) (a15) (a0) (a1) (a2) (a3) (a4) (a5) (a6) (a7) (a8) (a9) (a10) (a11) (a12) (a13) (a14) (a15) (a16) (a17) (a18) (a19) (a20) N).bind fun r => match r with
            | .r0 y11_0 =>
              some (.r0 (a0) (a1) (a2) (a3) (a4) (a5) (a6) (a7) (a8) (a9) (a10) (a11) (a12) (a13) (a14) (a15) (y11_0) ((0 : Int)) : regs_DoR)
            )
          )
        )
      else
      some (.r0 ((0 : Int)) ((0 : Int)) ((0 : Int)) ((0 : Int)) ((0 : Int)) ((0 : Int)) ((0 : Int)) ((0 : Int)) ((0 : Int)) ((0 : Int)) ((0 : Int)) ((0 : Int)) ((0 : Int)) ((0 : Int)) ((0 : Int)) ((0 : Int)) ((0 : Int)) ((100 : Int)) : regs_DoR)
    else
    some (.r0 ((0 : Int)) ((0 : Int)) ((0 : Int)) ((0 : Int)) ((0 : Int)) ((0 : Int)) ((0 : Int)) ((0 : Int)) ((0 : Int)) ((0 : Int)) ((0 : Int)) ((0 : Int)) ((0 : Int)) ((0 : Int)) ((0 : Int)) ((0 : Int)) ((0 : Int)) ((100 : Int)) : regs_DoR)
  )

/-- gantlet/gantletref10.Has -/
inductive ref10_HasR where
  | r0 (w0 : Int) (w1 : Int) (w2 : Int) (w3 : Bool)

def ref10_Has (a0 : Int) (N : Nat) : Option ref10_HasR :=
  if a0 = (1 : Int) then
    some (.r0 ((1 : Int)) ((2 : Int)) ((0 : Int)) (true) : ref10_HasR)
  else
  if a0 = (2 : Int) then
    some (.r0 ((1 : Int)) ((0 : Int)) ((0 : Int)) (true) : ref10_HasR)
  else
  if a0 = (10 : Int) then
    some (.r0 ((1 : Int)) ((0 : Int)) ((0 : Int)) (true) : ref10_HasR)
  else
  if a0 = (12 : Int) then
    some (.r0 ((1 : Int)) ((0 : Int)) ((0 : Int)) (true) : ref10_HasR)
  else
  if a0 = (19 : Int) then
    some (.r0 ((1 : Int)) ((0 : Int)) ((0 : Int)) (true) : ref10_HasR)
  else
  if a0 = (3 : Int) then
    some (.r0 ((1 : Int)) ((1 : Int)) ((0 : Int)) (true) : ref10_HasR)
  else
  if a0 = (4 : Int) then
    some (.r0 ((1 : Int)) ((1 : Int)) ((1 : Int)) (true) : ref10_HasR)
  else
  if a0 = (5 : Int) then
    some (.r0 ((1 : Int)) ((1 : Int)) ((1 : Int)) (true) : ref10_HasR)
  else
  if a0 = (6 : Int) then
    some (.r0 ((1 : Int)) ((1 : Int)) ((1 : Int)) (true) : ref10_HasR)
  else
  if a0 = (7 : Int) then
    some (.r0 ((1 : Int)) ((1 : Int)) ((1 : Int)) (true) : ref10_HasR)
  else
  if a0 = (8 : Int) then
    some (.r0 ((3 : Int)) ((0 : Int)) ((0 : Int)) (true) : ref10_HasR)
  else
  if a0 = (9 : Int) then
    some (.r0 ((1 : Int)) ((3 : Int)) ((0 : Int)) (true) : ref10_HasR)
  else
  if a0 = (11 : Int) then
    some (.r0 ((1 : Int)) ((5 : Int)) ((6 : Int)) (true) : ref10_HasR)
  else
  if a0 = (13 : Int) then
    some (.r0 ((1 : Int)) ((1 : Int)) ((4 : Int)) (true) : ref10_HasR)
  else
  if a0 = (14 : Int) then
    some (.r0 ((1 : Int)) ((4 : Int)) ((1 : Int)) (true) : ref10_HasR)
  else
  if a0 = (15 : Int) then
    some (.r0 ((0 : Int)) ((0 : Int)) ((0 : Int)) (true) : ref10_HasR)
  else
  if a0 = (16 : Int) then
    some (.r0 ((0 : Int)) ((0 : Int)) ((0 : Int)) (true) : ref10_HasR)
  else
  if a0 = (17 : Int) then
    some (.r0 ((0 : Int)) ((0 : Int)) ((0 : Int)) (true) : ref10_HasR)
  else
  if a0 = (18 : Int) then
    some (.r0 ((0 : Int)) ((0 : Int)) ((0 : Int)) (true) : ref10_HasR)
  else
  if a0 = (20 : Int) then
    some (.r0 ((0 : Int)) ((0 : Int)) ((0 : Int)) (true) : ref10_HasR)
  else
  some (.r0 ((0 : Int)) ((0 : Int)) ((0 : Int)) (false) : ref10_HasR)

/-- gantlet/gantletref14.Put -/
inductive ref14_PutR where
  | r0 (w0 : Int) (w1 : Int) (w2 : Int) (w3 : Int) (w4 : Int) (w5 : Int) (w6 : Int) (w7 : Int) (w8 : Int) (w9 : Int) (w10 : Int) (w11 : Int) (w12 : Int) (w13 : Int) (w14 : Int) (w15 : Int)

def ref14_Put (a0 : Int) (a1 : Int) (a2 : Int) (a3 : Int) (a4 : Int) (a5 : Int) (a6 : Int) (a7 : Int) (a8 : Int) (a9 : Int) (a10 : Int) (a11 : Int) (a12 : Int) (a13 : Int) (a14 : Int) (a15 : Int) (a16 : Int) (a17 : Int) (a18 : Int) (N : Nat) : Option ref14_PutR :=
  if (0 : Int) ≤ a16 then
    if a16 < (8 : Int) then
      some (.r0 (((([(⟨a0, a1⟩ : R_ii), (⟨a2, a3⟩ : R_ii), (⟨a4, a5⟩ : R_ii), (⟨a6, a7⟩ : R_ii), (⟨a8, a9⟩ : R_ii), (⟨a10, a11⟩ : R_ii), (⟨a12, a13⟩ : R_ii), (⟨a14, a15⟩ : R_ii)] : List R_ii).set (a16).toNat (⟨a17, a18⟩ : R_ii)).getD 0 R_ii.z).a0) (((([(⟨a0, a1⟩ : R_ii), (⟨a2, a3⟩ : R_ii), (⟨a4, a5⟩ : R_ii), (⟨a6, a7⟩ : R_ii), (⟨a8, a9⟩ : R_ii), (⟨a10, a11⟩ : R_ii), (⟨a12, a13⟩ : R_ii), (⟨a14, a15⟩ : R_ii)] : List R_ii).set (a16).toNat (⟨a17, a18⟩ : R_ii)).getD 0 R_ii.z).a1) (((([(⟨a0, a1⟩ : R_ii), (⟨a2, a3⟩ : R_ii), (⟨a4, a5⟩ : R_ii), (⟨a6, a7⟩ : R_ii), (⟨a8, a9⟩ : R_ii), (⟨a10, a11⟩ : R_ii), (⟨a12, a13⟩ : R_ii), (⟨a14, a15⟩ : R_ii)] : List R_ii).set (a16).toNat (⟨a17, a18⟩ : R_ii)).getD 1 R_ii.z).a0) (((([(⟨a0, a1⟩ : R_ii), (⟨a2, a3⟩ : R_ii), (⟨a4, a5⟩ : R_ii), (⟨a6, a7⟩ : R_ii), (⟨a8, a9⟩ : R_ii), (⟨a10, a11⟩ : R_ii), (⟨a12, a13⟩ : R_ii), (⟨a14, a15⟩ : R_ii)] : List R_ii).set (a16).toNat (⟨a17, a18⟩ : R_ii)).getD 1 R_ii.z).a1) (((([(⟨a0, a1⟩ : R_ii), (⟨a2, a3⟩ : R_ii), (⟨a4, a5⟩ : R_ii), (⟨a6, a7⟩ : R_ii), (⟨a8, a9⟩ : R_ii), (⟨a10, a11⟩ : R_ii), (⟨a12, a13⟩ : R_ii), (⟨a14, a15⟩ : R_ii)] : List R_ii).set (a16).toNat (⟨a17, a18⟩ : R_ii)).getD 2 R_ii.z).a0) (((([(⟨a0, a1⟩ : R_ii), (⟨a2, a3⟩ : R_ii), (⟨a4, a5⟩ : R_ii), (⟨a6, a7⟩ : R_ii), (⟨a8, a9⟩ : R_ii), (⟨a10, a11⟩ : R_ii), (⟨a12, a13⟩ : R_ii), (⟨a14, a15⟩ : R_ii)] : List R_ii).set (a16).toNat (⟨a17, a18⟩ : R_ii)).getD 2 R_ii.z).a1) (((([(⟨a0, a1⟩ : R_ii), (⟨a2, a3⟩ : R_ii), (⟨a4, a5⟩ : R_ii), (⟨a6, a7⟩ : R_ii), (⟨a8, a9⟩ : R_ii), (⟨a10, a11⟩ : R_ii), (⟨a12, a13⟩ : R_ii), (⟨a14, a15⟩ : R_ii)] : List R_ii).set (a16).toNat (⟨a17, a18⟩ : R_ii)).getD 3 R_ii.z).a0) (((([(⟨a0, a1⟩ : R_ii), (⟨a2, a3⟩ : R_ii), (⟨a4, a5⟩ : R_ii), (⟨a6, a7⟩ : R_ii), (⟨a8, a9⟩ : R_ii), (⟨a10, a11⟩ : R_ii), (⟨a12, a13⟩ : R_ii), (⟨a14, a15⟩ : R_ii)] : List R_ii).set (a16).toNat (⟨a17, a18⟩ : R_ii)).getD 3 R_ii.z).a1) (((([(⟨a0, a1⟩ : R_ii), (⟨a2, a3⟩ : R_ii), (⟨a4, a5⟩ : R_ii), (⟨a6, a7⟩ : R_ii), (⟨a8, a9⟩ : R_ii), (⟨a10, a11⟩ : R_ii), (⟨a12, a13⟩ : R_ii), (⟨a14, a15⟩ : R_ii)] : List R_ii).set (a16).toNat (⟨a17, a18⟩ : R_ii)).getD 4 R_ii.z).a0) (((([(⟨a0, a1⟩ : R_ii), (⟨a2, a3⟩ : R_ii), (⟨a4, a5⟩ : R_ii), (⟨a6, a7⟩ : R_ii), (⟨a8, a9⟩ : R_ii), (⟨a10, a11⟩ : R_ii), (⟨a12, a13⟩ : R_ii), (⟨a14, a15⟩ : R_ii)] : List R_ii).set (a16).toNat (⟨a17, a18⟩ : R_ii)).getD 4 R_ii.z).a1) (((([(⟨a0, a1⟩ : R_ii), (⟨a2, a3⟩ : R_ii), (⟨a4, a5⟩ : R_ii), (⟨a6, a7⟩ : R_ii), (⟨a8, a9⟩ : R_ii), (⟨a10, a11⟩ : R_ii), (⟨a12, a13⟩ : R_ii), (⟨a14, a15⟩ : R_ii)] : List R_ii).set (a16).toNat (⟨a17, a18⟩ : R_ii)).getD 5 R_ii.z).a0) (((([(⟨a0, a1⟩ : R_ii), (⟨a2, a3⟩ : R_ii), (⟨a4, a5⟩ : R_ii), (⟨a6, a7⟩ : R_ii), (⟨a8, a9⟩ : R_ii), (⟨a10, a11⟩ : R_ii), (⟨a12, a13⟩ : R_ii), (⟨a14, a15⟩ : R_ii)] : List R_ii).set (a16).toNat (⟨a17, a18⟩ : R_ii)).getD 5 R_ii.z).a1) (((([(⟨a0, a1⟩ : R_ii), (⟨a2, a3⟩ : R_ii), (⟨a4, a5⟩ : R_ii), (⟨a6, a7⟩ : R_ii), (⟨a8, a9⟩ : R_ii), (⟨a10, a11⟩ : R_ii), (⟨a12, a13⟩ : R_ii), (⟨a14, a15⟩ : R_ii)] : List R_ii).set (a16).toNat (⟨a17, a18⟩ : R_ii)).getD 6 R_ii.z).a0) (((([(⟨a0, a1⟩ : R_ii), (⟨a2, a3⟩ : R_ii), (⟨a4, a5⟩ : R_ii), (⟨a6, a7⟩ : R_ii), (⟨a8, a9⟩ : R_ii), (⟨a10, a11⟩ : R_ii), (⟨a12, a13⟩ : R_ii), (⟨a14, a15⟩ : R_ii)] : List R_ii).set (a16).toNat (⟨a17, a18⟩ : R_ii)).getD 6 R_ii.z).a1) (((([(⟨a0, a1⟩ : R_ii), (⟨a2, a3⟩ : R_ii), (⟨a4, a5⟩ : R_ii), (⟨a6, a7⟩ : R_ii), (⟨a8, a9⟩ : R_ii), (⟨a10, a11⟩ : R_ii), (⟨a12, a13⟩ : R_ii), (⟨a14, a15⟩ : R_ii)] : List R_ii).set (a16).toNat (⟨a17, a18⟩ : R_ii)).getD 7 R_ii.z).a0) (((([(⟨a0, a1⟩ : R_ii), (⟨a2, a3⟩ : R_ii), (⟨a4, a5⟩ : R_ii), (⟨a6, a7⟩ : R_ii), (⟨a8, a9⟩ : R_ii), (⟨a10, a11⟩ : R_ii), (⟨a12, a13⟩ : R_ii), (⟨a14, a15⟩ : R_ii)] : List R_ii).set (a16).toNat (⟨a17, a18⟩ : R_ii)).getD 7 R_ii.z).a1) : ref14_PutR)
    else
    some (.r0 (a0) (a1) (a2) (a3) (a4) (a5) (a6) (a7) (a8) (a9) (a10) (a11) (a12) (a13) (a14) (a15) : ref14_PutR)
  else
  some (.r0 (a0) (a1) (a2) (a3) (a4) (a5) (a6) (a7) (a8) (a9) (a10) (a11) (a12) (a13) (a14) (a15) : ref14_PutR)

/-- gantlet/gantletlaw14.RegsOwn -/
inductive law14_RegsOwnR where
  | r0 (w0 : Bool)

inductive law14_RegsOwnX where
  | h1m0 (v1 : Int) (v2 : Nat) (v27 : Int) (v28 : Int) (v29 : Int) (v30 : Int) (v31 : Int) (v32 : Int) (v33 : Int) (v34 : Int) (v35 : Int) (v36 : Int) (v37 : Int) (v38 : Int) (v39 : Int) (v40 : Int) (v41 : Int) (v42 : Int)

def law14_RegsOwn_h1m0 (a0 : Int) (a1 : Int) (a2 : Int) (a3 : Int) (a4 : Int) (a5 : Int) (a6 : Int) (a7 : Int) (a8 : Int) (a9 : Int) (a10 : Int) (a11 : Int) (a12 : Int) (a13 : Int) (a14 : Int) (a15 : Int) (a16 : Int) (a17 : Int) (a18 : Int) (a19 : Int) (a20 : Int) (a21 : Int) (a22 : Int) (a23 : Int) (a24 : Int) (N : Nat) (v1 : Int) (v2 : Nat) (v27 : Int) (v28 : Int) (v29 : Int) (v30 : Int) (v31 : Int) (v32 : Int) (v33 : Int) (v34 : Int) (v35 : Int) (v36 : Int) (v37 : Int) (v38 : Int) (v39 : Int) (v40 : Int) (v41 : Int) (v42 : Int) : Option (law14_RegsOwnX ⊕ law14_RegsOwnR) :=
  if ((v2 : Nat) : Int) < (8 : Int) then
    if ¬ (((([(⟨v27, v28⟩ : R_ii), (⟨v29, v30⟩ : R_ii), (⟨v31, v32⟩ : R_ii), (⟨v33, v34⟩ : R_ii), (⟨v35, v36⟩ : R_ii), (⟨v37, v38⟩ : R_ii), (⟨v39, v40⟩ : R_ii), (⟨v41, v42⟩ : R_ii)] : List R_ii).getD v2 R_ii.z).a0 = (([(⟨a0, a1⟩ : R_ii), (⟨a2, a3⟩ : R_ii), (⟨a4, a5⟩ : R_ii), (⟨a6, a7⟩ : R_ii), (⟨a8, a9⟩ : R_ii), (⟨a10, a11⟩ : R_ii), (⟨a12, a13⟩ : R_ii), (⟨a14, a15⟩ : R_ii)] : List R_ii).getD v2 R_ii.z).a0 ∧ (([(⟨v27, v28⟩ : R_ii), (⟨v29, v30⟩ : R_ii), (⟨v31, v32⟩ : R_ii), (⟨v33, v34⟩ : R_ii), (⟨v35, v36⟩ : R_ii), (⟨v37, v38⟩ : R_ii), (⟨v39, v40⟩ : R_ii), (⟨v41, v42⟩ : R_ii)] : List R_ii).getD v2 R_ii.z).a1 = (([(⟨a0, a1⟩ : R_ii), (⟨a2, a3⟩ : R_ii), (⟨a4, a5⟩ : R_ii), (⟨a6, a7⟩ : R_ii), (⟨a8, a9⟩ : R_ii), (⟨a10, a11⟩ : R_ii), (⟨a12, a13⟩ : R_ii), (⟨a14, a15⟩ : R_ii)] : List R_ii).getD v2 R_ii.z).a1)) then
      if ¬ (((v2 : Nat) : Int) = a17) then
        some (.inr (.r0 (false) : law14_RegsOwnR))
      else
      some (.inl (.h1m0 (v1) ((v2 + 1)) (v27) (v28) (v29) (v30) (v31) (v32) (v33) (v34) (v35) (v36) (v37) (v38) (v39) (v40) (v41) (v42) : law14_RegsOwnX))
    else
    some (.inl (.h1m0 (v1) ((v2 + 1)) (v27) (v28) (v29) (v30) (v31) (v32) (v33) (v34) (v35) (v36) (v37) (v38) (v39) (v40) (v41) (v42) : law14_RegsOwnX))
  else
  if (-9223372036854775808 : Int) ≤ a24 then
    if a24 ≤ (9223372036854775807 : Int) then
      ((ref10_Has (a16) N).bind fun r => match r with
      | .r0 y3_0 y3_1 y3_2 y3_3 =>
        if (Int.tmod a24 (8 : Int)) = a17 then
          some (.inr (.r0 (true) : law14_RegsOwnR))
        else
        if y3_1 = (1 : Int) then
          if (Int.tmod a24 (8 : Int)) = a18 then
            some (.inr (.r0 (true) : law14_RegsOwnR))
          else
          if y3_2 = (1 : Int) then
            if (Int.tmod a24 (8 : Int)) = a19 then
              some (.inr (.r0 (true) : law14_RegsOwnR))
            else
            ((ref14_Put (a0) (a1) (a2) (a3) (a4) (a5) (a6) (a7) (a8) (a9) (a10) (a11) (a12) (a13) (a14) (a15) ((Int.tmod a24 (8 : Int))) (a22) (a23) N).bind fun r => match r with
            | .r0 y9_0 y9_1 y9_2 y9_3 y9_4 y9_5 y9_6 y9_7 y9_8 y9_9 y9_10 y9_11 y9_12 y9_13 y9_14 y9_15 =>
              ((regs_Do (y9_0) (y9_1) (y9_2) (y9_3) (y9_4) (y9_5) (y9_6) (y9_7) (y9_8) (y9_9) (y9_10) (y9_11) (y9_12) (y9_13) (y9_14) (y9_15) ((5 : Int)) (a16) (a17) (a18) (a19) (a20) (a21) N).bind fun r => match r with
              | .r0 y10_0 y10_1 y10_2 y10_3 y10_4 y10_5 y10_6 y10_7 y10_8 y10_9 y10_10 y10_11 y10_12 y10_13 y10_14 y10_15 y10_16 y10_17 =>
                ((ref14_Put (v27) (v28) (v29) (v30) (v31) (v32) (v33) (v34) (v35) (v36) (v37) (v38) (v39) (v40) (v41) (v42) ((Int.tmod a24 (8 : Int))) (a22) (a23) N).bind fun r => match r with
                | .r0 y11_0 y11_1 y11_2 y11_3 y11_4 y11_5 y11_6 y11_7 y11_8 y11_9 y11_10 y11_11 y11_12 y11_13 y11_14 y11_15 =>
                  if ((y10_0 = y11_0 ∧ y10_1 = y11_1) ∧ (y10_2 = y11_2 ∧ y10_3 = y11_3) ∧ (y10_4 = y11_4 ∧ y10_5 = y11_5) ∧ (y10_6 = y11_6 ∧ y10_7 = y11_7) ∧ (y10_8 = y11_8 ∧ y10_9 = y11_9) ∧ (y10_10 = y11_10 ∧ y10_11 = y11_11) ∧ (y10_12 = y11_12 ∧ y10_13 = y11_13) ∧ (y10_14 = y11_14 ∧ y10_15 = y11_15)) then
                    if y10_16 = v1 then
                      if y10_17 = (0 : Int) then
                        some (.inr (.r0 (true) : law14_RegsOwnR))
                      else
                      some (.inr (.r0 (false) : law14_RegsOwnR))
                    else
                    some (.inr (.r0 (false) : law14_RegsOwnR))
                  else
                  some (.inr (.r0 (false) : law14_RegsOwnR))
                )
              )
            )
          else
          ((ref14_Put (a0) (a1) (a2) (a3) (a4) (a5) (a6) (a7) (a8) (a9) (a10) (a11) (a12) (a13) (a14) (a15) ((Int.tmod a24 (8 : Int))) (a22) (a23) N).bind fun r => match r with
          | .r0 y8_0 y8_1 y8_2 y8_3 y8_4 y8_5 y8_6 y8_7 y8_8 y8_9 y8_10 y8_11 y8_12 y8_13 y8_14 y8_15 =>
            ((regs_Do (y8_0) (y8_1) (y8_2) (y8_3) (y8_4) (y8_5) (y8_6) (y8_7) (y8_8) (y8_9) (y8_10) (y8_11) (y8_12) (y8_13) (y8_14) (y8_15) ((5 : Int)) (a16) (a17) (a18) (a19) (a20) (a21) N).bind fun r => match r with
            | .r0 y9_0 y9_1 y9_2 y9_3 y9_4 y9_5 y9_6 y9_7 y9_8 y9_9 y9_10 y9_11 y9_12 y9_13 y9_14 y9_15 y9_16 y9_17 =>
              ((ref14_Put (v27) (v28) (v29) (v30) (v31) (v32) (v33) (v34) (v35) (v36) (v37) (v38) (v39) (v40) (v41) (v42) ((Int.tmod a24 (8 : Int))) (a22) (a23) N).bind fun r => match r with
              | .r0 y10_0 y10_1 y10_2 y10_3 y10_4 y10_5 y10_6 y10_7 y10_8 y10_9 y10_10 y10_11 y10_12 y10_13 y10_14 y10_15 =>
                if ((y9_0 = y10_0 ∧ y9_1 = y10_1) ∧ (y9_2 = y10_2 ∧ y9_3 = y10_3) ∧ (y9_4 = y10_4 ∧ y9_5 = y10_5) ∧ (y9_6 = y10_6 ∧ y9_7 = y10_7) ∧ (y9_8 = y10_8 ∧ y9_9 = y10_9) ∧ (y9_10 = y10_10 ∧ y9_11 = y10_11) ∧ (y9_12 = y10_12 ∧ y9_13 = y10_13) ∧ (y9_14 = y10_14 ∧ y9_15 = y10_15)) then
                  if y9_16 = v1 then
                    if y9_17 = (0 : Int) then
                      some (.inr (.r0 (true) : law14_RegsOwnR))
                    else
                    some (.inr (.r0 (false) : law14_RegsOwnR))
                  else
                  some (.inr (.r0 (false) : law14_RegsOwnR))
                else
                some (.inr (.r0 (false) : law14_RegsOwnR))
              )
            )
          )
        else
        if y3_2 = (1 : Int) then
          if (Int.tmod a24 (8 : Int)) = a19 then
            some (.inr (.r0 (true) : law14_RegsOwnR))
          else
          ((ref14_Put (a0) (a1) (a2) (a3) (a4) (a5) (a6) (a7) (a8) (a9) (a10) (a11) (a12) (a13) (a14) (a15) ((Int.tmod a24 (8 : Int))) (a22) (a23) N).bind fun r => match r with
          | .r0 y8_0 y8_1 y8_2 y8_3 y8_4 y8_5 y8_6 y8_7 y8_8 y8_9 y8_10 y8_11 y8_12 y8_13 y8_14 y8_15 =>
            ((regs_Do (y8_0) (y8_1) (y8_2) (y8_3) (y8_4) (y8_5) (y8_6) (y8_7) (y8_8) (y8_9) (y8_10) (y8_11) (y8_12) (y8_13) (y8_14) (y8_15) ((5 : Int)) (a16) (a17) (a18) (a19) (a20) (a21) N).bind fun r => match r with
            | .r0 y9_0 y9_1 y9_2 y9_3 y9_4 y9_5 y9_6 y9_7 y9_8 y9_9 y9_10 y9_11 y9_12 y9_13 y9_14 y9_15 y9_16 y9_17 =>
              ((ref14_Put (v27) (v28) (v29) (v30) (v31) (v32) (v33) (v34) (v35) (v36) (v37) (v38) (v39) (v40) (v41) (v42) ((Int.tmod a24 (8 : Int))) (a22) (a23) N).bind fun r => match r with
              | .r0 y10_0 y10_1 y10_2 y10_3 y10_4 y10_5 y10_6 y10_7 y10_8 y10_9 y10_10 y10_11 y10_12 y10_13 y10_14 y10_15 =>
                if ((y9_0 = y10_0 ∧ y9_1 = y10_1) ∧ (y9_2 = y10_2 ∧ y9_3 = y10_3) ∧ (y9_4 = y10_4 ∧ y9_5 = y10_5) ∧ (y9_6 = y10_6 ∧ y9_7 = y10_7) ∧ (y9_8 = y10_8 ∧ y9_9 = y10_9) ∧ (y9_10 = y10_10 ∧ y9_11 = y10_11) ∧ (y9_12 = y10_12 ∧ y9_13 = y10_13) ∧ (y9_14 = y10_14 ∧ y9_15 = y10_15)) then
                  if y9_16 = v1 then
                    if y9_17 = (0 : Int) then
                      some (.inr (.r0 (true) : law14_RegsOwnR))
                    else
                    some (.inr (.r0 (false) : law14_RegsOwnR))
                  else
                  some (.inr (.r0 (false) : law14_RegsOwnR))
                else
                some (.inr (.r0 (false) : law14_RegsOwnR))
              )
            )
          )
        else
        ((ref14_Put (a0) (a1) (a2) (a3) (a4) (a5) (a6) (a7) (a8) (a9) (a10) (a11) (a12) (a13) (a14) (a15) ((Int.tmod a24 (8 : Int))) (a22) (a23) N).bind fun r => match r with
        | .r0 y7_0 y7_1 y7_2 y7_3 y7_4 y7_5 y7_6 y7_7 y7_8 y7_9 y7_10 y7_11 y7_12 y7_13 y7_14 y7_15 =>
          ((regs_Do (y7_0) (y7_1) (y7_2) (y7_3) (y7_4) (y7_5) (y7_6) (y7_7) (y7_8) (y7_9) (y7_10) (y7_11) (y7_12) (y7_13) (y7_14) (y7_15) ((5 : Int)) (a16) (a17) (a18) (a19) (a20) (a21) N).bind fun r => match r with
          | .r0 y8_0 y8_1 y8_2 y8_3 y8_4 y8_5 y8_6 y8_7 y8_8 y8_9 y8_10 y8_11 y8_12 y8_13 y8_14 y8_15 y8_16 y8_17 =>
            ((ref14_Put (v27) (v28) (v29) (v30) (v31) (v32) (v33) (v34) (v35) (v36) (v37) (v38) (v39) (v40) (v41) (v42) ((Int.tmod a24 (8 : Int))) (a22) (a23) N).bind fun r => match r with
            | .r0 y9_0 y9_1 y9_2 y9_3 y9_4 y9_5 y9_6 y9_7 y9_8 y9_9 y9_10 y9_11 y9_12 y9_13 y9_14 y9_15 =>
              if ((y8_0 = y9_0 ∧ y8_1 = y9_1) ∧ (y8_2 = y9_2 ∧ y8_3 = y9_3) ∧ (y8_4 = y9_4 ∧ y8_5 = y9_5) ∧ (y8_6 = y9_6 ∧ y8_7 = y9_7) ∧ (y8_8 = y9_8 ∧ y8_9 = y9_9) ∧ (y8_10 = y9_10 ∧ y8_11 = y9_11) ∧ (y8_12 = y9_12 ∧ y8_13 = y9_13) ∧ (y8_14 = y9_14 ∧ y8_15 = y9_15)) then
                if y8_16 = v1 then
                  if y8_17 = (0 : Int) then
                    some (.inr (.r0 (true) : law14_RegsOwnR))
                  else
                  some (.inr (.r0 (false) : law14_RegsOwnR))
                else
                some (.inr (.r0 (false) : law14_RegsOwnR))
              else
              some (.inr (.r0 (false) : law14_RegsOwnR))
            )
          )
        )
      )
    else
    none
  else
  none

def law14_RegsOwnStep (a0 : Int) (a1 : Int) (a2 : Int) (a3 : Int) (a4 : Int) (a5 : Int) (a6 : Int) (a7 : Int) (a8 : Int) (a9 : Int) (a10 : Int) (a11 : Int) (a12 : Int) (a13 : Int) (a14 : Int) (a15 : Int) (a16 : Int) (a17 : Int) (a18 : Int) (a19 : Int) (a20 : Int) (a21 : Int) (a22 : Int) (a23 : Int) (a24 : Int) (N : Nat) : law14_RegsOwnX → Option (law14_RegsOwnX ⊕ law14_RegsOwnR)
  | .h1m0 v1 v2 v27 v28 v29 v30 v31 v32 v33 v34 v35 v36 v37 v38 v39 v40 v41 v42 => law14_RegsOwn_h1m0 a0 a1 a2 a3 a4 a5 a6 a7 a8 a9 a10 a11 a12 a13 a14 a15 a16 a17 a18 a19 a20 a21 a22 a23 a24 N v1 v2 v27 v28 v29 v30 v31 v32 v33 v34 v35 v36 v37 v38 v39 v40 v41 v42

def law14_RegsOwnIn (a0 : Int) (a1 : Int) (a2 : Int) (a3 : Int) (a4 : Int) (a5 : Int) (a6 : Int) (a7 : Int) (a8 : Int) (a9 : Int) (a10 : Int) (a11 : Int) (a12 : Int) (a13 : Int) (a14 : Int) (a15 : Int) (a16 : Int) (a17 : Int) (a18 : Int) (a19 : Int) (a20 : Int) (a21 : Int) (a22 : Int) (a23 : Int) (a24 : Int) (N : Nat) : Option (law14_RegsOwnX ⊕ law14_RegsOwnR) :=
  ((regs_Do (a0) (a1) (a2) (a3) (a4) (a5) (a6) (a7) (a8) (a9) (a10) (a11) (a12) (a13) (a14) (a15) ((5 : Int)) (a16) (a17) (a18) (a19) (a20) (a21) N).bind fun r => match r with
  | .r0 y0_0 y0_1 y0_2 y0_3 y0_4 y0_5 y0_6 y0_7 y0_8 y0_9 y0_10 y0_11 y0_12 y0_13 y0_14 y0_15 y0_16 y0_17 =>
    if ¬ (y0_17 = (0 : Int)) then
      if ((y0_0 = (0 : Int) ∧ y0_1 = (0 : Int)) ∧ (y0_2 = (0 : Int) ∧ y0_3 = (0 : Int)) ∧ (y0_4 = (0 : Int) ∧ y0_5 = (0 : Int)) ∧ (y0_6 = (0 : Int) ∧ y0_7 = (0 : Int)) ∧ (y0_8 = (0 : Int) ∧ y0_9 = (0 : Int)) ∧ (y0_10 = (0 : Int) ∧ y0_11 = (0 : Int)) ∧ (y0_12 = (0 : Int) ∧ y0_13 = (0 : Int)) ∧ (y0_14 = (0 : Int) ∧ y0_15 = (0 : Int))) then
        if y0_16 = (0 : Int) then
          some (.inr (.r0 (true) : law14_RegsOwnR))
        else
        some (.inr (.r0 (false) : law14_RegsOwnR))
      else
      some (.inr (.r0 (false) : law14_RegsOwnR))
    else
    some (.inl (.h1m0 (y0_16) (0) (y0_0) (y0_1) (y0_2) (y0_3) (y0_4) (y0_5) (y0_6) (y0_7) (y0_8) (y0_9) (y0_10) (y0_11) (y0_12) (y0_13) (y0_14) (y0_15) : law14_RegsOwnX))
  )

def law14_RegsOwn (a0 : Int) (a1 : Int) (a2 : Int) (a3 : Int) (a4 : Int) (a5 : Int) (a6 : Int) (a7 : Int) (a8 : Int) (a9 : Int) (a10 : Int) (a11 : Int) (a12 : Int) (a13 : Int) (a14 : Int) (a15 : Int) (a16 : Int) (a17 : Int) (a18 : Int) (a19 : Int) (a20 : Int) (a21 : Int) (a22 : Int) (a23 : Int) (a24 : Int) (N : Nat) : Option law14_RegsOwnR := goM (law14_RegsOwnStep a0 a1 a2 a3 a4 a5 a6 a7 a8 a9 a10 a11 a12 a13 a14 a15 a16 a17 a18 a19 a20 a21 a22 a23 a24 N) N (law14_RegsOwnIn a0 a1 a2 a3 a4 a5 a6 a7 a8 a9 a10 a11 a12 a13 a14 a15 a16 a17 a18 a19 a20 a21 a22 a23 a24 N)
end Ev
end Go.Proofs.Ytnahodeffgoccaa
