/- The document's functions, plain. -/
import Derived.Test.YtnahodeffgoccaaRnr
namespace Go.Proofs.Ytnahodeffgoccaa
open Go.RowKit
namespace Ev
set_option linter.unusedVariables false
set_option linter.unusedSimpArgs false
structure R_iiii where
  a0 : Int
  a1 : Int
  a2 : Int
  a3 : Int
/-- gantlet/gantletref10.fits -/
inductive ref10_fitsR where
  | r0 (w0 : Bool)

def ref10_fits (a0 : Int) (a1 : Int) (a2 : Int) (N : Nat) : Option ref10_fitsR :=
  if a0 = (1 : Int) then
    if (0 : Int) ≤ a1 then
      if a1 < (8 : Int) then
        some (.r0 (true) : ref10_fitsR)
      else
      some (.r0 (false) : ref10_fitsR)
    else
    some (.r0 (false) : ref10_fitsR)
  else
  if a0 = (2 : Int) then
    if (-1099511627776 : Int) ≤ a1 then
      if a1 ≤ (1099511627776 : Int) then
        some (.r0 (true) : ref10_fitsR)
      else
      some (.r0 (false) : ref10_fitsR)
    else
    some (.r0 (false) : ref10_fitsR)
  else
  if a0 = (3 : Int) then
    if (0 : Int) ≤ a1 then
      if a1 ≤ (512 : Int) then
        some (.r0 (true) : ref10_fitsR)
      else
      some (.r0 (false) : ref10_fitsR)
    else
    some (.r0 (false) : ref10_fitsR)
  else
  if a0 = (4 : Int) then
    if (0 : Int) ≤ a1 then
      if a1 < (16 : Int) then
        some (.r0 (true) : ref10_fitsR)
      else
      some (.r0 (false) : ref10_fitsR)
    else
    some (.r0 (false) : ref10_fitsR)
  else
  if a0 = (5 : Int) then
    if (1 : Int) ≤ a1 then
      if a1 ≤ (16 : Int) then
        some (.r0 (true) : ref10_fitsR)
      else
      some (.r0 (false) : ref10_fitsR)
    else
    some (.r0 (false) : ref10_fitsR)
  else
  if a0 = (6 : Int) then
    if (1 : Int) ≤ a2 then
      if a2 ≤ (16 : Int) then
        if (0 : Int) ≤ a1 then
          if a1 < (IntKind.i64.wrap ((1 : Int) * (2 ^ (a2).toNat : Int))) then
            some (.r0 (true) : ref10_fitsR)
          else
          some (.r0 (false) : ref10_fitsR)
        else
        some (.r0 (false) : ref10_fitsR)
      else
      some (.r0 (false) : ref10_fitsR)
    else
    some (.r0 (false) : ref10_fitsR)
  else
  if a1 = (0 : Int) then
    some (.r0 (true) : ref10_fitsR)
  else
  some (.r0 (false) : ref10_fitsR)

/-- gantlet/gantletref10.Is -/
inductive ref10_IsR where
  | r0 (w0 : Bool)

def ref10_Is (a0 : Int) (a1 : Int) (a2 : Int) (a3 : Int) (N : Nat) : Option ref10_IsR :=
  ((ref10_Has (a0) N).bind fun r => match r with
  | .r0 y0_0 y0_1 y0_2 y0_3 =>
    if y0_3 = true then
      ((ref10_fits (y0_0) (a1) ((0 : Int)) N).bind fun r => match r with
      | .r0 y2_0 =>
        if y2_0 = true then
          ((ref10_fits (y0_1) (a2) ((0 : Int)) N).bind fun r => match r with
          | .r0 y4_0 =>
            if y4_0 = true then
              ((ref10_fits (y0_2) (a3) (a2) N).bind fun r => match r with
              | .r0 y6_0 =>
                if y6_0 = true then
                  some (.r0 (true) : ref10_IsR)
                else
                some (.r0 (false) : ref10_IsR)
              )
            else
            some (.r0 (false) : ref10_IsR)
          )
        else
        some (.r0 (false) : ref10_IsR)
      )
    else
    some (.r0 (false) : ref10_IsR)
  )

/-- gantlet/gantletref01.Add -/
inductive ref01_AddR where
  | r0 (w0 : Int) (w1 : Int) (w2 : Int)

def ref01_Add (a0 : Int) (a1 : Int) (a2 : Int) (a3 : Int) (N : Nat) : Option ref01_AddR :=
  if a0 = (1 : Int) then
    if a2 = (1 : Int) then
      some (.r0 ((1 : Int)) ((IntKind.i64.wrap (a1 + a3))) ((0 : Int)) : ref01_AddR)
    else
    some (.r0 ((0 : Int)) ((0 : Int)) ((10 : Int)) : ref01_AddR)
  else
  some (.r0 ((0 : Int)) ((0 : Int)) ((10 : Int)) : ref01_AddR)

/-- gantlet/gantletref01.Sub -/
inductive ref01_SubR where
  | r0 (w0 : Int) (w1 : Int) (w2 : Int)

def ref01_Sub (a0 : Int) (a1 : Int) (a2 : Int) (a3 : Int) (N : Nat) : Option ref01_SubR :=
  if a0 = (1 : Int) then
    if a2 = (1 : Int) then
      some (.r0 ((1 : Int)) ((IntKind.i64.wrap (a1 - a3))) ((0 : Int)) : ref01_SubR)
    else
    some (.r0 ((0 : Int)) ((0 : Int)) ((10 : Int)) : ref01_SubR)
  else
  some (.r0 ((0 : Int)) ((0 : Int)) ((10 : Int)) : ref01_SubR)

/-- gantlet/gantletref01.Less -/
inductive ref01_LessR where
  | r0 (w0 : Int) (w1 : Int) (w2 : Int)

def ref01_Less (a0 : Int) (a1 : Int) (a2 : Int) (a3 : Int) (N : Nat) : Option ref01_LessR :=
  if a0 = (1 : Int) then
    if a2 = (1 : Int) then
      if a1 < a3 then
        some (.r0 ((1 : Int)) ((1 : Int)) ((0 : Int)) : ref01_LessR)
      else
      some (.r0 ((1 : Int)) ((0 : Int)) ((0 : Int)) : ref01_LessR)
    else
    some (.r0 ((0 : Int)) ((0 : Int)) ((10 : Int)) : ref01_LessR)
  else
  some (.r0 ((0 : Int)) ((0 : Int)) ((10 : Int)) : ref01_LessR)

/-- gantlet/gantletref14.made -/
inductive ref14_madeR where
  | r0 (w0 : Int) (w1 : Int) (w2 : Int)

def ref14_made (a0 : Int) (a1 : Int) (a2 : Int) (a3 : Int) (a4 : Int) (a5 : Int) (a6 : Int) (a7 : Int) (a8 : Int) (a9 : Int) (a10 : Int) (a11 : Int) (a12 : Int) (a13 : Int) (a14 : Int) (a15 : Int) (a16 : Int) (a17 : Int) (a18 : Int) (a19 : Int) (a20 : Int) (a21 : Int) (N : Nat) : Option ref14_madeR :=
  if a16 = (1 : Int) then
    some (.r0 ((1 : Int)) (a18) ((0 : Int)) : ref14_madeR)
  else
  if a16 = (2 : Int) then
    some (.r0 ((2 : Int)) ((0 : Int)) ((0 : Int)) : ref14_madeR)
  else
  if a16 = (3 : Int) then
    if (0 : Int) ≤ a18 then
      if (a18).toNat < 8 then
        some (.r0 ((([(⟨a0, a1⟩ : R_ii), (⟨a2, a3⟩ : R_ii), (⟨a4, a5⟩ : R_ii), (⟨a6, a7⟩ : R_ii), (⟨a8, a9⟩ : R_ii), (⟨a10, a11⟩ : R_ii), (⟨a12, a13⟩ : R_ii), (⟨a14, a15⟩ : R_ii)] : List R_ii).getD (a18).toNat R_ii.z).a0) ((([(⟨a0, a1⟩ : R_ii), (⟨a2, a3⟩ : R_ii), (⟨a4, a5⟩ : R_ii), (⟨a6, a7⟩ : R_ii), (⟨a8, a9⟩ : R_ii), (⟨a10, a11⟩ : R_ii), (⟨a12, a13⟩ : R_ii), (⟨a14, a15⟩ : R_ii)] : List R_ii).getD (a18).toNat R_ii.z).a1) ((0 : Int)) : ref14_madeR)
      else
      none
    else
    none
  else
  if a16 = (4 : Int) then
    if (0 : Int) ≤ a18 then
      if (a18).toNat < 8 then
        if (0 : Int) ≤ a19 then
          if (a19).toNat < 8 then
            ((ref01_Add ((([(⟨a0, a1⟩ : R_ii), (⟨a2, a3⟩ : R_ii), (⟨a4, a5⟩ : R_ii), (⟨a6, a7⟩ : R_ii), (⟨a8, a9⟩ : R_ii), (⟨a10, a11⟩ : R_ii), (⟨a12, a13⟩ : R_ii), (⟨a14, a15⟩ : R_ii)] : List R_ii).getD (a18).toNat R_ii.z).a0) ((([(⟨a0, a1⟩ : R_ii), (⟨a2, a3⟩ : R_ii), (⟨a4, a5⟩ : R_ii), (⟨a6, a7⟩ : R_ii), (⟨a8, a9⟩ : R_ii), (⟨a10, a11⟩ : R_ii), (⟨a12, a13⟩ : R_ii), (⟨a14, a15⟩ : R_ii)] : List R_ii).getD (a18).toNat R_ii.z).a1) ((([(⟨a0, a1⟩ : R_ii), (⟨a2, a3⟩ : R_ii), (⟨a4, a5⟩ : R_ii), (⟨a6, a7⟩ : R_ii), (⟨a8, a9⟩ : R_ii), (⟨a10, a11⟩ : R_ii), (⟨a12, a13⟩ : R_ii), (⟨a14, a15⟩ : R_ii)] : List R_ii).getD (a19).toNat R_ii.z).a0) ((([(⟨a0, a1⟩ : R_ii), (⟨a2, a3⟩ : R_ii), (⟨a4, a5⟩ : R_ii), (⟨a6, a7⟩ : R_ii), (⟨a8, a9⟩ : R_ii), (⟨a10, a11⟩ : R_ii), (⟨a12, a13⟩ : R_ii), (⟨a14, a15⟩ : R_ii)] : List R_ii).getD (a19).toNat R_ii.z).a1) N).bind fun r => match r with
            | .r0 y8_0 y8_1 y8_2 =>
              some (.r0 (y8_0) (y8_1) (y8_2) : ref14_madeR)
            )
          else
          none
        else
        none
      else
      none
    else
    none
  else
  if a16 = (5 : Int) then
    if (0 : Int) ≤ a18 then
      if (a18).toNat < 8 then
        if (0 : Int) ≤ a19 then
          if (a19).toNat < 8 then
            ((ref01_Sub ((([(⟨a0, a1⟩ : R_ii), (⟨a2, a3⟩ : R_ii), (⟨a4, a5⟩ : R_ii), (⟨a6, a7⟩ : R_ii), (⟨a8, a9⟩ : R_ii), (⟨a10, a11⟩ : R_ii), (⟨a12, a13⟩ : R_ii), (⟨a14, a15⟩ : R_ii)] : List R_ii).getD (a18).toNat R_ii.z).a0) ((([(⟨a0, a1⟩ : R_ii), (⟨a2, a3⟩ : R_ii), (⟨a4, a5⟩ : R_ii), (⟨a6, a7⟩ : R_ii), (⟨a8, a9⟩ : R_ii), (⟨a10, a11⟩ : R_ii), (⟨a12, a13⟩ : R_ii), (⟨a14, a15⟩ : R_ii)] : List R_ii).getD (a18).toNat R_ii.z).a1) ((([(⟨a0, a1⟩ : R_ii), (⟨a2, a3⟩ : R_ii), (⟨a4, a5⟩ : R_ii), (⟨a6, a7⟩ : R_ii), (⟨a8, a9⟩ : R_ii), (⟨a10, a11⟩ : R_ii), (⟨a12, a13⟩ : R_ii), (⟨a14, a15⟩ : R_ii)] : List R_ii).getD (a19).toNat R_ii.z).a0) ((([(⟨a0, a1⟩ : R_ii), (⟨a2, a3⟩ : R_ii), (⟨a4, a5⟩ : R_ii), (⟨a6, a7⟩ : R_ii), (⟨a8, a9⟩ : R_ii), (⟨a10, a11⟩ : R_ii), (⟨a12, a13⟩ : R_ii), (⟨a14, a15⟩ : R_ii)] : List R_ii).getD (a19).toNat R_ii.z).a1) N).bind fun r => match r with
            | .r0 y9_0 y9_1 y9_2 =>
              some (.r0 (y9_0) (y9_1) (y9_2) : ref14_madeR)
            )
          else
          none
        else
        none
      else
      none
    else
    none
  else
  if a16 = (6 : Int) then
    if (0 : Int) ≤ a18 then
      if (a18).toNat < 8 then
        if (0 : Int) ≤ a19 then
          if (a19).toNat < 8 then
            ((ref01_Less ((([(⟨a0, a1⟩ : R_ii), (⟨a2, a3⟩ : R_ii), (⟨a4, a5⟩ : R_ii), (⟨a6, a7⟩ : R_ii), (⟨a8, a9⟩ : R_ii), (⟨a10, a11⟩ : R_ii), (⟨a12, a13⟩ : R_ii), (⟨a14, a15⟩ : R_ii)] : List R_ii).getD (a18).toNat R_ii.z).a0) ((([(⟨a0, a1⟩ : R_ii), (⟨a2, a3⟩ : R_ii), (⟨a4, a5⟩ : R_ii), (⟨a6, a7⟩ : R_ii), (⟨a8, a9⟩ : R_ii), (⟨a10, a11⟩ : R_ii), (⟨a12, a13⟩ : R_ii), (⟨a14, a15⟩ : R_ii)] : List R_ii).getD (a18).toNat R_ii.z).a1) ((([(⟨a0, a1⟩ : R_ii), (⟨a2, a3⟩ : R_ii), (⟨a4, a5⟩ : R_ii), (⟨a6, a7⟩ : R_ii), (⟨a8, a9⟩ : R_ii), (⟨a10, a11⟩ : R_ii), (⟨a12, a13⟩ : R_ii), (⟨a14, a15⟩ : R_ii)] : List R_ii).getD (a19).toNat R_ii.z).a0) ((([(⟨a0, a1⟩ : R_ii), (⟨a2, a3⟩ : R_ii), (⟨a4, a5⟩ : R_ii), (⟨a6, a7⟩ : R_ii), (⟨a8, a9⟩ : R_ii), (⟨a10, a11⟩ : R_ii), (⟨a12, a13⟩ : R_ii), (⟨a14, a15⟩ : R_ii)] : List R_ii).getD (a19).toNat R_ii.z).a1) N).bind fun r => match r with
            | .r0 y10_0 y10_1 y10_2 =>
              some (.r0 (y10_0) (y10_1) (y10_2) : ref14_madeR)
            )
          else
          none
        else
        none
      else
      none
    else
    none
  else
  if a16 = (7 : Int) then
    if (0 : Int) ≤ a18 then
      if (a18).toNat < 8 then
        if (0 : Int) ≤ a19 then
          if (a19).toNat < 8 then
            if ((([(⟨a0, a1⟩ : R_ii), (⟨a2, a3⟩ : R_ii), (⟨a4, a5⟩ : R_ii), (⟨a6, a7⟩ : R_ii), (⟨a8, a9⟩ : R_ii), (⟨a10, a11⟩ : R_ii), (⟨a12, a13⟩ : R_ii), (⟨a14, a15⟩ : R_ii)] : List R_ii).getD (a18).toNat R_ii.z).a0 = (([(⟨a0, a1⟩ : R_ii), (⟨a2, a3⟩ : R_ii), (⟨a4, a5⟩ : R_ii), (⟨a6, a7⟩ : R_ii), (⟨a8, a9⟩ : R_ii), (⟨a10, a11⟩ : R_ii), (⟨a12, a13⟩ : R_ii), (⟨a14, a15⟩ : R_ii)] : List R_ii).getD (a19).toNat R_ii.z).a0 ∧ (([(⟨a0, a1⟩ : R_ii), (⟨a2, a3⟩ : R_ii), (⟨a4, a5⟩ : R_ii), (⟨a6, a7⟩ : R_ii), (⟨a8, a9⟩ : R_ii), (⟨a10, a11⟩ : R_ii), (⟨a12, a13⟩ : R_ii), (⟨a14, a15⟩ : R_ii)] : List R_ii).getD (a18).toNat R_ii.z).a1 = (([(⟨a0, a1⟩ : R_ii), (⟨a2, a3⟩ : R_ii), (⟨a4, a5⟩ : R_ii), (⟨a6, a7⟩ : R_ii), (⟨a8, a9⟩ : R_ii), (⟨a10, a11⟩ : R_ii), (⟨a12, a13⟩ : R_ii), (⟨a14, a15⟩ : R_ii)] : List R_ii).getD (a19).toNat R_ii.z).a1) then
              some (.r0 ((1 : Int)) ((1 : Int)) ((0 : Int)) : ref14_madeR)
            else
            some (.r0 ((1 : Int)) ((0 : Int)) ((0 : Int)) : ref14_madeR)
          else
          none
        else
        none
      else
      none
    else
    none
  else
  some (.r0 (a20) (a21) ((0 : Int)) : ref14_madeR)

/-- gantlet/gantletref14.Do -/
inductive ref14_DoR where
  | r0 (w0 : Int) (w1 : Int) (w2 : Int) (w3 : Int) (w4 : Int) (w5 : Int) (w6 : Int) (w7 : Int) (w8 : Int) (w9 : Int) (w10 : Int) (w11 : Int) (w12 : Int) (w13 : Int) (w14 : Int) (w15 : Int) (w16 : Int) (w17 : Int)

def ref14_Do (a0 : Int) (a1 : Int) (a2 : Int) (a3 : Int) (a4 : Int) (a5 : Int) (a6 : Int) (a7 : Int) (a8 : Int) (a9 : Int) (a10 : Int) (a11 : Int) (a12 : Int) (a13 : Int) (a14 : Int) (a15 : Int) (a16 : Int) (a17 : Int) (a18 : Int) (a19 : Int) (a20 : Int) (a21 : Int) (a22 : Int) (N : Nat) : Option ref14_DoR :=
  ((ref10_Is (a17) (a18) (a19) (a20) N).bind fun r => match r with
  | .r0 y0_0 =>
    if ¬ (y0_0 = true) then
      some (.r0 ((0 : Int)) ((0 : Int)) ((0 : Int)) ((0 : Int)) ((0 : Int)) ((0 : Int)) ((0 : Int)) ((0 : Int)) ((0 : Int)) ((0 : Int)) ((0 : Int)) ((0 : Int)) ((0 : Int)) ((0 : Int)) ((0 : Int)) ((0 : Int)) ((0 : Int)) ((100 : Int)) : ref14_DoR)
    else
    if (1 : Int) ≤ a17 then
      if a17 ≤ (10 : Int) then
        if a16 < (0 : Int) then
          some (.r0 ((0 : Int)) ((0 : Int)) ((0 : Int)) ((0 : Int)) ((0 : Int)) ((0 : Int)) ((0 : Int)) ((0 : Int)) ((0 : Int)) ((0 : Int)) ((0 : Int)) ((0 : Int)) ((0 : Int)) ((0 : Int)) ((0 : Int)) ((0 : Int)) ((0 : Int)) ((5 : Int)) : ref14_DoR)
        else
        if (511 : Int) < a16 then
          some (.r0 ((0 : Int)) ((0 : Int)) ((0 : Int)) ((0 : Int)) ((0 : Int)) ((0 : Int)) ((0 : Int)) ((0 : Int)) ((0 : Int)) ((0 : Int)) ((0 : Int)) ((0 : Int)) ((0 : Int)) ((0 : Int)) ((0 : Int)) ((0 : Int)) ((0 : Int)) ((5 : Int)) : ref14_DoR)
        else
        if a17 = (8 : Int) then
          some (.r0 (a0) (a1) (a2) (a3) (a4) (a5) (a6) (a7) (a8) (a9) (a10) (a11) (a12) (a13) (a14) (a15) (a18) ((0 : Int)) : ref14_DoR)
        else
        if a17 = (9 : Int) then
          if (0 : Int) ≤ a18 then
            if (a18).toNat < 8 then
              if ((([(⟨a0, a1⟩ : R_ii), (⟨a2, a3⟩ : R_ii), (⟨a4, a5⟩ : R_ii), (⟨a6, a7⟩ : R_ii), (⟨a8, a9⟩ : R_ii), (⟨a10, a11⟩ : R_ii), (⟨a12, a13⟩ : R_ii), (⟨a14, a15⟩ : R_ii)] : List R_ii).getD (a18).toNat R_ii.z).a0 = (2 : Int) ∧ (([(⟨a0, a1⟩ : R_ii), (⟨a2, a3⟩ : R_ii), (⟨a4, a5⟩ : R_ii), (⟨a6, a7⟩ : R_ii), (⟨a8, a9⟩ : R_ii), (⟨a10, a11⟩ : R_ii), (⟨a12, a13⟩ : R_ii), (⟨a14, a15⟩ : R_ii)] : List R_ii).getD (a18).toNat R_ii.z).a1 = (0 : Int)) then
                some (.r0 (a0) (a1) (a2) (a3) (a4) (a5) (a6) (a7) (a8) (a9) (a10) (a11) (a12) (a13) (a14) (a15) (a19) ((0 : Int)) : ref14_DoR)
              else
              if ((([(⟨a0, a1⟩ : R_ii), (⟨a2, a3⟩ : R_ii), (⟨a4, a5⟩ : R_ii), (⟨a6, a7⟩ : R_ii), (⟨a8, a9⟩ : R_ii), (⟨a10, a11⟩ : R_ii), (⟨a12, a13⟩ : R_ii), (⟨a14, a15⟩ : R_ii)] : List R_ii).getD (a18).toNat R_ii.z).a0 = (1 : Int) ∧ (([(⟨a0, a1⟩ : R_ii), (⟨a2, a3⟩ : R_ii), (⟨a4, a5⟩ : R_ii), (⟨a6, a7⟩ : R_ii), (⟨a8, a9⟩ : R_ii), (⟨a10, a11⟩ : R_ii), (⟨a12, a13⟩ : R_ii), (⟨a14, a15⟩ : R_ii)] : List R_ii).getD (a18).toNat R_ii.z).a1 = (0 : Int)) then
                some (.r0 (a0) (a1) (a2) (a3) (a4) (a5) (a6) (a7) (a8) (a9) (a10) (a11) (a12) (a13) (a14) (a15) (a19) ((0 : Int)) : ref14_DoR)
              else
              some (.r0 (a0) (a1) (a2) (a3) (a4) (a5) (a6) (a7) (a8) (a9) (a10) (a11) (a12) (a13) (a14) (a15) ((a16 + (1 : Int))) ((0 : Int)) : ref14_DoR)
            else
            none
          else
          none
        else
        ((ref14_made (a0) (a1) (a2) (a3) (a4) (a5) (a6) (a7) (a8) (a9) (a10) (a11) (a12) (a13) (a14) (a15) (a17) (a18) (a19) (a20) (a21) (a22) N).bind fun r => match r with
        | .r0 y8_0 y8_1 y8_2 =>
          if ¬ (y8_2 = (0 : Int)) then
            some (.r0 ((0 : Int)) ((0 : Int)) ((0 : Int)) ((0 : Int)) ((0 : Int)) ((0 : Int)) ((0 : Int)) ((0 : Int)) ((0 : Int)) ((0 : Int)) ((0 : Int)) ((0 : Int)) ((0 : Int)) ((0 : Int)) ((0 : Int)) ((0 : Int)) ((0 : Int)) (y8_2) : ref14_DoR)
          else
          ((ref14_Put (a0) (a1) (a2) (a3) (a4) (a5) (a6) (a7) (a8) (a9) (a10) (a11) (a12) (a13) (a14) (a15) (a18) (y8_0) (y8_1) N).bind fun r => match r with
          | .r0 y10_0 y10_1 y10_2 y10_3 y10_4 y10_5 y10_6 y10_7 y10_8 y10_9 y10_10 y10_11 y10_12 y10_13 y10_14 y10_15 =>
            some (.r0 (y10_0) (y10_1) (y10_2) (y10_3) (y10_4) (y10_5) (y10_6) (y10_7) (y10_8) (y10_9) (y10_10) (y10_11) (y10_12) (y10_13) (y10_14) (y10_15) ((a16 + (1 : Int))) ((0 : Int)) : ref14_DoR)
          )
        )
      else
      if a17 = (19 : Int) then
        if a16 < (0 : Int) then
          some (.r0 ((0 : Int)) ((0 : Int)) ((0 : Int)) ((0 : Int)) ((0 : Int)) ((0 : Int)) ((0 : Int)) ((0 : Int)) ((0 : Int)) ((0 : Int)) ((0 : Int)) ((0 : Int)) ((0 : Int)) ((0 : Int)) ((0 : Int)) ((0 : Int)) ((0 : Int)) ((5 : Int)) : ref14_DoR)
        else
        if (511 : Int) < a16 then
          some (.r0 ((0 : Int)) ((0 : Int)) ((0 : Int)) ((0 : Int)) ((0 : Int)) ((0 : Int)) ((0 : Int)) ((0 : Int)) ((0 : Int)) ((0 : Int)) ((0 : Int)) ((0 : Int)) ((0 : Int)) ((0 : Int)) ((0 : Int)) ((0 : Int)) ((0 : Int)) ((5 : Int)) : ref14_DoR)
        else
        some (.r0 (a0) (a1) (a2) (a3) (a4) (a5) (a6) (a7) (a8) (a9) (a10) (a11) (a12) (a13) (a14) (a15) ((a16 + (1 : Int))) ((0 : Int)) : ref14_DoR)
      else
      some (.r0 ((0 : Int)) ((0 : Int)) ((0 : Int)) ((0 : Int)) ((0 : Int)) ((0 : Int)) ((0 : Int)) ((0 : Int)) ((0 : Int)) ((0 : Int)) ((0 : Int)) ((0 : Int)) ((0 : Int)) ((0 : Int)) ((0 : Int)) ((0 : Int)) ((0 : Int)) ((100 : Int)) : ref14_DoR)
    else
    some (.r0 ((0 : Int)) ((0 : Int)) ((0 : Int)) ((0 : Int)) ((0 : Int)) ((0 : Int)) ((0 : Int)) ((0 : Int)) ((0 : Int)) ((0 : Int)) ((0 : Int)) ((0 : Int)) ((0 : Int)) ((0 : Int)) ((0 : Int)) ((0 : Int)) ((0 : Int)) ((100 : Int)) : ref14_DoR)
  )

end Ev
end Go.Proofs.Ytnahodeffgoccaa
