/- The document's functions, plain. -/
import Derived.Test.YtpgbennpiihajaaKor
namespace Go.Proofs.Ytpgbennpiihajaa
open Go.RowKit
namespace Ev
set_option linter.unusedVariables false
/-- gantlet/check.Wrong -/
inductive check_WrongR where
  | r0 (w2 : Int)

def check_Wrong (L1 : List R_iiii) (n2 : Nat) (n3 : Nat) (N : Nat) : Option check_WrongR :=
  ((check_look (L1) (n2) (n3) N).bind fun r => match r with
  | .r0 y0_0 =>
    some (.r0 ((0 : Int)) : check_WrongR)
  | .r1 y0_0 y0_1 =>
    some (.r0 (y0_0) : check_WrongR)
  | .r2 y0_0 y0_1 y0_2 y0_3 y0_4 y0_5 y0_6 =>
    some (.r0 (y0_5) : check_WrongR)
  | .r3 y0_0 y0_1 y0_2 y0_3 =>
    some (.r0 (y0_2) : check_WrongR)
  )

/-- gantlet/gantletref12.step -/
inductive ref12_stepR where
  | r0
  | r1 (w0 : Bool)

def ref12_step (a0 : Int) (a1 : Int) (a2 : Int) (a3 : Int) (a4 : Int) (N : Nat) : Option ref12_stepR :=
  if a0 = (15 : Int) then
    some (.r0 : ref12_stepR)
  else
  if a0 = (16 : Int) then
    some (.r1 (false) : ref12_stepR)
  else
  if a0 = (17 : Int) then
    some (.r1 (false) : ref12_stepR)
  else
  if a0 = (18 : Int) then
    some (.r1 (false) : ref12_stepR)
  else
  some (.r1 (true) : ref12_stepR)

/-- gantlet/gantletref10.Has -/
inductive ref10_HasR where
  | r0 (w0 : Int) (w1 : Int) (w2 : Int) (w3 : Bool)

def ref10_Has (a0 : Int) (N : Nat) : Option ref10_HasR :=
  if a0 = (1 : Int) then
    some (.r0 ((1 : Int)) ((2 : Int)) ((0 : Int)) (true) : ref10_HasR)
  else
  if a0 = (2 : Int) then
    some (.r0 ((1 : Int)) ((0 : Int)) ((0 : Int)) (true) : ref10_HasR)
  else
  if a0 = (10 : Int) then
    some (.r0 ((1 : Int)) ((0 : Int)) ((0 : Int)) (true) : ref10_HasR)
  else
  if a0 = (12 : Int) then
    some (.r0 ((1 : Int)) ((0 : Int)) ((0 : Int)) (true) : ref10_HasR)
  else
  if a0 = (19 : Int) then
    some (.r0 ((1 : Int)) ((0 : Int)) ((0 : Int)) (true) : ref10_HasR)
  else
  if a0 = (3 : Int) then
    some (.r0 ((1 : Int)) ((1 : Int)) ((0 : Int)) (true) : ref10_HasR)
  else
  if a0 = (4 : Int) then
    some (.r0 ((1 : Int)) ((1 : Int)) ((1 : Int)) (true) : ref10_HasR)
  else
  if a0 = (5 : Int) then
    some (.r0 ((1 : Int)) ((1 : Int)) ((1 : Int)) (true) : ref10_HasR)
  else
  if a0 = (6 : Int) then
    some (.r0 ((1 : Int)) ((1 : Int)) ((1 : Int)) (true) : ref10_HasR)
  else
  if a0 = (7 : Int) then
    some (.r0 ((1 : Int)) ((1 : Int)) ((1 : Int)) (true) : ref10_HasR)
  else
  if a0 = (8 : Int) then
    some (.r0 ((3 : Int)) ((0 : Int)) ((0 : Int)) (true) : ref10_HasR)
  else
  if a0 = (9 : Int) then
    some (.r0 ((1 : Int)) ((3 : Int)) ((0 : Int)) (true) : ref10_HasR)
  else
  if a0 = (11 : Int) then
    some (.r0 ((1 : Int)) ((5 : Int)) ((6 : Int)) (true) : ref10_HasR)
  else
  if a0 = (13 : Int) then
    some (.r0 ((1 : Int)) ((1 : Int)) ((4 : Int)) (true) : ref10_HasR)
  else
  if a0 = (14 : Int) then
    some (.r0 ((1 : Int)) ((4 : Int)) ((1 : Int)) (true) : ref10_HasR)
  else
  if a0 = (15 : Int) then
    some (.r0 ((0 : Int)) ((0 : Int)) ((0 : Int)) (true) : ref10_HasR)
  else
  if a0 = (16 : Int) then
    some (.r0 ((0 : Int)) ((0 : Int)) ((0 : Int)) (true) : ref10_HasR)
  else
  if a0 = (17 : Int) then
    some (.r0 ((0 : Int)) ((0 : Int)) ((0 : Int)) (true) : ref10_HasR)
  else
  if a0 = (18 : Int) then
    some (.r0 ((0 : Int)) ((0 : Int)) ((0 : Int)) (true) : ref10_HasR)
  else
  if a0 = (20 : Int) then
    some (.r0 ((0 : Int)) ((0 : Int)) ((0 : Int)) (true) : ref10_HasR)
  else
  some (.r0 ((0 : Int)) ((0 : Int)) ((0 : Int)) (false) : ref10_HasR)

/-- gantlet/gantletref10.fits -/
inductive ref10_fitsR where
  | r0 (w0 : Bool)

def ref10_fits (a0 : Int) (a1 : Int) (a2 : Int) (N : Nat) : Option ref10_fitsR :=
  if a0 = (1 : Int) then
    if (0 : Int) ≤ a1 then
      if a1 < (8 : Int) then
        some (.r0 (true) : ref10_fitsR)
      else
      some (.r0 (false) : ref10_fitsR)
    else
    some (.r0 (false) : ref10_fitsR)
  else
  if a0 = (2 : Int) then
    if (-1099511627776 : Int) ≤ a1 then
      if a1 ≤ (1099511627776 : Int) then
        some (.r0 (true) : ref10_fitsR)
      else
      some (.r0 (false) : ref10_fitsR)
    else
    some (.r0 (false) : ref10_fitsR)
  else
  if a0 = (3 : Int) then
    if (0 : Int) ≤ a1 then
      if a1 ≤ (512 : Int) then
        some (.r0 (true) : ref10_fitsR)
      else
      some (.r0 (false) : ref10_fitsR)
    else
    some (.r0 (false) : ref10_fitsR)
  else
  if a0 = (4 : Int) then
    if (0 : Int) ≤ a1 then
      if a1 < (16 : Int) then
        some (.r0 (true) : ref10_fitsR)
      else
      some (.r0 (false) : ref10_fitsR)
    else
    some (.r0 (false) : ref10_fitsR)
  else
  if a0 = (5 : Int) then
    if (1 : Int) ≤ a1 then
      if a1 ≤ (16 : Int) then
        some (.r0 (true) : ref10_fitsR)
      else
      some (.r0 (false) : ref10_fitsR)
    else
    some (.r0 (false) : ref10_fitsR)
  else
  if a0 = (6 : Int) then
    if (1 : Int) ≤ a2 then
      if a2 ≤ (16 : Int) then
        if (0 : Int) ≤ a1 then
          if a1 < (IntKind.i64.wrap ((1 : Int) * (2 ^ (a2).toNat : Int))) then
            some (.r0 (true) : ref10_fitsR)
          else
          some (.r0 (false) : ref10_fitsR)
        else
        some (.r0 (false) : ref10_fitsR)
      else
      some (.r0 (false) : ref10_fitsR)
    else
    some (.r0 (false) : ref10_fitsR)
  else
  if a1 = (0 : Int) then
    some (.r0 (true) : ref10_fitsR)
  else
  some (.r0 (false) : ref10_fitsR)

/-- gantlet/gantletref10.Is -/
inductive ref10_IsR where
  | r0 (w0 : Bool)

def ref10_Is (a0 : Int) (a1 : Int) (a2 : Int) (a3 : Int) (N : Nat) : Option ref10_IsR :=
  ((ref10_Has (a0) N).bind fun r => match r with
  | .r0 y0_0 y0_1 y0_2 y0_3 =>
    if y0_3 = true then
      ((ref10_fits (y0_0) (a1) ((0 : Int)) N).bind fun r => match r with
      | .r0 y2_0 =>
        if y2_0 = true then
          ((ref10_fits (y0_1) (a2) ((0 : Int)) N).bind fun r => match r with
          | .r0 y4_0 =>
            if y4_0 = true then
              ((ref10_fits (y0_2) (a3) (a2) N).bind fun r => match r with
              | .r0 y6_0 =>
                if y6_0 = true then
                  some (.r0 (true) : ref10_IsR)
                else
                some (.r0 (false) : ref10_IsR)
              )
            else
            some (.r0 (false) : ref10_IsR)
          )
        else
        some (.r0 (false) : ref10_IsR)
      )
    else
    some (.r0 (false) : ref10_IsR)
  )

/-- gantlet/gantletref12.step -/
inductive ref12_step_2R where
  | r0 (w1 : Bool)
  | r1 (w1 : List R_ii)
  | r2

def ref12_step_2 (L0 : List R_ii) (a1 : Int) (a2 : Int) (a3 : Int) (a4 : Int) (a5 : Int) (N : Nat) : Option ref12_step_2R :=
  if a1 = (15 : Int) then
    if (8 : Int) ≤ ((L0.length : Nat) : Int) then
      some (.r0 (false) : ref12_step_2R)
    else
    if L0.length = 0 then
      some (.r1 (([(⟨a5, (0 : Int)⟩ : R_ii)] : List R_ii)) : ref12_step_2R)
    else
    some (.r1 ((L0 ++ ([(⟨a5, (0 : Int)⟩ : R_ii)] : List R_ii))) : ref12_step_2R)
  else
  if a1 = (16 : Int) then
    if ((L0.length : Nat) : Int) = (0 : Int) then
      some (.r0 (false) : ref12_step_2R)
    else
    if (((L0.length : Nat) : Int) - (1 : Int)) ≤ (9223372036854775807 : Int) then
      if (L0.getD (L0.length - 1) R_ii.z).a1 = (1 : Int) then
        some (.r0 (false) : ref12_step_2R)
      else
      if ((L0.length - 1) - 0) = 0 then
        some (.r1 (([(⟨(L0.getD (L0.length - 1) R_ii.z).a0, (1 : Int)⟩ : R_ii)] : List R_ii)) : ref12_step_2R)
      else
      if ((L0.length - 1) - 0) ≤ 100000 then
        some (.r1 (((L0.take ((L0.length - 1) - 0)) ++ ([(⟨(L0.getD (L0.length - 1) R_ii.z).a0, (1 : Int)⟩ : R_ii)] : List R_ii))) : ref12_step_2R)
      else
      none
    else
    none
  else
  if a1 = (17 : Int) then
    if ((L0.length : Nat) : Int) = (0 : Int) then
      some (.r0 (false) : ref12_step_2R)
    else
    if (((L0.length : Nat) : Int) - (1 : Int)) ≤ (9223372036854775807 : Int) then
      some (.r2 : ref12_step_2R)
    else
    none
  else
  if a1 = (18 : Int) then
    if (0 : Int) < ((L0.length : Nat) : Int) then
      some (.r0 (true) : ref12_step_2R)
    else
    some (.r0 (false) : ref12_step_2R)
  else
  if a1 = (20 : Int) then
    if ((L0.length : Nat) : Int) = (0 : Int) then
      some (.r0 (true) : ref12_step_2R)
    else
    some (.r0 (false) : ref12_step_2R)
  else
  some (.r0 (true) : ref12_step_2R)

/-- gantlet/gantletref10.Target -/
inductive ref10_TargetR where
  | r0 (w0 : Int) (w1 : Bool)

def ref10_Target (a0 : Int) (a1 : Int) (a2 : Int) (a3 : Int) (N : Nat) : Option ref10_TargetR :=
  if a0 = (8 : Int) then
    some (.r0 (a1) (true) : ref10_TargetR)
  else
  if a0 = (9 : Int) then
    some (.r0 (a2) (true) : ref10_TargetR)
  else
  some (.r0 ((0 : Int)) (false) : ref10_TargetR)

/-- gantlet/gantletref12.opens -/
inductive ref12_opensR where
  | r0
  | r1 (w2 : List R_ii)

inductive ref12_opensX where
  | h1m0 (v5 : Nat)
  | h1m1 (v5 : List R_ii) (v6 : Nat)

def ref12_opens_h1m0 (L1 : List R_iiii) (n2 : Nat) (n3 : Nat) (a4 : Int) (N : Nat) (v5 : Nat) : Option (ref12_opensX ⊕ ref12_opensR) :=
  if ((v5 : Nat) : Int) < a4 then
    if ((v5 : Nat) : Int) < ((n2 : Nat) : Int) then
      if v5 < L1.length then
        ((ref12_step ((L1.getD v5 R_iiii.z).a0) ((L1.getD v5 R_iiii.z).a1) ((L1.getD v5 R_iiii.z).a2) ((L1.getD v5 R_iiii.z).a3) (((v5 : Nat) : Int)) N).bind fun r => match r with
        | .r0 =>
          if (((v5 + 1) : Nat) : Int) ≤ (9223372036854775807 : Int) then
            some (.inl (.h1m1 (([(⟨((v5 : Nat) : Int), (0 : Int)⟩ : R_ii)] : List R_ii)) ((v5 + 1)) : ref12_opensX))
          else
          none
        | .r1 y3_0 =>
          if (((v5 + 1) : Nat) : Int) ≤ (9223372036854775807 : Int) then
            some (.inl (.h1m0 ((v5 + 1)) : ref12_opensX))
          else
          none
        )
      else
      none
    else
    some (.inr (.r0 : ref12_opensR))
  else
  some (.inr (.r0 : ref12_opensR))

def ref12_opens_h1m1 (L1 : List R_iiii) (n2 : Nat) (n3 : Nat) (a4 : Int) (N : Nat) (v5 : List R_ii) (v6 : Nat) : Option (ref12_opensX ⊕ ref12_opensR) :=
  if ((v6 : Nat) : Int) < a4 then
    if ((v6 : Nat) : Int) < ((n2 : Nat) : Int) then
      if v6 < L1.length then
        ((ref12_step_2 (v5) ((L1.getD v6 R_iiii.z).a0) ((L1.getD v6 R_iiii.z).a1) ((L1.getD v6 R_iiii.z).a2) ((L1.getD v6 R_iiii.z).a3) (((v6 : Nat) : Int)) N).bind fun r => match r with
        | .r0 y3_0 =>
          if (((v6 + 1) : Nat) : Int) ≤ (9223372036854775807 : Int) then
            some (.inl (.h1m1 (v5) ((v6 + 1)) : ref12_opensX))
          else
          none
        | .r1 y3_0 =>
          if (((v6 + 1) : Nat) : Int) ≤ (9223372036854775807 : Int) then
            some (.inl (.h1m1 (y3_0) ((v6 + 1)) : ref12_opensX))
          else
          none
        | .r2 =>
          if (((v6 + 1) : Nat) : Int) ≤ (9223372036854775807 : Int) then
            some (.inl (.h1m1 ((v5.take (v5.length - 1))) ((v6 + 1)) : ref12_opensX))
          else
          none
        )
      else
      none
    else
    some (.inr (.r1 (v5) : ref12_opensR))
  else
  some (.inr (.r1 (v5) : ref12_opensR))

def ref12_opensStep (L1 : List R_iiii) (n2 : Nat) (n3 : Nat) (a4 : Int) (N : Nat) : ref12_opensX → Option (ref12_opensX ⊕ ref12_opensR)
  | .h1m0 v5 => ref12_opens_h1m0 L1 n2 n3 a4 N v5
  | .h1m1 v5 v6 => ref12_opens_h1m1 L1 n2 n3 a4 N v5 v6

def ref12_opensIn (L1 : List R_iiii) (n2 : Nat) (n3 : Nat) (a4 : Int) (N : Nat) : Option (ref12_opensX ⊕ ref12_opensR) :=
  some (.inl (.h1m0 (0) : ref12_opensX))

def ref12_opens (L1 : List R_iiii) (n2 : Nat) (n3 : Nat) (a4 : Int) (N : Nat) : Option ref12_opensR := goM (ref12_opensStep L1 n2 n3 a4 N) N (ref12_opensIn L1 n2 n3 a4 N)

/-- gantlet/gantletref12.branch -/
inductive ref12_branchR where
  | r0 (w2 : Int) (w3 : Int)

def ref12_branch (L1 : List R_iiii) (n2 : Nat) (n3 : Nat) (a4 : Int) (N : Nat) : Option ref12_branchR :=
  ((ref12_opens (L1) (n2) (n3) (a4) N).bind fun r => match r with
  | .r0 =>
    some (.r0 ((-1 : Int)) ((0 : Int)) : ref12_branchR)
  | .r1 y0_0 =>
    if ((y0_0.length : Nat) : Int) = (0 : Int) then
      some (.r0 ((-1 : Int)) ((0 : Int)) : ref12_branchR)
    else
    if (((y0_0.length : Nat) : Int) - (1 : Int)) ≤ (9223372036854775807 : Int) then
      some (.r0 ((y0_0.getD (y0_0.length - 1) R_ii.z).a0) ((y0_0.getD (y0_0.length - 1) R_ii.z).a1) : ref12_branchR)
    else
    none
  )

/-- gantlet/gantletref12.Wrong -/
inductive ref12_WrongR where
  | r0 (w2 : Int)

inductive ref12_WrongX where
  | h1m0 (v4 : Nat)
  | h1m1 (v4 : List R_ii) (v5 : Nat)
  | h2m0 (v4 : Nat)

def ref12_Wrong_h1m0 (L1 : List R_iiii) (n2 : Nat) (n3 : Nat) (N : Nat) (v4 : Nat) : Option (ref12_WrongX ⊕ ref12_WrongR) :=
  if ((v4 : Nat) : Int) < ((n2 : Nat) : Int) then
    if v4 < L1.length then
      ((ref12_step ((L1.getD v4 R_iiii.z).a0) ((L1.getD v4 R_iiii.z).a1) ((L1.getD v4 R_iiii.z).a2) ((L1.getD v4 R_iiii.z).a3) (((v4 : Nat) : Int)) N).bind fun r => match r with
      | .r0 =>
        ((ref10_Is ((L1.getD v4 R_iiii.z).a0) ((L1.getD v4 R_iiii.z).a1) ((L1.getD v4 R_iiii.z).a2) ((L1.getD v4 R_iiii.z).a3) N).bind fun r => match r with
        | .r0 y3_0 =>
          if ¬ (y3_0 = true) then
            some (.inr (.r0 (((v4 : Nat) : Int)) : ref12_WrongR))
          else
          if (((v4 + 1) : Nat) : Int) ≤ (9223372036854775807 : Int) then
            some (.inl (.h1m1 (([(⟨((v4 : Nat) : Int), (0 : Int)⟩ : R_ii)] : List R_ii)) ((v4 + 1)) : ref12_WrongX))
          else
          none
        )
      | .r1 y2_0 =>
        ((ref10_Is ((L1.getD v4 R_iiii.z).a0) ((L1.getD v4 R_iiii.z).a1) ((L1.getD v4 R_iiii.z).a2) ((L1.getD v4 R_iiii.z).a3) N).bind fun r => match r with
        | .r0 y3_0 =>
          if ¬ (y3_0 = true) then
            some (.inr (.r0 (((v4 : Nat) : Int)) : ref12_WrongR))
          else
          if ¬ (y2_0 = true) then
            some (.inr (.r0 (((v4 : Nat) : Int)) : ref12_WrongR))
          else
          if (((v4 + 1) : Nat) : Int) ≤ (9223372036854775807 : Int) then
            some (.inl (.h1m0 ((v4 + 1)) : ref12_WrongX))
          else
          none
        )
      )
    else
    none
  else
  some (.inl (.h2m0 (0) : ref12_WrongX))

def ref12_Wrong_h1m1 (L1 : List R_iiii) (n2 : Nat) (n3 : Nat) (N : Nat) (v4 : List R_ii) (v5 : Nat) : Option (ref12_WrongX ⊕ ref12_WrongR) :=
  if ((v5 : Nat) : Int) < ((n2 : Nat) : Int) then
    if v5 < L1.length then
      ((ref12_step_2 (v4) ((L1.getD v5 R_iiii.z).a0) ((L1.getD v5 R_iiii.z).a1) ((L1.getD v5 R_iiii.z).a2) ((L1.getD v5 R_iiii.z).a3) (((v5 : Nat) : Int)) N).bind fun r => match r with
      | .r0 y2_0 =>
        ((ref10_Is ((L1.getD v5 R_iiii.z).a0) ((L1.getD v5 R_iiii.z).a1) ((L1.getD v5 R_iiii.z).a2) ((L1.getD v5 R_iiii.z).a3) N).bind fun r => match r with
        | .r0 y3_0 =>
          if ¬ (y3_0 = true) then
            some (.inr (.r0 (((v5 : Nat) : Int)) : ref12_WrongR))
          else
          if ¬ (y2_0 = true) then
            some (.inr (.r0 (((v5 : Nat) : Int)) : ref12_WrongR))
          else
          if (((v5 + 1) : Nat) : Int) ≤ (9223372036854775807 : Int) then
            some (.inl (.h1m1 (v4) ((v5 + 1)) : ref12_WrongX))
          else
          none
        )
      | .r1 y2_0 =>
        ((ref10_Is ((L1.getD v5 R_iiii.z).a0) ((L1.getD v5 R_iiii.z).a1) ((L1.getD v5 R_iiii.z).a2) ((L1.getD v5 R_iiii.z).a3) N).bind fun r => match r with
        | .r0 y3_0 =>
          if ¬ (y3_0 = true) then
            some (.inr (.r0 (((v5 : Nat) : Int)) : ref12_WrongR))
          else
          if (((v5 + 1) : Nat) : Int) ≤ (9223372036854775807 : Int) then
            some (.inl (.h1m1 (y2_0) ((v5 + 1)) : ref12_WrongX))
          else
          none
        )
      | .r2 =>
        ((ref10_Is ((L1.getD v5 R_iiii.z).a0) ((L1.getD v5 R_iiii.z).a1) ((L1.getD v5 R_iiii.z).a2) ((L1.getD v5 R_iiii.z).a3) N).bind fun r => match r with
        | .r0 y3_0 =>
          if ¬ (y3_0 = true) then
            some (.inr (.r0 (((v5 : Nat) : Int)) : ref12_WrongR))
          else
          if (((v5 + 1) : Nat) : Int) ≤ (9223372036854775807 : Int) then
            some (.inl (.h1m1 ((v4.take (v4.length - 1))) ((v5 + 1)) : ref12_WrongX))
          else
          none
        )
      )
    else
    none
  else
  if (0 : Int) < ((v4.length : Nat) : Int) then
    some (.inr (.r0 (((n2 : Nat) : Int)) : ref12_WrongR))
  else
  some (.inl (.h2m0 (0) : ref12_WrongX))

def ref12_Wrong_h2m0 (L1 : List R_iiii) (n2 : Nat) (n3 : Nat) (N : Nat) (v4 : Nat) : Option (ref12_WrongX ⊕ ref12_WrongR) :=
  if ((v4 : Nat) : Int) < ((n2 : Nat) : Int) then
    if v4 < L1.length then
      ((ref10_Target ((L1.getD v4 R_iiii.z).a0) ((L1.getD v4 R_iiii.z).a1) ((L1.getD v4 R_iiii.z).a2) ((L1.getD v4 R_iiii.z).a3) N).bind fun r => match r with
      | .r0 y2_0 y2_1 =>
        if y2_1 = true then
          if ((n2 : Nat) : Int) < y2_0 then
            some (.inr (.r0 (((v4 : Nat) : Int)) : ref12_WrongR))
          else
          ((ref12_branch (L1) (n2) (n3) (y2_0) N).bind fun r => match r with
          | .r0 y5_0 y5_1 =>
            ((ref12_branch (L1) (n2) (n3) (((v4 : Nat) : Int)) N).bind fun r => match r with
            | .r0 y6_0 y6_1 =>
              if ¬ ((y5_0 = y6_0 ∧ y5_1 = y6_1)) then
                some (.inr (.r0 (((v4 : Nat) : Int)) : ref12_WrongR))
              else
              if (((v4 + 1) : Nat) : Int) ≤ (9223372036854775807 : Int) then
                some (.inl (.h2m0 ((v4 + 1)) : ref12_WrongX))
              else
              none
            )
          )
        else
        if (((v4 + 1) : Nat) : Int) ≤ (9223372036854775807 : Int) then
          some (.inl (.h2m0 ((v4 + 1)) : ref12_WrongX))
        else
        none
      )
    else
    none
  else
  some (.inr (.r0 ((-1 : Int)) : ref12_WrongR))

def ref12_WrongStep (L1 : List R_iiii) (n2 : Nat) (n3 : Nat) (N : Nat) : ref12_WrongX → Option (ref12_WrongX ⊕ ref12_WrongR)
  | .h1m0 v4 => ref12_Wrong_h1m0 L1 n2 n3 N v4
  | .h1m1 v4 v5 => ref12_Wrong_h1m1 L1 n2 n3 N v4 v5
  | .h2m0 v4 => ref12_Wrong_h2m0 L1 n2 n3 N v4

def ref12_WrongIn (L1 : List R_iiii) (n2 : Nat) (n3 : Nat) (N : Nat) : Option (ref12_WrongX ⊕ ref12_WrongR) :=
  if ((n2 : Nat) : Int) < (1 : Int) then
    some (.inr (.r0 ((0 : Int)) : ref12_WrongR))
  else
  if (512 : Int) < ((n2 : Nat) : Int) then
    some (.inr (.r0 ((0 : Int)) : ref12_WrongR))
  else
  some (.inl (.h1m0 (0) : ref12_WrongX))

def ref12_Wrong (L1 : List R_iiii) (n2 : Nat) (n3 : Nat) (N : Nat) : Option ref12_WrongR := goM (ref12_WrongStep L1 n2 n3 N) N (ref12_WrongIn L1 n2 n3 N)

/-- gantlet/check.Check -/
inductive check_CheckR where
  | r0 (w2 : Int)

def check_Check (L1 : List R_iiii) (n2 : Nat) (n3 : Nat) (N : Nat) : Option check_CheckR :=
  ((check_look (L1) (n2) (n3) N).bind fun r => match r with
  | .r0 y0_0 =>
    some (.r0 (y0_0) : check_CheckR)
  | .r1 y0_0 y0_1 =>
    some (.r0 (y0_1) : check_CheckR)
  | .r2 y0_0 y0_1 y0_2 y0_3 y0_4 y0_5 y0_6 =>
    some (.r0 (y0_6) : check_CheckR)
  | .r3 y0_0 y0_1 y0_2 y0_3 =>
    some (.r0 (y0_3) : check_CheckR)
  )

/-- gantlet/gantletref12.Check -/
inductive ref12_CheckR where
  | r0 (w2 : Int)

def ref12_Check (L1 : List R_iiii) (n2 : Nat) (n3 : Nat) (N : Nat) : Option ref12_CheckR :=
  ((ref12_Wrong (L1) (n2) (n3) N).bind fun r => match r with
  | .r0 y0_0 =>
    if y0_0 < (0 : Int) then
      some (.r0 ((0 : Int)) : ref12_CheckR)
    else
    if y0_0 < ((n2 : Nat) : Int) then
      if ((n2 : Nat) : Int) ≤ (512 : Int) then
        if (y0_0).toNat < L1.length then
          if ((L1.getD (y0_0).toNat R_iiii.z).a0 = (15 : Int) ∧ (L1.getD (y0_0).toNat R_iiii.z).a1 = (0 : Int) ∧ (L1.getD (y0_0).toNat R_iiii.z).a2 = (0 : Int) ∧ (L1.getD (y0_0).toNat R_iiii.z).a3 = (0 : Int)) then
            some (.r0 ((140 : Int)) : ref12_CheckR)
          else
          some (.r0 ((120 : Int)) : ref12_CheckR)
        else
        none
      else
      some (.r0 ((120 : Int)) : ref12_CheckR)
    else
    some (.r0 ((120 : Int)) : ref12_CheckR)
  )

end Ev
end Go.Proofs.Ytpgbennpiihajaa
