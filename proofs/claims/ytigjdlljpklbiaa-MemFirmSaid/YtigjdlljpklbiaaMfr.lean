/- Records, and the program's functions as plain ones. -/
import Derived.Test.YtigjdlljpklbiaaFm
namespace Go.Proofs.Ytigjdlljpklbiaa
open Go.RowKit
namespace Ev
set_option linter.unusedVariables false
structure R_ii where
  a0 : Int
  a1 : Int
def R_ii.z : R_ii := ⟨0, 0⟩
structure R_iiiib where
  a0 : Int
  a1 : Int
  a2 : Int
  a3 : Int
  a4 : Bool
def R_iiiib.z : R_iiiib := ⟨0, 0, 0, 0, false⟩
structure R_iiiii where
  a0 : Int
  a1 : Int
  a2 : Int
  a3 : Int
  a4 : Int
def R_iiiii.z : R_iiiii := ⟨0, 0, 0, 0, 0⟩
/-- gantlet/gantletlaw15.MemFirm -/
inductive law15_MemFirmR where
  | r0 (w2 : Bool)

inductive law15_MemFirmX where
  | h1m0
  | h2m0 (v5 : Nat) (v7 : Int) (v8 : Bool) (v9 : Bool) (v10 : Int) (v11 : Bool) (v12 : Bool) (v13 : Int) (v14 : Bool) (v15 : Bool) (v16 : Int) (v17 : Bool) (v18 : Bool)
  | h3m0 (v5 : Nat) (v7 : Int) (v8 : Bool) (v9 : Bool) (v10 : Int) (v11 : Bool) (v12 : Bool) (v13 : Int) (v14 : Bool) (v15 : Bool) (v16 : Int) (v17 : Bool) (v18 : Bool)

def law15_MemFirm_h1m0 (a0 : Int) (a1 : Int) (L3 : List R_iiiib) (n4 : Nat) (n5 : Nat) (N : Nat) : Option (law15_MemFirmX ⊕ law15_MemFirmR) :=
  if (-9223372036854775808 : Int) ≤ a0 then
    if a0 ≤ (9223372036854775807 : Int) then
      if (Int.tmod a0 (4 : Int)) < (0 : Int) then
        if a1 < (1 : Int) then
          some (.inr (.r0 (true) : law15_MemFirmR))
        else
        some (.inr (.r0 (false) : law15_MemFirmR))
      else
      if (4 : Int) ≤ (Int.tmod a0 (4 : Int)) then
        if a1 < (1 : Int) then
          some (.inr (.r0 (true) : law15_MemFirmR))
        else
        some (.inr (.r0 (false) : law15_MemFirmR))
      else
      if (Int.tmod a0 (4 : Int)) = (0 : Int) then
        if a1 < (1 : Int) then
          some (.inr (.r0 (true) : law15_MemFirmR))
        else
        some (.inl (.h2m0 (0) (a1) (true) (false) ((0 : Int)) (false) (false) ((0 : Int)) (false) (false) ((0 : Int)) (false) (false) : law15_MemFirmX))
      else
      if (Int.tmod a0 (4 : Int)) = (1 : Int) then
        if a1 < (1 : Int) then
          some (.inr (.r0 (true) : law15_MemFirmR))
        else
        some (.inl (.h2m0 (0) ((0 : Int)) (false) (false) (a1) (true) (false) ((0 : Int)) (false) (false) ((0 : Int)) (false) (false) : law15_MemFirmX))
      else
      if (Int.tmod a0 (4 : Int)) = (2 : Int) then
        if a1 < (1 : Int) then
          some (.inr (.r0 (true) : law15_MemFirmR))
        else
        some (.inl (.h2m0 (0) ((0 : Int)) (false) (false) ((0 : Int)) (false) (false) (a1) (true) (false) ((0 : Int)) (false) (false) : law15_MemFirmX))
      else
      if a1 < (1 : Int) then
        some (.inr (.r0 (true) : law15_MemFirmR))
      else
      some (.inl (.h2m0 (0) ((0 : Int)) (false) (false) ((0 : Int)) (false) (false) ((0 : Int)) (false) (false) (a1) (true) (false) : law15_MemFirmX))
    else
    none
  else
  none

def law15_MemFirm_h2m0 (a0 : Int) (a1 : Int) (L3 : List R_iiiib) (n4 : Nat) (n5 : Nat) (N : Nat) (v5 : Nat) (v7 : Int) (v8 : Bool) (v9 : Bool) (v10 : Int) (v11 : Bool) (v12 : Bool) (v13 : Int) (v14 : Bool) (v15 : Bool) (v16 : Int) (v17 : Bool) (v18 : Bool) : Option (law15_MemFirmX ⊕ law15_MemFirmR) :=
  if ((v5 : Nat) : Int) < ((n4 : Nat) : Int) then
    if ((v5 : Nat) : Int) < (60 : Int) then
      if v5 < L3.length then
        if (L3.getD v5 R_iiiib.z).a0 = (3 : Int) then
          if ¬ ((L3.getD v5 R_iiiib.z).a1 = (Int.tmod a0 (4 : Int))) then
            if (L3.getD v5 R_iiiib.z).a1 < (0 : Int) then
              some (.inl (.h3m0 (v5) (v7) (v8) (v9) (v10) (v11) (v12) (v13) (v14) (v15) (v16) (v17) (v18) : law15_MemFirmX))
            else
            if (4 : Int) ≤ (L3.getD v5 R_iiiib.z).a1 then
              some (.inl (.h3m0 (v5) (v7) (v8) (v9) (v10) (v11) (v12) (v13) (v14) (v15) (v16) (v17) (v18) : law15_MemFirmX))
            else
            if (L3.getD v5 R_iiiib.z).a1 = (0 : Int) then
              if v7 = (0 : Int) then
                some (.inl (.h3m0 (v5) (v7) (v8) (v9) (v10) (v11) (v12) (v13) (v14) (v15) (v16) (v17) (v18) : law15_MemFirmX))
              else
              some (.inl (.h3m0 (v5) ((0 : Int)) (false) (false) (v10) (v11) (v12) (v13) (v14) (v15) (v16) (v17) (v18) : law15_MemFirmX))
            else
            if (L3.getD v5 R_iiiib.z).a1 = (1 : Int) then
              if v10 = (0 : Int) then
                some (.inl (.h3m0 (v5) (v7) (v8) (v9) (v10) (v11) (v12) (v13) (v14) (v15) (v16) (v17) (v18) : law15_MemFirmX))
              else
              some (.inl (.h3m0 (v5) (v7) (v8) (v9) ((0 : Int)) (false) (false) (v13) (v14) (v15) (v16) (v17) (v18) : law15_MemFirmX))
            else
            if (L3.getD v5 R_iiiib.z).a1 = (2 : Int) then
              if v13 = (0 : Int) then
                some (.inl (.h3m0 (v5) (v7) (v8) (v9) (v10) (v11) (v12) (v13) (v14) (v15) (v16) (v17) (v18) : law15_MemFirmX))
              else
              some (.inl (.h3m0 (v5) (v7) (v8) (v9) (v10) (v11) (v12) ((0 : Int)) (false) (false) (v16) (v17) (v18) : law15_MemFirmX))
            else
            if v16 = (0 : Int) then
              some (.inl (.h3m0 (v5) (v7) (v8) (v9) (v10) (v11) (v12) (v13) (v14) (v15) (v16) (v17) (v18) : law15_MemFirmX))
            else
            some (.inl (.h3m0 (v5) (v7) (v8) (v9) (v10) (v11) (v12) (v13) (v14) (v15) ((0 : Int)) (false) (false) : law15_MemFirmX))
          else
          some (.inl (.h3m0 (v5) (v7) (v8) (v9) (v10) (v11) (v12) (v13) (v14) (v15) (v16) (v17) (v18) : law15_MemFirmX))
        else
        if (L3.getD v5 R_iiiib.z).a0 = (4 : Int) then
          if (L3.getD v5 R_iiiib.z).a1 < (0 : Int) then
            some (.inl (.h3m0 (v5) (v7) (v8) (v9) (v10) (v11) (v12) (v13) (v14) (v15) (v16) (v17) (v18) : law15_MemFirmX))
          else
          if (4 : Int) ≤ (L3.getD v5 R_iiiib.z).a1 then
            some (.inl (.h3m0 (v5) (v7) (v8) (v9) (v10) (v11) (v12) (v13) (v14) (v15) (v16) (v17) (v18) : law15_MemFirmX))
          else
          if (L3.getD v5 R_iiiib.z).a1 = (0 : Int) then
            if v7 = (0 : Int) then
              some (.inl (.h3m0 (v5) (v7) (v8) (v9) (v10) (v11) (v12) (v13) (v14) (v15) (v16) (v17) (v18) : law15_MemFirmX))
            else
            if v8 = true then
              some (.inl (.h3m0 (v5) (v7) (v8) (v9) (v10) (v11) (v12) (v13) (v14) (v15) (v16) (v17) (v18) : law15_MemFirmX))
            else
            if (L3.getD v5 R_iiiib.z).a1 = (Int.tmod a0 (4 : Int)) then
              some (.inr (.r0 (false) : law15_MemFirmR))
            else
            some (.inl (.h3m0 (v5) (v7) (v8) (true) (v10) (v11) (v12) (v13) (v14) (v15) (v16) (v17) (v18) : law15_MemFirmX))
          else
          if (L3.getD v5 R_iiiib.z).a1 = (1 : Int) then
            if v10 = (0 : Int) then
              some (.inl (.h3m0 (v5) (v7) (v8) (v9) (v10) (v11) (v12) (v13) (v14) (v15) (v16) (v17) (v18) : law15_MemFirmX))
            else
            if v11 = true then
              some (.inl (.h3m0 (v5) (v7) (v8) (v9) (v10) (v11) (v12) (v13) (v14) (v15) (v16) (v17) (v18) : law15_MemFirmX))
            else
            if (L3.getD v5 R_iiiib.z).a1 = (Int.tmod a0 (4 : Int)) then
              some (.inr (.r0 (false) : law15_MemFirmR))
            else
            some (.inl (.h3m0 (v5) (v7) (v8) (v9) (v10) (v11) (true) (v13) (v14) (v15) (v16) (v17) (v18) : law15_MemFirmX))
          else
          if (L3.getD v5 R_iiiib.z).a1 = (2 : Int) then
            if v13 = (0 : Int) then
              some (.inl (.h3m0 (v5) (v7) (v8) (v9) (v10) (v11) (v12) (v13) (v14) (v15) (v16) (v17) (v18) : law15_MemFirmX))
            else
            if v14 = true then
              some (.inl (.h3m0 (v5) (v7) (v8) (v9) (v10) (v11) (v12) (v13) (v14) (v15) (v16) (v17) (v18) : law15_MemFirmX))
            else
            if (L3.getD v5 R_iiiib.z).a1 = (Int.tmod a0 (4 : Int)) then
              some (.inr (.r0 (false) : law15_MemFirmR))
            else
            some (.inl (.h3m0 (v5) (v7) (v8) (v9) (v10) (v11) (v12) (v13) (v14) (true) (v16) (v17) (v18) : law15_MemFirmX))
          else
          if v16 = (0 : Int) then
            some (.inl (.h3m0 (v5) (v7) (v8) (v9) (v10) (v11) (v12) (v13) (v14) (v15) (v16) (v17) (v18) : law15_MemFirmX))
          else
          if v17 = true then
            some (.inl (.h3m0 (v5) (v7) (v8) (v9) (v10) (v11) (v12) (v13) (v14) (v15) (v16) (v17) (v18) : law15_MemFirmX))
          else
          if (L3.getD v5 R_iiiib.z).a1 = (Int.tmod a0 (4 : Int)) then
            some (.inr (.r0 (false) : law15_MemFirmR))
          else
          some (.inl (.h3m0 (v5) (v7) (v8) (v9) (v10) (v11) (v12) (v13) (v14) (v15) (v16) (v17) (true) : law15_MemFirmX))
        else
        if (L3.getD v5 R_iiiib.z).a1 < (0 : Int) then
          some (.inl (.h3m0 (v5) (v7) (v8) (v9) (v10) (v11) (v12) (v13) (v14) (v15) (v16) (v17) (v18) : law15_MemFirmX))
        else
        if (4 : Int) ≤ (L3.getD v5 R_iiiib.z).a1 then
          some (.inl (.h3m0 (v5) (v7) (v8) (v9) (v10) (v11) (v12) (v13) (v14) (v15) (v16) (v17) (v18) : law15_MemFirmX))
        else
        if (L3.getD v5 R_iiiib.z).a1 = (0 : Int) then
          if (L3.getD v5 R_iiiib.z).a2 < (1 : Int) then
            some (.inl (.h3m0 (v5) (v7) (v8) (v9) (v10) (v11) (v12) (v13) (v14) (v15) (v16) (v17) (v18) : law15_MemFirmX))
          else
          if ¬ (v7 = (0 : Int)) then
            some (.inl (.h3m0 (v5) (v7) (v8) (v9) (v10) (v11) (v12) (v13) (v14) (v15) (v16) (v17) (v18) : law15_MemFirmX))
          else
          some (.inl (.h3m0 (v5) ((L3.getD v5 R_iiiib.z).a2) (false) (false) (v10) (v11) (v12) (v13) (v14) (v15) (v16) (v17) (v18) : law15_MemFirmX))
        else
        if (L3.getD v5 R_iiiib.z).a1 = (1 : Int) then
          if (L3.getD v5 R_iiiib.z).a2 < (1 : Int) then
            some (.inl (.h3m0 (v5) (v7) (v8) (v9) (v10) (v11) (v12) (v13) (v14) (v15) (v16) (v17) (v18) : law15_MemFirmX))
          else
          if ¬ (v10 = (0 : Int)) then
            some (.inl (.h3m0 (v5) (v7) (v8) (v9) (v10) (v11) (v12) (v13) (v14) (v15) (v16) (v17) (v18) : law15_MemFirmX))
          else
          some (.inl (.h3m0 (v5) (v7) (v8) (v9) ((L3.getD v5 R_iiiib.z).a2) (false) (false) (v13) (v14) (v15) (v16) (v17) (v18) : law15_MemFirmX))
        else
        if (L3.getD v5 R_iiiib.z).a1 = (2 : Int) then
          if (L3.getD v5 R_iiiib.z).a2 < (1 : Int) then
            some (.inl (.h3m0 (v5) (v7) (v8) (v9) (v10) (v11) (v12) (v13) (v14) (v15) (v16) (v17) (v18) : law15_MemFirmX))
          else
          if ¬ (v13 = (0 : Int)) then
            some (.inl (.h3m0 (v5) (v7) (v8) (v9) (v10) (v11) (v12) (v13) (v14) (v15) (v16) (v17) (v18) : law15_MemFirmX))
          else
          some (.inl (.h3m0 (v5) (v7) (v8) (v9) (v10) (v11) (v12) ((L3.getD v5 R_iiiib.z).a2) (false) (false) (v16) (v17) (v18) : law15_MemFirmX))
        else
        if (L3.getD v5 R_iiiib.z).a2 < (1 : Int) then
          some (.inl (.h3m0 (v5) (v7) (v8) (v9) (v10) (v11) (v12) (v13) (v14) (v15) (v16) (v17) (v18) : law15_MemFirmX))
        else
        if ¬ (v16 = (0 : Int)) then
          some (.inl (.h3m0 (v5) (v7) (v8) (v9) (v10) (v11) (v12) (v13) (v14) (v15) (v16) (v17) (v18) : law15_MemFirmX))
        else
        some (.inl (.h3m0 (v5) (v7) (v8) (v9) (v10) (v11) (v12) (v13) (v14) (v15) ((L3.getD v5 R_iiiib.z).a2) (false) (false) : law15_MemFirmX))
      else
      none
    else
    some (.inr (.r0 (true) : law15_MemFirmR))
  else
  some (.inr (.r0 (true) : law15_MemFirmR))

def law15_MemFirm_h3m0 (a0 : Int) (a1 : Int) (L3 : List R_iiiib) (n4 : Nat) (n5 : Nat) (N : Nat) (v5 : Nat) (v7 : Int) (v8 : Bool) (v9 : Bool) (v10 : Int) (v11 : Bool) (v12 : Bool) (v13 : Int) (v14 : Bool) (v15 : Bool) (v16 : Int) (v17 : Bool) (v18 : Bool) : Option (law15_MemFirmX ⊕ law15_MemFirmR) :=
  if (Int.tmod a0 (4 : Int)) < (0 : Int) then
    some (.inr (.r0 (false) : law15_MemFirmR))
  else
  if (4 : Int) ≤ (Int.tmod a0 (4 : Int)) then
    some (.inr (.r0 (false) : law15_MemFirmR))
  else
  if (Int.tmod a0 (4 : Int)) = (0 : Int) then
    if v9 = true then
      some (.inr (.r0 (false) : law15_MemFirmR))
    else
    if v8 = true then
      if (((v5 + 1) : Nat) : Int) ≤ (9223372036854775807 : Int) then
        some (.inl (.h2m0 ((v5 + 1)) (v7) (v8) (v9) (v10) (v11) (v12) (v13) (v14) (v15) (v16) (v17) (v18) : law15_MemFirmX))
      else
      none
    else
    some (.inr (.r0 (false) : law15_MemFirmR))
  else
  if (Int.tmod a0 (4 : Int)) = (1 : Int) then
    if v12 = true then
      some (.inr (.r0 (false) : law15_MemFirmR))
    else
    if v11 = true then
      if (((v5 + 1) : Nat) : Int) ≤ (9223372036854775807 : Int) then
        some (.inl (.h2m0 ((v5 + 1)) (v7) (v8) (v9) (v10) (v11) (v12) (v13) (v14) (v15) (v16) (v17) (v18) : law15_MemFirmX))
      else
      none
    else
    some (.inr (.r0 (false) : law15_MemFirmR))
  else
  if (Int.tmod a0 (4 : Int)) = (2 : Int) then
    if v15 = true then
      some (.inr (.r0 (false) : law15_MemFirmR))
    else
    if v14 = true then
      if (((v5 + 1) : Nat) : Int) ≤ (9223372036854775807 : Int) then
        some (.inl (.h2m0 ((v5 + 1)) (v7) (v8) (v9) (v10) (v11) (v12) (v13) (v14) (v15) (v16) (v17) (v18) : law15_MemFirmX))
      else
      none
    else
    some (.inr (.r0 (false) : law15_MemFirmR))
  else
  if v18 = true then
    some (.inr (.r0 (false) : law15_MemFirmR))
  else
  if v17 = true then
    if (((v5 + 1) : Nat) : Int) ≤ (9223372036854775807 : Int) then
      some (.inl (.h2m0 ((v5 + 1)) (v7) (v8) (v9) (v10) (v11) (v12) (v13) (v14) (v15) (v16) (v17) (v18) : law15_MemFirmX))
    else
    none
  else
  some (.inr (.r0 (false) : law15_MemFirmR))

def law15_MemFirmStep (a0 : Int) (a1 : Int) (L3 : List R_iiiib) (n4 : Nat) (n5 : Nat) (N : Nat) : law15_MemFirmX → Option (law15_MemFirmX ⊕ law15_MemFirmR)
  | .h1m0 => law15_MemFirm_h1m0 a0 a1 L3 n4 n5 N
  | .h2m0 v5 v7 v8 v9 v10 v11 v12 v13 v14 v15 v16 v17 v18 => law15_MemFirm_h2m0 a0 a1 L3 n4 n5 N v5 v7 v8 v9 v10 v11 v12 v13 v14 v15 v16 v17 v18
  | .h3m0 v5 v7 v8 v9 v10 v11 v12 v13 v14 v15 v16 v17 v18 => law15_MemFirm_h3m0 a0 a1 L3 n4 n5 N v5 v7 v8 v9 v10 v11 v12 v13 v14 v15 v16 v17 v18

def law15_MemFirmIn (a0 : Int) (a1 : Int) (L3 : List R_iiiib) (n4 : Nat) (n5 : Nat) (N : Nat) : Option (law15_MemFirmX ⊕ law15_MemFirmR) :=
  some (.inl (.h1m0 : law15_MemFirmX))

def law15_MemFirm (a0 : Int) (a1 : Int) (L3 : List R_iiiib) (n4 : Nat) (n5 : Nat) (N : Nat) : Option law15_MemFirmR := goM (law15_MemFirmStep a0 a1 L3 n4 n5 N) N (law15_MemFirmIn a0 a1 L3 n4 n5 N)

/-- gantlet/gantletlaw15.MemFirm -/
inductive law15_MemFirm_2R where
  | r0 (w0 : Bool)

inductive law15_MemFirm_2X where
  | h1m0
  | h2m0 (v3 : Int) (v4 : Bool) (v6 : Int) (v7 : Bool) (v9 : Int) (v10 : Bool) (v12 : Int) (v13 : Bool)

def law15_MemFirm_2_h1m0 (a0 : Int) (a1 : Int) (N : Nat) : Option (law15_MemFirm_2X ⊕ law15_MemFirm_2R) :=
  if (-9223372036854775808 : Int) ≤ a0 then
    if a0 ≤ (9223372036854775807 : Int) then
      if (Int.tmod a0 (4 : Int)) < (0 : Int) then
        if a1 < (1 : Int) then
          some (.inr (.r0 (true) : law15_MemFirm_2R))
        else
        some (.inr (.r0 (false) : law15_MemFirm_2R))
      else
      if (4 : Int) ≤ (Int.tmod a0 (4 : Int)) then
        if a1 < (1 : Int) then
          some (.inr (.r0 (true) : law15_MemFirm_2R))
        else
        some (.inr (.r0 (false) : law15_MemFirm_2R))
      else
      if (Int.tmod a0 (4 : Int)) = (0 : Int) then
        if a1 < (1 : Int) then
          some (.inr (.r0 (true) : law15_MemFirm_2R))
        else
        some (.inl (.h2m0 (a1) (true) ((0 : Int)) (false) ((0 : Int)) (false) ((0 : Int)) (false) : law15_MemFirm_2X))
      else
      if (Int.tmod a0 (4 : Int)) = (1 : Int) then
        if a1 < (1 : Int) then
          some (.inr (.r0 (true) : law15_MemFirm_2R))
        else
        some (.inl (.h2m0 ((0 : Int)) (false) (a1) (true) ((0 : Int)) (false) ((0 : Int)) (false) : law15_MemFirm_2X))
      else
      if (Int.tmod a0 (4 : Int)) = (2 : Int) then
        if a1 < (1 : Int) then
          some (.inr (.r0 (true) : law15_MemFirm_2R))
        else
        some (.inl (.h2m0 ((0 : Int)) (false) ((0 : Int)) (false) (a1) (true) ((0 : Int)) (false) : law15_MemFirm_2X))
      else
      if a1 < (1 : Int) then
        some (.inr (.r0 (true) : law15_MemFirm_2R))
      else
      some (.inl (.h2m0 ((0 : Int)) (false) ((0 : Int)) (false) ((0 : Int)) (false) (a1) (true) : law15_MemFirm_2X))
    else
    none
  else
  none

def law15_MemFirm_2_h2m0 (a0 : Int) (a1 : Int) (N : Nat) (v3 : Int) (v4 : Bool) (v6 : Int) (v7 : Bool) (v9 : Int) (v10 : Bool) (v12 : Int) (v13 : Bool) : Option (law15_MemFirm_2X ⊕ law15_MemFirm_2R) :=
  some (.inr (.r0 (true) : law15_MemFirm_2R))

def law15_MemFirm_2Step (a0 : Int) (a1 : Int) (N : Nat) : law15_MemFirm_2X → Option (law15_MemFirm_2X ⊕ law15_MemFirm_2R)
  | .h1m0 => law15_MemFirm_2_h1m0 a0 a1 N
  | .h2m0 v3 v4 v6 v7 v9 v10 v12 v13 => law15_MemFirm_2_h2m0 a0 a1 N v3 v4 v6 v7 v9 v10 v12 v13

def law15_MemFirm_2In (a0 : Int) (a1 : Int) (N : Nat) : Option (law15_MemFirm_2X ⊕ law15_MemFirm_2R) :=
  some (.inl (.h1m0 : law15_MemFirm_2X))

def law15_MemFirm_2 (a0 : Int) (a1 : Int) (N : Nat) : Option law15_MemFirm_2R := goM (law15_MemFirm_2Step a0 a1 N) N (law15_MemFirm_2In a0 a1 N)
end Ev
end Go.Proofs.Ytigjdlljpklbiaa
