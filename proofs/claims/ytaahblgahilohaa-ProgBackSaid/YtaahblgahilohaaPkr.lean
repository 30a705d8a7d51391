/- Records, and the program's functions as plain ones. -/
import Derived.Test.YtaahblgahilohaaFm
namespace Go.Proofs.Ytaahblgahilohaa
open Go.RowKit
namespace Ev
set_option linter.unusedVariables false
structure R_iiii where
  a0 : Int
  a1 : Int
  a2 : Int
  a3 : Int
def R_iiii.z : R_iiii := ⟨0, 0, 0, 0⟩
/-- gantlet/instr.kind -/
inductive instr_kindR where
  | r0
  | r1
  | r2
  | r3
  | r4
  | r5
  | r6
  | r7
  | r8
  | r9
  | r10
  | r11
  | r12
  | r13
  | r14
  | r15
  | r16
  | r17
  | r18
  | r19
  | r20

def instr_kind (a0 : Int) (N : Nat) : Option instr_kindR :=
  if a0 < (0 : Int) then
    some (.r0 : instr_kindR)
  else
  if (21 : Int) ≤ a0 then
    some (.r0 : instr_kindR)
  else
  if a0 = (0 : Int) then
    some (.r0 : instr_kindR)
  else
  if a0 = (1 : Int) then
    some (.r1 : instr_kindR)
  else
  if a0 = (2 : Int) then
    some (.r2 : instr_kindR)
  else
  if a0 = (3 : Int) then
    some (.r3 : instr_kindR)
  else
  if a0 = (4 : Int) then
    some (.r4 : instr_kindR)
  else
  if a0 = (5 : Int) then
    some (.r5 : instr_kindR)
  else
  if a0 = (6 : Int) then
    some (.r6 : instr_kindR)
  else
  if a0 = (7 : Int) then
    some (.r7 : instr_kindR)
  else
  if a0 = (8 : Int) then
    some (.r8 : instr_kindR)
  else
  if a0 = (9 : Int) then
    some (.r9 : instr_kindR)
  else
  if a0 = (10 : Int) then
    some (.r10 : instr_kindR)
  else
  if a0 = (11 : Int) then
    some (.r11 : instr_kindR)
  else
  if a0 = (12 : Int) then
    some (.r12 : instr_kindR)
  else
  if a0 = (13 : Int) then
    some (.r13 : instr_kindR)
  else
  if a0 = (14 : Int) then
    some (.r14 : instr_kindR)
  else
  if a0 = (15 : Int) then
    some (.r15 : instr_kindR)
  else
  if a0 = (16 : Int) then
    some (.r16 : instr_kindR)
  else
  if a0 = (17 : Int) then
    some (.r17 : instr_kindR)
  else
  if a0 = (18 : Int) then
    some (.r18 : instr_kindR)
  else
  if a0 = (19 : Int) then
    some (.r19 : instr_kindR)
  else
  some (.r20 : instr_kindR)

/-- (gantlet/instr.shape).fits -/
inductive instr_shape_fitsR where
  | r0 (w0 : Bool)

def instr_shape_fits (a0 : Int) (a1 : Int) (a2 : Int) (N : Nat) : Option instr_shape_fitsR :=
  if a0 = (1 : Int) then
    if (0 : Int) ≤ a1 then
      if a1 ≤ (7 : Int) then
        some (.r0 (true) : instr_shape_fitsR)
      else
      some (.r0 (false) : instr_shape_fitsR)
    else
    some (.r0 (false) : instr_shape_fitsR)
  else
  if a0 = (2 : Int) then
    if (0 : Int) ≤ a1 then
      if a1 ≤ (15 : Int) then
        some (.r0 (true) : instr_shape_fitsR)
      else
      some (.r0 (false) : instr_shape_fitsR)
    else
    some (.r0 (false) : instr_shape_fitsR)
  else
  if a0 = (3 : Int) then
    if (1 : Int) ≤ a1 then
      if a1 ≤ (16 : Int) then
        some (.r0 (true) : instr_shape_fitsR)
      else
      some (.r0 (false) : instr_shape_fitsR)
    else
    some (.r0 (false) : instr_shape_fitsR)
  else
  if a0 = (4 : Int) then
    if (0 : Int) ≤ a1 then
      if a1 ≤ (512 : Int) then
        some (.r0 (true) : instr_shape_fitsR)
      else
      some (.r0 (false) : instr_shape_fitsR)
    else
    some (.r0 (false) : instr_shape_fitsR)
  else
  if a0 = (5 : Int) then
    if (0 : Int) ≤ a2 then
      if a2 ≤ (64 : Int) then
        if (0 : Int) ≤ a1 then
          if a1 ≤ (IntKind.i64.wrap ((IntKind.i64.wrap ((1 : Int) * (2 ^ (a2).toNat : Int))) - (1 : Int))) then
            some (.r0 (true) : instr_shape_fitsR)
          else
          some (.r0 (false) : instr_shape_fitsR)
        else
        some (.r0 (false) : instr_shape_fitsR)
      else
      none
    else
    none
  else
  if a0 = (6 : Int) then
    if (-1099511627776 : Int) ≤ a1 then
      if a1 ≤ (1099511627776 : Int) then
        some (.r0 (true) : instr_shape_fitsR)
      else
      some (.r0 (false) : instr_shape_fitsR)
    else
    some (.r0 (false) : instr_shape_fitsR)
  else
  if (0 : Int) ≤ a1 then
    if a1 ≤ (0 : Int) then
      some (.r0 (true) : instr_shape_fitsR)
    else
    some (.r0 (false) : instr_shape_fitsR)
  else
  some (.r0 (false) : instr_shape_fitsR)

/-- gantlet/instr.Check -/
inductive instr_CheckR where
  | r0 (w0 : Int)

inductive instr_CheckX where
  | h1m0 (v1 : Nat) (v2 : Nat) (v3 : Nat)
  | h1m1 (v1 : Nat) (v2 : Nat) (v3 : Nat)
  | h1m2 (v1 : Nat) (v2 : Nat) (v3 : Nat)
  | h1m3 (v1 : Nat) (v2 : Nat) (v3 : Nat)

def instr_Check_h1m0 (a0 : Int) (a1 : Int) (a2 : Int) (a3 : Int) (N : Nat) (v1 : Nat) (v2 : Nat) (v3 : Nat) : Option (instr_CheckX ⊕ instr_CheckR) :=
  ((instr_shape_fits (((v1 : Nat) : Int)) (a1) ((0 : Int)) N).bind fun r => match r with
  | .r0 y0_0 =>
    if ¬ (y0_0 = true) then
      some (.inr (.r0 ((100 : Int)) : instr_CheckR))
    else
    some (.inl (.h1m1 (v1) (v2) (v3) : instr_CheckX))
  )

def instr_Check_h1m1 (a0 : Int) (a1 : Int) (a2 : Int) (a3 : Int) (N : Nat) (v1 : Nat) (v2 : Nat) (v3 : Nat) : Option (instr_CheckX ⊕ instr_CheckR) :=
  ((instr_shape_fits (((v2 : Nat) : Int)) (a2) (a1) N).bind fun r => match r with
  | .r0 y0_0 =>
    if ¬ (y0_0 = true) then
      some (.inr (.r0 ((100 : Int)) : instr_CheckR))
    else
    some (.inl (.h1m2 (v1) (v2) (v3) : instr_CheckX))
  )

def instr_Check_h1m2 (a0 : Int) (a1 : Int) (a2 : Int) (a3 : Int) (N : Nat) (v1 : Nat) (v2 : Nat) (v3 : Nat) : Option (instr_CheckX ⊕ instr_CheckR) :=
  ((instr_shape_fits (((v3 : Nat) : Int)) (a3) (a2) N).bind fun r => match r with
  | .r0 y0_0 =>
    if ¬ (y0_0 = true) then
      some (.inr (.r0 ((100 : Int)) : instr_CheckR))
    else
    some (.inl (.h1m3 (v1) (v2) (v3) : instr_CheckX))
  )

def instr_Check_h1m3 (a0 : Int) (a1 : Int) (a2 : Int) (a3 : Int) (N : Nat) (v1 : Nat) (v2 : Nat) (v3 : Nat) : Option (instr_CheckX ⊕ instr_CheckR) :=
  some (.inr (.r0 ((0 : Int)) : instr_CheckR))

def instr_CheckStep (a0 : Int) (a1 : Int) (a2 : Int) (a3 : Int) (N : Nat) : instr_CheckX → Option (instr_CheckX ⊕ instr_CheckR)
  | .h1m0 v1 v2 v3 => instr_Check_h1m0 a0 a1 a2 a3 N v1 v2 v3
  | .h1m1 v1 v2 v3 => instr_Check_h1m1 a0 a1 a2 a3 N v1 v2 v3
  | .h1m2 v1 v2 v3 => instr_Check_h1m2 a0 a1 a2 a3 N v1 v2 v3
  | .h1m3 v1 v2 v3 => instr_Check_h1m3 a0 a1 a2 a3 N v1 v2 v3

def instr_CheckIn (a0 : Int) (a1 : Int) (a2 : Int) (a3 : Int) (N : Nat) : Option (instr_CheckX ⊕ instr_CheckR) :=
  ((instr_kind (a0) N).bind fun r => match r with
  | .r0 =>
    some (.inr (.r0 ((100 : Int)) : instr_CheckR))
  | .r1 =>
    some (.inl (.h1m0 (1) (6) (0) : instr_CheckX))
  | .r2 =>
    some (.inl (.h1m0 (1) (0) (0) : instr_CheckX))
  | .r3 =>
    some (.inl (.h1m0 (1) (1) (0) : instr_CheckX))
  | .r4 =>
    some (.inl (.h1m0 (1) (1) (1) : instr_CheckX))
  | .r5 =>
    some (.inl (.h1m0 (1) (1) (1) : instr_CheckX))
  | .r6 =>
    some (.inl (.h1m0 (1) (1) (1) : instr_CheckX))
  | .r7 =>
    some (.inl (.h1m0 (1) (1) (1) : instr_CheckX))
  | .r8 =>
    some (.inl (.h1m0 (4) (0) (0) : instr_CheckX))
  | .r9 =>
    some (.inl (.h1m0 (1) (4) (0) : instr_CheckX))
  | .r10 =>
    some (.inl (.h1m0 (1) (0) (0) : instr_CheckX))
  | .r11 =>
    some (.inl (.h1m0 (1) (3) (5) : instr_CheckX))
  | .r12 =>
    some (.inl (.h1m0 (1) (0) (0) : instr_CheckX))
  | .r13 =>
    some (.inl (.h1m0 (1) (1) (2) : instr_CheckX))
  | .r14 =>
    some (.inl (.h1m0 (1) (2) (1) : instr_CheckX))
  | .r15 =>
    some (.inl (.h1m0 (0) (0) (0) : instr_CheckX))
  | .r16 =>
    some (.inl (.h1m0 (0) (0) (0) : instr_CheckX))
  | .r17 =>
    some (.inl (.h1m0 (0) (0) (0) : instr_CheckX))
  | .r18 =>
    some (.inl (.h1m0 (0) (0) (0) : instr_CheckX))
  | .r19 =>
    some (.inl (.h1m0 (1) (0) (0) : instr_CheckX))
  | .r20 =>
    some (.inl (.h1m0 (0) (0) (0) : instr_CheckX))
  )

def instr_Check (a0 : Int) (a1 : Int) (a2 : Int) (a3 : Int) (N : Nat) : Option instr_CheckR := goM (instr_CheckStep a0 a1 a2 a3 N) N (instr_CheckIn a0 a1 a2 a3 N)

/-- gantlet/instr.kind -/
inductive instr_kind_2R where
  | r0 (w0 : List Int) (w1 : Int) (w2 : Int) (w3 : Int)

def instr_kind_2 (a0 : Int) (N : Nat) : Option instr_kind_2R :=
  if a0 < (0 : Int) then
    some (.r0 (([] : List Int)) ((0 : Int)) ((0 : Int)) ((0 : Int)) : instr_kind_2R)
  else
  if (21 : Int) ≤ a0 then
    some (.r0 (([] : List Int)) ((0 : Int)) ((0 : Int)) ((0 : Int)) : instr_kind_2R)
  else
  if a0 = (0 : Int) then
    some (.r0 (([] : List Int)) ((0 : Int)) ((0 : Int)) ((0 : Int)) : instr_kind_2R)
  else
  if a0 = (1 : Int) then
    some (.r0 (([(99 : Int), (111 : Int), (110 : Int), (115 : Int), (116 : Int)] : List Int)) ((1 : Int)) ((6 : Int)) ((0 : Int)) : instr_kind_2R)
  else
  if a0 = (2 : Int) then
    some (.r0 (([(110 : Int), (105 : Int), (108 : Int)] : List Int)) ((1 : Int)) ((0 : Int)) ((0 : Int)) : instr_kind_2R)
  else
  if a0 = (3 : Int) then
    some (.r0 (([(109 : Int), (111 : Int), (118 : Int), (101 : Int)] : List Int)) ((1 : Int)) ((1 : Int)) ((0 : Int)) : instr_kind_2R)
  else
  if a0 = (4 : Int) then
    some (.r0 (([(97 : Int), (100 : Int), (100 : Int)] : List Int)) ((1 : Int)) ((1 : Int)) ((1 : Int)) : instr_kind_2R)
  else
  if a0 = (5 : Int) then
    some (.r0 (([(115 : Int), (117 : Int), (98 : Int)] : List Int)) ((1 : Int)) ((1 : Int)) ((1 : Int)) : instr_kind_2R)
  else
  if a0 = (6 : Int) then
    some (.r0 (([(108 : Int), (101 : Int), (115 : Int), (115 : Int)] : List Int)) ((1 : Int)) ((1 : Int)) ((1 : Int)) : instr_kind_2R)
  else
  if a0 = (7 : Int) then
    some (.r0 (([(101 : Int), (113 : Int)] : List Int)) ((1 : Int)) ((1 : Int)) ((1 : Int)) : instr_kind_2R)
  else
  if a0 = (8 : Int) then
    some (.r0 (([(106 : Int), (117 : Int), (109 : Int), (112 : Int)] : List Int)) ((4 : Int)) ((0 : Int)) ((0 : Int)) : instr_kind_2R)
  else
  if a0 = (9 : Int) then
    some (.r0 (([(106 : Int), (117 : Int), (109 : Int), (112 : Int), (122 : Int)] : List Int)) ((1 : Int)) ((4 : Int)) ((0 : Int)) : instr_kind_2R)
  else
  if a0 = (10 : Int) then
    some (.r0 (([(114 : Int), (111 : Int), (111 : Int), (116 : Int)] : List Int)) ((1 : Int)) ((0 : Int)) ((0 : Int)) : instr_kind_2R)
  else
  if a0 = (11 : Int) then
    some (.r0 (([(110 : Int), (101 : Int), (119 : Int)] : List Int)) ((1 : Int)) ((3 : Int)) ((5 : Int)) : instr_kind_2R)
  else
  if a0 = (12 : Int) then
    some (.r0 (([(102 : Int), (114 : Int), (101 : Int), (101 : Int)] : List Int)) ((1 : Int)) ((0 : Int)) ((0 : Int)) : instr_kind_2R)
  else
  if a0 = (13 : Int) then
    some (.r0 (([(103 : Int), (101 : Int), (116 : Int)] : List Int)) ((1 : Int)) ((1 : Int)) ((2 : Int)) : instr_kind_2R)
  else
  if a0 = (14 : Int) then
    some (.r0 (([(115 : Int), (101 : Int), (116 : Int)] : List Int)) ((1 : Int)) ((2 : Int)) ((1 : Int)) : instr_kind_2R)
  else
  if a0 = (15 : Int) then
    some (.r0 (([(98 : Int), (101 : Int), (103 : Int), (105 : Int), (110 : Int)] : List Int)) ((0 : Int)) ((0 : Int)) ((0 : Int)) : instr_kind_2R)
  else
  if a0 = (16 : Int) then
    some (.r0 (([(101 : Int), (108 : Int), (115 : Int), (101 : Int)] : List Int)) ((0 : Int)) ((0 : Int)) ((0 : Int)) : instr_kind_2R)
  else
  if a0 = (17 : Int) then
    some (.r0 (([(101 : Int), (110 : Int), (100 : Int)] : List Int)) ((0 : Int)) ((0 : Int)) ((0 : Int)) : instr_kind_2R)
  else
  if a0 = (18 : Int) then
    some (.r0 (([(114 : Int), (101 : Int), (116 : Int), (114 : Int), (121 : Int)] : List Int)) ((0 : Int)) ((0 : Int)) ((0 : Int)) : instr_kind_2R)
  else
  if a0 = (19 : Int) then
    some (.r0 (([(101 : Int), (109 : Int), (105 : Int), (116 : Int)] : List Int)) ((1 : Int)) ((0 : Int)) ((0 : Int)) : instr_kind_2R)
  else
  some (.r0 (([(104 : Int), (97 : Int), (108 : Int), (116 : Int)] : List Int)) ((0 : Int)) ((0 : Int)) ((0 : Int)) : instr_kind_2R)

/-- (gantlet/instr.shape).width -/
inductive instr_shape_widthR where
  | r0 (w0 : Int)

def instr_shape_width (a0 : Int) (N : Nat) : Option instr_shape_widthR :=
  if a0 = (1 : Int) then
    some (.r0 ((1 : Int)) : instr_shape_widthR)
  else
  if a0 = (2 : Int) then
    some (.r0 ((1 : Int)) : instr_shape_widthR)
  else
  if a0 = (3 : Int) then
    some (.r0 ((1 : Int)) : instr_shape_widthR)
  else
  if a0 = (4 : Int) then
    some (.r0 ((2 : Int)) : instr_shape_widthR)
  else
  if a0 = (5 : Int) then
    some (.r0 ((3 : Int)) : instr_shape_widthR)
  else
  if a0 = (6 : Int) then
    some (.r0 ((8 : Int)) : instr_shape_widthR)
  else
  some (.r0 ((0 : Int)) : instr_shape_widthR)

/-- gantlet/instr.Encode -/
inductive instr_EncodeR where
  | r0 (w0 : Int)
  | r1 (w0 : List Int)

inductive instr_EncodeX where
  | h1m0 (v1 : Int) (v2 : Int) (v3 : Int)
  | h1m1 (v0 : List Int) (v1 : Int) (v2 : Int) (v3 : Int)
  | h1m2 (v0 : List Int) (v1 : Int) (v2 : Int) (v3 : Int)
  | h1m3 (v0 : List Int) (v1 : Int) (v2 : Int) (v3 : Int)
  | h2m0 (v0 : List Int) (v1 : Int) (v2 : Int) (v3 : Int) (v4 : Int)
  | h2m1 (v0 : List Int) (v1 : Int) (v2 : Int) (v3 : Int) (v4 : Int)
  | h2m2 (v0 : List Int) (v1 : Int) (v2 : Int) (v3 : Int) (v4 : Int)

def instr_Encode_h1m0 (a0 : Int) (a1 : Int) (a2 : Int) (a3 : Int) (N : Nat) (v1 : Int) (v2 : Int) (v3 : Int) : Option (instr_EncodeX ⊕ instr_EncodeR) :=
  ((instr_shape_width (v1) N).bind fun r => match r with
  | .r0 y0_0 =>
    some (.inl (.h2m0 (([(IntKind.u8.wrap a0)] : List Int)) ((IntKind.i64.wrap ((8 : Int) * (IntKind.i64.wrap (y0_0 - (1 : Int)))))) (v1) (v2) (v3) : instr_EncodeX))
  )

def instr_Encode_h1m1 (a0 : Int) (a1 : Int) (a2 : Int) (a3 : Int) (N : Nat) (v0 : List Int) (v1 : Int) (v2 : Int) (v3 : Int) : Option (instr_EncodeX ⊕ instr_EncodeR) :=
  ((instr_shape_width (v2) N).bind fun r => match r with
  | .r0 y0_0 =>
    some (.inl (.h2m1 (v0) ((IntKind.i64.wrap ((8 : Int) * (IntKind.i64.wrap (y0_0 - (1 : Int)))))) (v1) (v2) (v3) : instr_EncodeX))
  )

def instr_Encode_h1m2 (a0 : Int) (a1 : Int) (a2 : Int) (a3 : Int) (N : Nat) (v0 : List Int) (v1 : Int) (v2 : Int) (v3 : Int) : Option (instr_EncodeX ⊕ instr_EncodeR) :=
  ((instr_shape_width (v3) N).bind fun r => match r with
  | .r0 y0_0 =>
    some (.inl (.h2m2 (v0) ((IntKind.i64.wrap ((8 : Int) * (IntKind.i64.wrap (y0_0 - (1 : Int)))))) (v1) (v2) (v3) : instr_EncodeX))
  )

def instr_Encode_h1m3 (a0 : Int) (a1 : Int) (a2 : Int) (a3 : Int) (N : Nat) (v0 : List Int) (v1 : Int) (v2 : Int) (v3 : Int) : Option (instr_EncodeX ⊕ instr_EncodeR) :=
  some (.inr (.r1 (v0) : instr_EncodeR))

def instr_Encode_h2m0 (a0 : Int) (a1 : Int) (a2 : Int) (a3 : Int) (N : Nat) (v0 : List Int) (v1 : Int) (v2 : Int) (v3 : Int) (v4 : Int) : Option (instr_EncodeX ⊕ instr_EncodeR) :=
  if (0 : Int) ≤ v1 then
    if v1 ≤ (64 : Int) then
      if v0.length ≤ 100000 then
        some (.inl (.h2m0 ((v0 ++ ([(IntKind.u8.wrap ((IntKind.u64.wrap a1) / (2 ^ (v1).toNat : Int)))] : List Int))) ((v1 - (8 : Int))) (v2) (v3) (v4) : instr_EncodeX))
      else
      none
    else
    none
  else
  some (.inl (.h1m1 (v0) (v2) (v3) (v4) : instr_EncodeX))

def instr_Encode_h2m1 (a0 : Int) (a1 : Int) (a2 : Int) (a3 : Int) (N : Nat) (v0 : List Int) (v1 : Int) (v2 : Int) (v3 : Int) (v4 : Int) : Option (instr_EncodeX ⊕ instr_EncodeR) :=
  if (0 : Int) ≤ v1 then
    if v1 ≤ (64 : Int) then
      if v0.length ≤ 100000 then
        some (.inl (.h2m1 ((v0 ++ ([(IntKind.u8.wrap ((IntKind.u64.wrap a2) / (2 ^ (v1).toNat : Int)))] : List Int))) ((v1 - (8 : Int))) (v2) (v3) (v4) : instr_EncodeX))
      else
      none
    else
    none
  else
  some (.inl (.h1m2 (v0) (v2) (v3) (v4) : instr_EncodeX))

def instr_Encode_h2m2 (a0 : Int) (a1 : Int) (a2 : Int) (a3 : Int) (N : Nat) (v0 : List Int) (v1 : Int) (v2 : Int) (v3 : Int) (v4 : Int) : Option (instr_EncodeX ⊕ instr_EncodeR) :=
  if (0 : Int) ≤ v1 then
    if v1 ≤ (64 : Int) then
      if v0.length ≤ 100000 then
        some (.inl (.h2m2 ((v0 ++ ([(IntKind.u8.wrap ((IntKind.u64.wrap a3) / (2 ^ (v1).toNat : Int)))] : List Int))) ((v1 - (8 : Int))) (v2) (v3) (v4) : instr_EncodeX))
      else
      none
    else
    none
  else
  some (.inl (.h1m3 (v0) (v2) (v3) (v4) : instr_EncodeX))

def instr_EncodeStep (a0 : Int) (a1 : Int) (a2 : Int) (a3 : Int) (N : Nat) : instr_EncodeX → Option (instr_EncodeX ⊕ instr_EncodeR)
  | .h1m0 v1 v2 v3 => instr_Encode_h1m0 a0 a1 a2 a3 N v1 v2 v3
  | .h1m1 v0 v1 v2 v3 => instr_Encode_h1m1 a0 a1 a2 a3 N v0 v1 v2 v3
  | .h1m2 v0 v1 v2 v3 => instr_Encode_h1m2 a0 a1 a2 a3 N v0 v1 v2 v3
  | .h1m3 v0 v1 v2 v3 => instr_Encode_h1m3 a0 a1 a2 a3 N v0 v1 v2 v3
  | .h2m0 v0 v1 v2 v3 v4 => instr_Encode_h2m0 a0 a1 a2 a3 N v0 v1 v2 v3 v4
  | .h2m1 v0 v1 v2 v3 v4 => instr_Encode_h2m1 a0 a1 a2 a3 N v0 v1 v2 v3 v4
  | .h2m2 v0 v1 v2 v3 v4 => instr_Encode_h2m2 a0 a1 a2 a3 N v0 v1 v2 v3 v4

def instr_EncodeIn (a0 : Int) (a1 : Int) (a2 : Int) (a3 : Int) (N : Nat) : Option (instr_EncodeX ⊕ instr_EncodeR) :=
  ((instr_Check (a0) (a1) (a2) (a3) N).bind fun r => match r with
  | .r0 y0_0 =>
    if ¬ (y0_0 = (0 : Int)) then
      some (.inr (.r0 (y0_0) : instr_EncodeR))
    else
    ((instr_kind_2 (a0) N).bind fun r => match r with
    | .r0 y2_0 y2_1 y2_2 y2_3 =>
      some (.inl (.h1m0 (y2_1) (y2_2) (y2_3) : instr_EncodeX))
    )
  )

def instr_Encode (a0 : Int) (a1 : Int) (a2 : Int) (a3 : Int) (N : Nat) : Option instr_EncodeR := goM (instr_EncodeStep a0 a1 a2 a3 N) N (instr_EncodeIn a0 a1 a2 a3 N)

/-- gantlet/prog.sum -/
inductive prog_sumR where
  | r0 (w1 : Int)

inductive prog_sumX where
  | h1m0 (v4 : Nat) (v5 : Int)

def prog_sum_h1m0 (L0 : List Int) (n1 : Nat) (n2 : Nat) (N : Nat) (v4 : Nat) (v5 : Int) : Option (prog_sumX ⊕ prog_sumR) :=
  if ((v4 : Nat) : Int) < ((n1 : Nat) : Int) then
    if v4 < L0.length then
      if (((v4 + 1) : Nat) : Int) ≤ (9223372036854775807 : Int) then
        some (.inl (.h1m0 ((v4 + 1)) ((IntKind.u8.wrap (v5 + (L0.getD v4 0)))) : prog_sumX))
      else
      none
    else
    none
  else
  some (.inr (.r0 (v5) : prog_sumR))

def prog_sumStep (L0 : List Int) (n1 : Nat) (n2 : Nat) (N : Nat) : prog_sumX → Option (prog_sumX ⊕ prog_sumR)
  | .h1m0 v4 v5 => prog_sum_h1m0 L0 n1 n2 N v4 v5

def prog_sumIn (L0 : List Int) (n1 : Nat) (n2 : Nat) (N : Nat) : Option (prog_sumX ⊕ prog_sumR) :=
  some (.inl (.h1m0 (0) ((0 : Int)) : prog_sumX))

def prog_sum (L0 : List Int) (n1 : Nat) (n2 : Nat) (N : Nat) : Option prog_sumR := goM (prog_sumStep L0 n1 n2 N) N (prog_sumIn L0 n1 n2 N)

/-- gantlet/prog.Encode -/
inductive prog_EncodeR where
  | r0 (w2 : Int)
  | r1 (w2 : List Int)

inductive prog_EncodeX where
  | h1m0 (v2 : List Int) (v6 : Nat)

def prog_Encode_h1m0 (L1 : List R_iiii) (n2 : Nat) (n3 : Nat) (N : Nat) (v2 : List Int) (v6 : Nat) : Option (prog_EncodeX ⊕ prog_EncodeR) :=
  if ((v6 : Nat) : Int) < ((n2 : Nat) : Int) then
    if v6 < L1.length then
      ((instr_Encode ((L1.getD v6 R_iiii.z).a0) ((L1.getD v6 R_iiii.z).a1) ((L1.getD v6 R_iiii.z).a2) ((L1.getD v6 R_iiii.z).a3) N).bind fun r => match r with
      | .r0 y2_0 =>
        if ¬ (y2_0 = (0 : Int)) then
          some (.inr (.r0 ((110 : Int)) : prog_EncodeR))
        else
        if (((v6 + 1) : Nat) : Int) ≤ (9223372036854775807 : Int) then
          some (.inl (.h1m0 (v2) ((v6 + 1)) : prog_EncodeX))
        else
        none
      | .r1 y2_0 =>
        if y2_0.length = 0 then
          if (((v6 + 1) : Nat) : Int) ≤ (9223372036854775807 : Int) then
            some (.inl (.h1m0 (v2) ((v6 + 1)) : prog_EncodeX))
          else
          none
        else
        if y2_0.length ≤ 100000 then
          if v2.length ≤ 100000 then
            if (((v6 + 1) : Nat) : Int) ≤ (9223372036854775807 : Int) then
              some (.inl (.h1m0 ((v2 ++ y2_0)) ((v6 + 1)) : prog_EncodeX))
            else
            none
          else
          none
        else
        none
      )
    else
    none
  else
  ((prog_sum (v2) (v2.length) (v2.length) N).bind fun r => match r with
  | .r0 y1_0 =>
    if v2.length ≤ 100000 then
      some (.inr (.r1 ((v2 ++ ([y1_0] : List Int))) : prog_EncodeR))
    else
    none
  )

def prog_EncodeStep (L1 : List R_iiii) (n2 : Nat) (n3 : Nat) (N : Nat) : prog_EncodeX → Option (prog_EncodeX ⊕ prog_EncodeR)
  | .h1m0 v2 v6 => prog_Encode_h1m0 L1 n2 n3 N v2 v6

def prog_EncodeIn (L1 : List R_iiii) (n2 : Nat) (n3 : Nat) (N : Nat) : Option (prog_EncodeX ⊕ prog_EncodeR) :=
  if (512 : Int) < ((n2 : Nat) : Int) then
    some (.inr (.r0 ((3 : Int)) : prog_EncodeR))
  else
  some (.inl (.h1m0 (([(71 : Int), (78 : Int), (84 : Int), (1 : Int), (((n2 : Nat) : Int) / (256 : Int)), (IntKind.u8.wrap ((n2 : Nat) : Int))] : List Int)) (0) : prog_EncodeX))

def prog_Encode (L1 : List R_iiii) (n2 : Nat) (n3 : Nat) (N : Nat) : Option prog_EncodeR := goM (prog_EncodeStep L1 n2 n3 N) N (prog_EncodeIn L1 n2 n3 N)

/-- gantlet/prog.Decode -/
inductive prog_DecodeR where
  | r0

def prog_Decode  (N : Nat) : Option prog_DecodeR :=
  some (.r0 : prog_DecodeR)

/-- gantlet/instr.join -/
inductive instr_joinR where
  | r0 (w1 : Int)

inductive instr_joinX where
  | h1m0 (v1 : Int) (v6 : Nat)

def instr_join_h1m0 (L0 : List Int) (n1 : Nat) (n2 : Nat) (n3 : Nat) (N : Nat) (v1 : Int) (v6 : Nat) : Option (instr_joinX ⊕ instr_joinR) :=
  if ((v6 : Nat) : Int) < ((n2 : Nat) : Int) then
    if (v6 + n1) < L0.length then
      if (0 : Int) ≤ (L0.getD (v6 + n1) 0) then
        if (L0.getD (v6 + n1) 0) ≤ (18446744073709551615 : Int) then
          if (((v6 + 1) : Nat) : Int) ≤ (9223372036854775807 : Int) then
            some (.inl (.h1m0 ((IntKind.u64.wrap (((BitVec.ofInt IntKind.u64.bits (IntKind.u64.wrap (v1 * (2 ^ 8 : Int))) ||| BitVec.ofInt IntKind.u64.bits (L0.getD (v6 + n1) 0)).toNat : Nat) : Int))) ((v6 + 1)) : instr_joinX))
          else
          none
        else
        none
      else
      none
    else
    none
  else
  some (.inr (.r0 ((IntKind.i64.wrap v1)) : instr_joinR))

def instr_joinStep (L0 : List Int) (n1 : Nat) (n2 : Nat) (n3 : Nat) (N : Nat) : instr_joinX → Option (instr_joinX ⊕ instr_joinR)
  | .h1m0 v1 v6 => instr_join_h1m0 L0 n1 n2 n3 N v1 v6

def instr_joinIn (L0 : List Int) (n1 : Nat) (n2 : Nat) (n3 : Nat) (N : Nat) : Option (instr_joinX ⊕ instr_joinR) :=
  some (.inl (.h1m0 ((0 : Int)) (0) : instr_joinX))

def instr_join (L0 : List Int) (n1 : Nat) (n2 : Nat) (n3 : Nat) (N : Nat) : Option instr_joinR := goM (instr_joinStep L0 n1 n2 n3 N) N (instr_joinIn L0 n1 n2 n3 N)

/-- gantlet/instr.Decode -/
inductive instr_DecodeR where
  | r0 (w5 : Int)
  | r1 (w2 : Int) (w3 : Int) (w4 : Int) (w5 : List Int)

inductive instr_DecodeX where
  | h1m0 (v7 : Int) (v8 : Int) (v9 : Int)
  | h1m1 (v4 : Nat) (v5 : Nat) (v6 : Nat) (v7 : Int) (v8 : Int) (v9 : Int) (v14 : Int)
  | h1m2 (v4 : Nat) (v5 : Nat) (v6 : Nat) (v7 : Int) (v8 : Int) (v9 : Int) (v14 : Int) (v15 : Int)
  | h1m3 (v4 : Nat) (v5 : Nat) (v6 : Nat) (v7 : Int) (v8 : Int) (v9 : Int) (v14 : Int) (v15 : Int) (v16 : Int)

def instr_Decode_h1m0 (L0 : List Int) (n1 : Nat) (n2 : Nat) (n3 : Nat) (N : Nat) (v7 : Int) (v8 : Int) (v9 : Int) : Option (instr_DecodeX ⊕ instr_DecodeR) :=
  ((instr_shape_width (v7) N).bind fun r => match r with
  | .r0 y0_0 =>
    if (((n2 - 1) : Nat) : Int) < y0_0 then
      some (.inr (.r0 ((6 : Int)) : instr_DecodeR))
    else
    ((instr_shape_width (v7) N).bind fun r => match r with
    | .r0 y2_0 =>
      if (0 : Int) ≤ y2_0 then
        if y2_0 ≤ (((n3 - 1) : Nat) : Int) then
          ((instr_join (L0) ((n1 + 1)) (((y2_0).toNat - 0)) (((n3 - 1) - 0)) N).bind fun r => match r with
          | .r0 y5_0 =>
            ((instr_shape_width (v7) N).bind fun r => match r with
            | .r0 y6_0 =>
              if (0 : Int) ≤ y6_0 then
                if y6_0 ≤ (((n2 - 1) : Nat) : Int) then
                  if (((n2 - 1) : Nat) : Int) ≤ (((n3 - 1) : Nat) : Int) then
                    some (.inl (.h1m1 (((y6_0).toNat + (n1 + 1))) (((n2 - 1) - (y6_0).toNat)) (((n3 - 1) - (y6_0).toNat)) (v7) (v8) (v9) (y5_0) : instr_DecodeX))
                  else
                  none
                else
                none
              else
              none
            )
          )
        else
        none
      else
      none
    )
  )

def instr_Decode_h1m1 (L0 : List Int) (n1 : Nat) (n2 : Nat) (n3 : Nat) (N : Nat) (v4 : Nat) (v5 : Nat) (v6 : Nat) (v7 : Int) (v8 : Int) (v9 : Int) (v14 : Int) : Option (instr_DecodeX ⊕ instr_DecodeR) :=
  ((instr_shape_width (v8) N).bind fun r => match r with
  | .r0 y0_0 =>
    if ((v5 : Nat) : Int) < y0_0 then
      some (.inr (.r0 ((6 : Int)) : instr_DecodeR))
    else
    ((instr_shape_width (v8) N).bind fun r => match r with
    | .r0 y2_0 =>
      if (0 : Int) ≤ y2_0 then
        if y2_0 ≤ ((v6 : Nat) : Int) then
          ((instr_join (L0) (v4) (((y2_0).toNat - 0)) ((v6 - 0)) N).bind fun r => match r with
          | .r0 y5_0 =>
            ((instr_shape_width (v8) N).bind fun r => match r with
            | .r0 y6_0 =>
              if (0 : Int) ≤ y6_0 then
                if y6_0 ≤ ((v5 : Nat) : Int) then
                  if ((v5 : Nat) : Int) ≤ ((v6 : Nat) : Int) then
                    some (.inl (.h1m2 (((y6_0).toNat + v4)) ((v5 - (y6_0).toNat)) ((v6 - (y6_0).toNat)) (v7) (v8) (v9) (v14) (y5_0) : instr_DecodeX))
                  else
                  none
                else
                none
              else
              none
            )
          )
        else
        none
      else
      none
    )
  )

def instr_Decode_h1m2 (L0 : List Int) (n1 : Nat) (n2 : Nat) (n3 : Nat) (N : Nat) (v4 : Nat) (v5 : Nat) (v6 : Nat) (v7 : Int) (v8 : Int) (v9 : Int) (v14 : Int) (v15 : Int) : Option (instr_DecodeX ⊕ instr_DecodeR) :=
  ((instr_shape_width (v9) N).bind fun r => match r with
  | .r0 y0_0 =>
    if ((v5 : Nat) : Int) < y0_0 then
      some (.inr (.r0 ((6 : Int)) : instr_DecodeR))
    else
    ((instr_shape_width (v9) N).bind fun r => match r with
    | .r0 y2_0 =>
      if (0 : Int) ≤ y2_0 then
        if y2_0 ≤ ((v6 : Nat) : Int) then
          ((instr_join (L0) (v4) (((y2_0).toNat - 0)) ((v6 - 0)) N).bind fun r => match r with
          | .r0 y5_0 =>
            ((instr_shape_width (v9) N).bind fun r => match r with
            | .r0 y6_0 =>
              if (0 : Int) ≤ y6_0 then
                if y6_0 ≤ ((v5 : Nat) : Int) then
                  if ((v5 : Nat) : Int) ≤ ((v6 : Nat) : Int) then
                    some (.inl (.h1m3 (((y6_0).toNat + v4)) ((v5 - (y6_0).toNat)) ((v6 - (y6_0).toNat)) (v7) (v8) (v9) (v14) (v15) (y5_0) : instr_DecodeX))
                  else
                  none
                else
                none
              else
              none
            )
          )
        else
        none
      else
      none
    )
  )

def instr_Decode_h1m3 (L0 : List Int) (n1 : Nat) (n2 : Nat) (n3 : Nat) (N : Nat) (v4 : Nat) (v5 : Nat) (v6 : Nat) (v7 : Int) (v8 : Int) (v9 : Int) (v14 : Int) (v15 : Int) (v16 : Int) : Option (instr_DecodeX ⊕ instr_DecodeR) :=
  if 0 < n2 then
    if n1 < L0.length then
      if (-9223372036854775808 : Int) ≤ (L0.getD n1 0) then
        if (L0.getD n1 0) ≤ (9223372036854775807 : Int) then
          ((instr_Check ((L0.getD n1 0)) (v14) (v15) (v16) N).bind fun r => match r with
          | .r0 y4_0 =>
            if ¬ (y4_0 = (0 : Int)) then
              some (.inr (.r0 (y4_0) : instr_DecodeR))
            else
            if v5 = 0 then
              some (.inr (.r1 (v14) (v15) (v16) (([] : List Int)) : instr_DecodeR))
            else
            if v5 ≤ 100000 then
              if (v4 + v5) ≤ L0.length then
                some (.inr (.r1 (v14) (v15) (v16) (((L0.drop v4).take v5)) : instr_DecodeR))
              else
              none
            else
            none
          )
        else
        none
      else
      none
    else
    none
  else
  none

def instr_DecodeStep (L0 : List Int) (n1 : Nat) (n2 : Nat) (n3 : Nat) (N : Nat) : instr_DecodeX → Option (instr_DecodeX ⊕ instr_DecodeR)
  | .h1m0 v7 v8 v9 => instr_Decode_h1m0 L0 n1 n2 n3 N v7 v8 v9
  | .h1m1 v4 v5 v6 v7 v8 v9 v14 => instr_Decode_h1m1 L0 n1 n2 n3 N v4 v5 v6 v7 v8 v9 v14
  | .h1m2 v4 v5 v6 v7 v8 v9 v14 v15 => instr_Decode_h1m2 L0 n1 n2 n3 N v4 v5 v6 v7 v8 v9 v14 v15
  | .h1m3 v4 v5 v6 v7 v8 v9 v14 v15 v16 => instr_Decode_h1m3 L0 n1 n2 n3 N v4 v5 v6 v7 v8 v9 v14 v15 v16

def instr_DecodeIn (L0 : List Int) (n1 : Nat) (n2 : Nat) (n3 : Nat) (N : Nat) : Option (instr_DecodeX ⊕ instr_DecodeR) :=
  if ((n2 : Nat) : Int) = (0 : Int) then
    some (.inr (.r0 ((6 : Int)) : instr_DecodeR))
  else
  if n1 < L0.length then
    if (-9223372036854775808 : Int) ≤ (L0.getD n1 0) then
      if (L0.getD n1 0) ≤ (9223372036854775807 : Int) then
        ((instr_kind_2 ((L0.getD n1 0)) N).bind fun r => match r with
        | .r0 y4_0 y4_1 y4_2 y4_3 =>
          if (strB y4_0 ([] : List Int)) = true then
            some (.inr (.r0 ((100 : Int)) : instr_DecodeR))
          else
          if ((n2 : Nat) : Int) ≤ ((n3 : Nat) : Int) then
            some (.inl (.h1m0 (y4_1) (y4_2) (y4_3) : instr_DecodeX))
          else
          none
        )
      else
      none
    else
    none
  else
  none

def instr_Decode (L0 : List Int) (n1 : Nat) (n2 : Nat) (n3 : Nat) (N : Nat) : Option instr_DecodeR := goM (instr_DecodeStep L0 n1 n2 n3 N) N (instr_DecodeIn L0 n1 n2 n3 N)

/-- gantlet/instr.Decode -/
inductive instr_Decode_2R where
  | r0

def instr_Decode_2  (N : Nat) : Option instr_Decode_2R :=
  some (.r0 : instr_Decode_2R)

/-- gantlet/instr.Decode -/
inductive instr_Decode_3R where
  | r0 (w5 : Int)
  | r1 (w2 : Int) (w3 : Int) (w4 : Int) (w5 : List Int)

inductive instr_Decode_3X where
  | h1m0 (v6 : Int) (v7 : Int) (v8 : Int)
  | h1m1 (v3 : Nat) (v4 : Nat) (v5 : Nat) (v6 : Int) (v7 : Int) (v8 : Int) (v13 : Int)
  | h1m2 (v3 : Nat) (v4 : Nat) (v5 : Nat) (v6 : Int) (v7 : Int) (v8 : Int) (v13 : Int) (v14 : Int)
  | h1m3 (v3 : Nat) (v4 : Nat) (v5 : Nat) (v6 : Int) (v7 : Int) (v8 : Int) (v13 : Int) (v14 : Int) (v15 : Int)

def instr_Decode_3_h1m0 (L0 : List Int) (n1 : Nat) (n2 : Nat) (N : Nat) (v6 : Int) (v7 : Int) (v8 : Int) : Option (instr_Decode_3X ⊕ instr_Decode_3R) :=
  ((instr_shape_width (v6) N).bind fun r => match r with
  | .r0 y0_0 =>
    if (((n1 - 1) : Nat) : Int) < y0_0 then
      some (.inr (.r0 ((6 : Int)) : instr_Decode_3R))
    else
    ((instr_shape_width (v6) N).bind fun r => match r with
    | .r0 y2_0 =>
      if (0 : Int) ≤ y2_0 then
        if y2_0 ≤ (((n2 - 1) : Nat) : Int) then
          ((instr_join (L0) (1) (((y2_0).toNat - 0)) (((n2 - 1) - 0)) N).bind fun r => match r with
          | .r0 y5_0 =>
            ((instr_shape_width (v6) N).bind fun r => match r with
            | .r0 y6_0 =>
              if (0 : Int) ≤ y6_0 then
                if y6_0 ≤ (((n1 - 1) : Nat) : Int) then
                  if (((n1 - 1) : Nat) : Int) ≤ (((n2 - 1) : Nat) : Int) then
                    some (.inl (.h1m1 (((y6_0).toNat + 1)) (((n1 - 1) - (y6_0).toNat)) (((n2 - 1) - (y6_0).toNat)) (v6) (v7) (v8) (y5_0) : instr_Decode_3X))
                  else
                  none
                else
                none
              else
              none
            )
          )
        else
        none
      else
      none
    )
  )

def instr_Decode_3_h1m1 (L0 : List Int) (n1 : Nat) (n2 : Nat) (N : Nat) (v3 : Nat) (v4 : Nat) (v5 : Nat) (v6 : Int) (v7 : Int) (v8 : Int) (v13 : Int) : Option (instr_Decode_3X ⊕ instr_Decode_3R) :=
  ((instr_shape_width (v7) N).bind fun r => match r with
  | .r0 y0_0 =>
    if ((v4 : Nat) : Int) < y0_0 then
      some (.inr (.r0 ((6 : Int)) : instr_Decode_3R))
    else
    ((instr_shape_width (v7) N).bind fun r => match r with
    | .r0 y2_0 =>
      if (0 : Int) ≤ y2_0 then
        if y2_0 ≤ ((v5 : Nat) : Int) then
          ((instr_join (L0) (v3) (((y2_0).toNat - 0)) ((v5 - 0)) N).bind fun r => match r with
          | .r0 y5_0 =>
            ((instr_shape_width (v7) N).bind fun r => match r with
            | .r0 y6_0 =>
              if (0 : Int) ≤ y6_0 then
                if y6_0 ≤ ((v4 : Nat) : Int) then
                  if ((v4 : Nat) : Int) ≤ ((v5 : Nat) : Int) then
                    some (.inl (.h1m2 (((y6_0).toNat + v3)) ((v4 - (y6_0).toNat)) ((v5 - (y6_0).toNat)) (v6) (v7) (v8) (v13) (y5_0) : instr_Decode_3X))
                  else
                  none
                else
                none
              else
              none
            )
          )
        else
        none
      else
      none
    )
  )

def instr_Decode_3_h1m2 (L0 : List Int) (n1 : Nat) (n2 : Nat) (N : Nat) (v3 : Nat) (v4 : Nat) (v5 : Nat) (v6 : Int) (v7 : Int) (v8 : Int) (v13 : Int) (v14 : Int) : Option (instr_Decode_3X ⊕ instr_Decode_3R) :=
  ((instr_shape_width (v8) N).bind fun r => match r with
  | .r0 y0_0 =>
    if ((v4 : Nat) : Int) < y0_0 then
      some (.inr (.r0 ((6 : Int)) : instr_Decode_3R))
    else
    ((instr_shape_width (v8) N).bind fun r => match r with
    | .r0 y2_0 =>
      if (0 : Int) ≤ y2_0 then
        if y2_0 ≤ ((v5 : Nat) : Int) then
          ((instr_join (L0) (v3) (((y2_0).toNat - 0)) ((v5 - 0)) N).bind fun r => match r with
          | .r0 y5_0 =>
            ((instr_shape_width (v8) N).bind fun r => match r with
            | .r0 y6_0 =>
              if (0 : Int) ≤ y6_0 then
                if y6_0 ≤ ((v4 : Nat) : Int) then
                  if ((v4 : Nat) : Int) ≤ ((v5 : Nat) : Int) then
                    some (.inl (.h1m3 (((y6_0).toNat + v3)) ((v4 - (y6_0).toNat)) ((v5 - (y6_0).toNat)) (v6) (v7) (v8) (v13) (v14) (y5_0) : instr_Decode_3X))
                  else
                  none
                else
                none
              else
              none
            )
          )
        else
        none
      else
      none
    )
  )

def instr_Decode_3_h1m3 (L0 : List Int) (n1 : Nat) (n2 : Nat) (N : Nat) (v3 : Nat) (v4 : Nat) (v5 : Nat) (v6 : Int) (v7 : Int) (v8 : Int) (v13 : Int) (v14 : Int) (v15 : Int) : Option (instr_Decode_3X ⊕ instr_Decode_3R) :=
  if 0 < n1 then
    if 0 < L0.length then
      if (-9223372036854775808 : Int) ≤ (L0.getD 0 0) then
        if (L0.getD 0 0) ≤ (9223372036854775807 : Int) then
          ((instr_Check ((L0.getD 0 0)) (v13) (v14) (v15) N).bind fun r => match r with
          | .r0 y4_0 =>
            if ¬ (y4_0 = (0 : Int)) then
              some (.inr (.r0 (y4_0) : instr_Decode_3R))
            else
            if v4 = 0 then
              some (.inr (.r1 (v13) (v14) (v15) (([] : List Int)) : instr_Decode_3R))
            else
            if v4 ≤ 100000 then
              if (v3 + v4) ≤ L0.length then
                some (.inr (.r1 (v13) (v14) (v15) (((L0.drop v3).take v4)) : instr_Decode_3R))
              else
              none
            else
            none
          )
        else
        none
      else
      none
    else
    none
  else
  none

def instr_Decode_3Step (L0 : List Int) (n1 : Nat) (n2 : Nat) (N : Nat) : instr_Decode_3X → Option (instr_Decode_3X ⊕ instr_Decode_3R)
  | .h1m0 v6 v7 v8 => instr_Decode_3_h1m0 L0 n1 n2 N v6 v7 v8
  | .h1m1 v3 v4 v5 v6 v7 v8 v13 => instr_Decode_3_h1m1 L0 n1 n2 N v3 v4 v5 v6 v7 v8 v13
  | .h1m2 v3 v4 v5 v6 v7 v8 v13 v14 => instr_Decode_3_h1m2 L0 n1 n2 N v3 v4 v5 v6 v7 v8 v13 v14
  | .h1m3 v3 v4 v5 v6 v7 v8 v13 v14 v15 => instr_Decode_3_h1m3 L0 n1 n2 N v3 v4 v5 v6 v7 v8 v13 v14 v15

def instr_Decode_3In (L0 : List Int) (n1 : Nat) (n2 : Nat) (N : Nat) : Option (instr_Decode_3X ⊕ instr_Decode_3R) :=
  if ((n1 : Nat) : Int) = (0 : Int) then
    some (.inr (.r0 ((6 : Int)) : instr_Decode_3R))
  else
  if 0 < L0.length then
    if (-9223372036854775808 : Int) ≤ (L0.getD 0 0) then
      if (L0.getD 0 0) ≤ (9223372036854775807 : Int) then
        ((instr_kind_2 ((L0.getD 0 0)) N).bind fun r => match r with
        | .r0 y4_0 y4_1 y4_2 y4_3 =>
          if (strB y4_0 ([] : List Int)) = true then
            some (.inr (.r0 ((100 : Int)) : instr_Decode_3R))
          else
          if ((n1 : Nat) : Int) ≤ ((n2 : Nat) : Int) then
            some (.inl (.h1m0 (y4_1) (y4_2) (y4_3) : instr_Decode_3X))
          else
          none
        )
      else
      none
    else
    none
  else
  none

def instr_Decode_3 (L0 : List Int) (n1 : Nat) (n2 : Nat) (N : Nat) : Option instr_Decode_3R := goM (instr_Decode_3Step L0 n1 n2 N) N (instr_Decode_3In L0 n1 n2 N)

/-- gantlet/prog.Decode -/
inductive prog_Decode_2R where
  | r0 (w1 : Int)
  | r1 (w1 : List R_iiii)

inductive prog_Decode_2X where
  | h1m0
  | h1m1 (v1 : List R_iiii) (v3 : Nat)
  | h1m2 (v1 : List Int) (v2 : List R_iiii) (v4 : Nat)

def prog_Decode_2_h1m0 (L0 : List Int) (n1 : Nat) (n2 : Nat) (N : Nat) : Option (prog_Decode_2X ⊕ prog_Decode_2R) :=
  if (0 : Int) < (IntKind.i64.wrap (((BitVec.ofInt IntKind.i64.bits (IntKind.i64.wrap ((L0.getD 4 0) * (2 ^ 8 : Int))) ||| BitVec.ofInt IntKind.i64.bits (L0.getD 5 0)).toNat : Nat) : Int)) then
    ((instr_Decode (L0) (6) (((n1 - 1) - 6)) ((n2 - 6)) N).bind fun r => match r with
    | .r0 y1_0 =>
      if ¬ (y1_0 = (0 : Int)) then
        some (.inr (.r0 ((110 : Int)) : prog_Decode_2R))
      else
      some (.inl (.h1m1 (([(⟨(0 : Int), (0 : Int), (0 : Int), (0 : Int)⟩ : R_iiii)] : List R_iiii)) (1) : prog_Decode_2X))
    | .r1 y1_0 y1_1 y1_2 y1_3 =>
      some (.inl (.h1m2 (y1_3) (([(⟨(L0.getD 6 0), y1_0, y1_1, y1_2⟩ : R_iiii)] : List R_iiii)) (1) : prog_Decode_2X))
    )
  else
  if (0 : Int) < ((((n1 - 1) - 6) : Nat) : Int) then
    some (.inr (.r0 ((110 : Int)) : prog_Decode_2R))
  else
  some (.inr (.r0 ((0 : Int)) : prog_Decode_2R))

def prog_Decode_2_h1m1 (L0 : List Int) (n1 : Nat) (n2 : Nat) (N : Nat) (v1 : List R_iiii) (v3 : Nat) : Option (prog_Decode_2X ⊕ prog_Decode_2R) :=
  if ((v3 : Nat) : Int) < (IntKind.i64.wrap (((BitVec.ofInt IntKind.i64.bits (IntKind.i64.wrap ((L0.getD 4 0) * (2 ^ 8 : Int))) ||| BitVec.ofInt IntKind.i64.bits (L0.getD 5 0)).toNat : Nat) : Int)) then
    ((instr_Decode_2 N).bind fun r => match r with
    | .r0 =>
      some (.inr (.r0 ((110 : Int)) : prog_Decode_2R))
    )
  else
  some (.inr (.r1 (v1) : prog_Decode_2R))

def prog_Decode_2_h1m2 (L0 : List Int) (n1 : Nat) (n2 : Nat) (N : Nat) (v1 : List Int) (v2 : List R_iiii) (v4 : Nat) : Option (prog_Decode_2X ⊕ prog_Decode_2R) :=
  if ((v4 : Nat) : Int) < (IntKind.i64.wrap (((BitVec.ofInt IntKind.i64.bits (IntKind.i64.wrap ((L0.getD 4 0) * (2 ^ 8 : Int))) ||| BitVec.ofInt IntKind.i64.bits (L0.getD 5 0)).toNat : Nat) : Int)) then
    ((instr_Decode_3 (v1) (v1.length) (v1.length) N).bind fun r => match r with
    | .r0 y1_0 =>
      if ¬ (y1_0 = (0 : Int)) then
        some (.inr (.r0 ((110 : Int)) : prog_Decode_2R))
      else
      if v2.length ≤ 100000 then
        some (.inl (.h1m1 ((v2 ++ ([(⟨(0 : Int), (0 : Int), (0 : Int), (0 : Int)⟩ : R_iiii)] : List R_iiii))) ((v4 + 1)) : prog_Decode_2X))
      else
      none
    | .r1 y1_0 y1_1 y1_2 y1_3 =>
      if v2.length ≤ 100000 then
        some (.inl (.h1m2 (y1_3) ((v2 ++ ([(⟨(v1.getD 0 0), y1_0, y1_1, y1_2⟩ : R_iiii)] : List R_iiii))) ((v4 + 1)) : prog_Decode_2X))
      else
      none
    )
  else
  if (0 : Int) < ((v1.length : Nat) : Int) then
    some (.inr (.r0 ((110 : Int)) : prog_Decode_2R))
  else
  some (.inr (.r1 (v2) : prog_Decode_2R))

def prog_Decode_2Step (L0 : List Int) (n1 : Nat) (n2 : Nat) (N : Nat) : prog_Decode_2X → Option (prog_Decode_2X ⊕ prog_Decode_2R)
  | .h1m0 => prog_Decode_2_h1m0 L0 n1 n2 N
  | .h1m1 v1 v3 => prog_Decode_2_h1m1 L0 n1 n2 N v1 v3
  | .h1m2 v1 v2 v4 => prog_Decode_2_h1m2 L0 n1 n2 N v1 v2 v4

def prog_Decode_2In (L0 : List Int) (n1 : Nat) (n2 : Nat) (N : Nat) : Option (prog_Decode_2X ⊕ prog_Decode_2R) :=
  if ((n1 : Nat) : Int) < (7 : Int) then
    some (.inr (.r0 ((6 : Int)) : prog_Decode_2R))
  else
  if 4 < L0.length then
    if (-9223372036854775808 : Int) ≤ (L0.getD 4 0) then
      if (L0.getD 4 0) ≤ (9223372036854775807 : Int) then
        if 5 < L0.length then
          if (-9223372036854775808 : Int) ≤ (L0.getD 5 0) then
            if (L0.getD 5 0) ≤ (9223372036854775807 : Int) then
              if (((n1 : Nat) : Int) - (1 : Int)) ≤ (9223372036854775807 : Int) then
                if (((n1 - 1) : Nat) : Int) ≤ ((n2 : Nat) : Int) then
                  if (n1 - 1) < L0.length then
                    if (strB (L0.take (4 - 0)) ([(71 : Int), (78 : Int), (84 : Int), (1 : Int)] : List Int)) = true then
                      if (512 : Int) < (IntKind.i64.wrap (((BitVec.ofInt IntKind.i64.bits (IntKind.i64.wrap ((L0.getD 4 0) * (2 ^ 8 : Int))) ||| BitVec.ofInt IntKind.i64.bits (L0.getD 5 0)).toNat : Nat) : Int)) then
                        some (.inr (.r0 ((110 : Int)) : prog_Decode_2R))
                      else
                      if (IntKind.i64.wrap ((IntKind.i64.wrap (((BitVec.ofInt IntKind.i64.bits (IntKind.i64.wrap ((L0.getD 4 0) * (2 ^ 8 : Int))) ||| BitVec.ofInt IntKind.i64.bits (L0.getD 5 0)).toNat : Nat) : Int)) * (10 : Int))) < ((((n1 - 1) - 6) : Nat) : Int) then
                        some (.inr (.r0 ((110 : Int)) : prog_Decode_2R))
                      else
                      ((prog_sum (L0) (((n1 - 1) - 0)) ((n2 - 0)) N).bind fun r => match r with
                      | .r0 y13_0 =>
                        if ¬ (y13_0 = (L0.getD (n1 - 1) 0)) then
                          some (.inr (.r0 ((110 : Int)) : prog_Decode_2R))
                        else
                        some (.inl (.h1m0 : prog_Decode_2X))
                      )
                    else
                    some (.inr (.r0 ((110 : Int)) : prog_Decode_2R))
                  else
                  none
                else
                none
              else
              none
            else
            none
          else
          none
        else
        none
      else
      none
    else
    none
  else
  none

def prog_Decode_2 (L0 : List Int) (n1 : Nat) (n2 : Nat) (N : Nat) : Option prog_Decode_2R := goM (prog_Decode_2Step L0 n1 n2 N) N (prog_Decode_2In L0 n1 n2 N)

/-- gantlet/gantletref11.Same -/
inductive ref11_SameR where
  | r0 (w2 : Bool)

inductive ref11_SameX where
  | h1m0

def ref11_Same_h1m0 (L1 : List R_iiii) (n2 : Nat) (n3 : Nat) (N : Nat) : Option (ref11_SameX ⊕ ref11_SameR) :=
  if (0 : Int) < ((n2 : Nat) : Int) then
    none
  else
  some (.inr (.r0 (true) : ref11_SameR))

def ref11_SameStep (L1 : List R_iiii) (n2 : Nat) (n3 : Nat) (N : Nat) : ref11_SameX → Option (ref11_SameX ⊕ ref11_SameR)
  | .h1m0 => ref11_Same_h1m0 L1 n2 n3 N

def ref11_SameIn (L1 : List R_iiii) (n2 : Nat) (n3 : Nat) (N : Nat) : Option (ref11_SameX ⊕ ref11_SameR) :=
  if ¬ (((n2 : Nat) : Int) = (0 : Int)) then
    some (.inr (.r0 (false) : ref11_SameR))
  else
  some (.inl (.h1m0 : ref11_SameX))

def ref11_Same (L1 : List R_iiii) (n2 : Nat) (n3 : Nat) (N : Nat) : Option ref11_SameR := goM (ref11_SameStep L1 n2 n3 N) N (ref11_SameIn L1 n2 n3 N)

/-- gantlet/gantletref11.Same -/
inductive ref11_Same_2R where
  | r0 (w3 : Bool)

inductive ref11_Same_2X where
  | h1m0 (v5 : Nat)

def ref11_Same_2_h1m0 (L1 : List R_iiii) (n2 : Nat) (n3 : Nat) (L4 : List R_iiii) (N : Nat) (v5 : Nat) : Option (ref11_Same_2X ⊕ ref11_Same_2R) :=
  if ((v5 : Nat) : Int) < ((n2 : Nat) : Int) then
    if v5 < L1.length then
      if v5 < L4.length then
        if ¬ (((L1.getD v5 R_iiii.z).a0 = (L4.getD v5 R_iiii.z).a0 ∧ (L1.getD v5 R_iiii.z).a1 = (L4.getD v5 R_iiii.z).a1 ∧ (L1.getD v5 R_iiii.z).a2 = (L4.getD v5 R_iiii.z).a2 ∧ (L1.getD v5 R_iiii.z).a3 = (L4.getD v5 R_iiii.z).a3)) then
          some (.inr (.r0 (false) : ref11_Same_2R))
        else
        if (((v5 + 1) : Nat) : Int) ≤ (9223372036854775807 : Int) then
          some (.inl (.h1m0 ((v5 + 1)) : ref11_Same_2X))
        else
        none
      else
      none
    else
    none
  else
  some (.inr (.r0 (true) : ref11_Same_2R))

def ref11_Same_2Step (L1 : List R_iiii) (n2 : Nat) (n3 : Nat) (L4 : List R_iiii) (N : Nat) : ref11_Same_2X → Option (ref11_Same_2X ⊕ ref11_Same_2R)
  | .h1m0 v5 => ref11_Same_2_h1m0 L1 n2 n3 L4 N v5

def ref11_Same_2In (L1 : List R_iiii) (n2 : Nat) (n3 : Nat) (L4 : List R_iiii) (N : Nat) : Option (ref11_Same_2X ⊕ ref11_Same_2R) :=
  if ¬ (((n2 : Nat) : Int) = ((L4.length : Nat) : Int)) then
    some (.inr (.r0 (false) : ref11_Same_2R))
  else
  some (.inl (.h1m0 (0) : ref11_Same_2X))

def ref11_Same_2 (L1 : List R_iiii) (n2 : Nat) (n3 : Nat) (L4 : List R_iiii) (N : Nat) : Option ref11_Same_2R := goM (ref11_Same_2Step L1 n2 n3 L4 N) N (ref11_Same_2In L1 n2 n3 L4 N)

/-- gantlet/prog.sum -/
inductive prog_sum_2R where
  | r0 (w2 : Int)

inductive prog_sum_2X where
  | h1m0 (v5 : Nat) (v6 : Int)

def prog_sum_2_h1m0 (L1 : List Int) (n2 : Nat) (n3 : Nat) (N : Nat) (v5 : Nat) (v6 : Int) : Option (prog_sum_2X ⊕ prog_sum_2R) :=
  if ((v5 : Nat) : Int) < ((n2 : Nat) : Int) then
    if v5 < L1.length then
      if (((v5 + 1) : Nat) : Int) ≤ (9223372036854775807 : Int) then
        some (.inl (.h1m0 ((v5 + 1)) ((IntKind.u8.wrap (v6 + (L1.getD v5 0)))) : prog_sum_2X))
      else
      none
    else
    none
  else
  some (.inr (.r0 (v6) : prog_sum_2R))

def prog_sum_2Step (L1 : List Int) (n2 : Nat) (n3 : Nat) (N : Nat) : prog_sum_2X → Option (prog_sum_2X ⊕ prog_sum_2R)
  | .h1m0 v5 v6 => prog_sum_2_h1m0 L1 n2 n3 N v5 v6

def prog_sum_2In (L1 : List Int) (n2 : Nat) (n3 : Nat) (N : Nat) : Option (prog_sum_2X ⊕ prog_sum_2R) :=
  some (.inl (.h1m0 (0) ((0 : Int)) : prog_sum_2X))

def prog_sum_2 (L1 : List Int) (n2 : Nat) (n3 : Nat) (N : Nat) : Option prog_sum_2R := goM (prog_sum_2Step L1 n2 n3 N) N (prog_sum_2In L1 n2 n3 N)

/-- gantlet/instr.join -/
inductive instr_join_2R where
  | r0 (w2 : Int)

inductive instr_join_2X where
  | h1m0 (v2 : Int) (v7 : Nat)

def instr_join_2_h1m0 (L1 : List Int) (n2 : Nat) (n3 : Nat) (n4 : Nat) (N : Nat) (v2 : Int) (v7 : Nat) : Option (instr_join_2X ⊕ instr_join_2R) :=
  if ((v7 : Nat) : Int) < ((n3 : Nat) : Int) then
    if (v7 + n2) < L1.length then
      if (0 : Int) ≤ (L1.getD (v7 + n2) 0) then
        if (L1.getD (v7 + n2) 0) ≤ (18446744073709551615 : Int) then
          if (((v7 + 1) : Nat) : Int) ≤ (9223372036854775807 : Int) then
            some (.inl (.h1m0 ((IntKind.u64.wrap (((BitVec.ofInt IntKind.u64.bits (IntKind.u64.wrap (v2 * (2 ^ 8 : Int))) ||| BitVec.ofInt IntKind.u64.bits (L1.getD (v7 + n2) 0)).toNat : Nat) : Int))) ((v7 + 1)) : instr_join_2X))
          else
          none
        else
        none
      else
      none
    else
    none
  else
  some (.inr (.r0 ((IntKind.i64.wrap v2)) : instr_join_2R))

def instr_join_2Step (L1 : List Int) (n2 : Nat) (n3 : Nat) (n4 : Nat) (N : Nat) : instr_join_2X → Option (instr_join_2X ⊕ instr_join_2R)
  | .h1m0 v2 v7 => instr_join_2_h1m0 L1 n2 n3 n4 N v2 v7

def instr_join_2In (L1 : List Int) (n2 : Nat) (n3 : Nat) (n4 : Nat) (N : Nat) : Option (instr_join_2X ⊕ instr_join_2R) :=
  some (.inl (.h1m0 ((0 : Int)) (0) : instr_join_2X))

def instr_join_2 (L1 : List Int) (n2 : Nat) (n3 : Nat) (n4 : Nat) (N : Nat) : Option instr_join_2R := goM (instr_join_2Step L1 n2 n3 n4 N) N (instr_join_2In L1 n2 n3 n4 N)

/-- gantlet/instr.Decode -/
inductive instr_Decode_4R where
  | r0 (w6 : Int)
  | r1 (w3 : Int) (w4 : Int) (w5 : Int) (w6 : List Int)

inductive instr_Decode_4X where
  | h1m0 (v8 : Int) (v9 : Int) (v10 : Int)
  | h1m1 (v5 : Nat) (v6 : Nat) (v7 : Nat) (v8 : Int) (v9 : Int) (v10 : Int) (v15 : Int)
  | h1m2 (v5 : Nat) (v6 : Nat) (v7 : Nat) (v8 : Int) (v9 : Int) (v10 : Int) (v15 : Int) (v16 : Int)
  | h1m3 (v5 : Nat) (v6 : Nat) (v7 : Nat) (v8 : Int) (v9 : Int) (v10 : Int) (v15 : Int) (v16 : Int) (v17 : Int)

def instr_Decode_4_h1m0 (L1 : List Int) (n2 : Nat) (n3 : Nat) (n4 : Nat) (N : Nat) (v8 : Int) (v9 : Int) (v10 : Int) : Option (instr_Decode_4X ⊕ instr_Decode_4R) :=
  ((instr_shape_width (v8) N).bind fun r => match r with
  | .r0 y0_0 =>
    if (((n3 - 1) : Nat) : Int) < y0_0 then
      some (.inr (.r0 ((6 : Int)) : instr_Decode_4R))
    else
    ((instr_shape_width (v8) N).bind fun r => match r with
    | .r0 y2_0 =>
      if (0 : Int) ≤ y2_0 then
        if y2_0 ≤ (((n4 - 1) : Nat) : Int) then
          ((instr_join_2 (L1) ((n2 + 1)) (((y2_0).toNat - 0)) (((n4 - 1) - 0)) N).bind fun r => match r with
          | .r0 y5_0 =>
            ((instr_shape_width (v8) N).bind fun r => match r with
            | .r0 y6_0 =>
              if (0 : Int) ≤ y6_0 then
                if y6_0 ≤ (((n3 - 1) : Nat) : Int) then
                  if (((n3 - 1) : Nat) : Int) ≤ (((n4 - 1) : Nat) : Int) then
                    some (.inl (.h1m1 (((y6_0).toNat + (n2 + 1))) (((n3 - 1) - (y6_0).toNat)) (((n4 - 1) - (y6_0).toNat)) (v8) (v9) (v10) (y5_0) : instr_Decode_4X))
                  else
                  none
                else
                none
              else
              none
            )
          )
        else
        none
      else
      none
    )
  )

def instr_Decode_4_h1m1 (L1 : List Int) (n2 : Nat) (n3 : Nat) (n4 : Nat) (N : Nat) (v5 : Nat) (v6 : Nat) (v7 : Nat) (v8 : Int) (v9 : Int) (v10 : Int) (v15 : Int) : Option (instr_Decode_4X ⊕ instr_Decode_4R) :=
  ((instr_shape_width (v9) N).bind fun r => match r with
  | .r0 y0_0 =>
    if ((v6 : Nat) : Int) < y0_0 then
      some (.inr (.r0 ((6 : Int)) : instr_Decode_4R))
    else
    ((instr_shape_width (v9) N).bind fun r => match r with
    | .r0 y2_0 =>
      if (0 : Int) ≤ y2_0 then
        if y2_0 ≤ ((v7 : Nat) : Int) then
          ((instr_join_2 (L1) (v5) (((y2_0).toNat - 0)) ((v7 - 0)) N).bind fun r => match r with
          | .r0 y5_0 =>
            ((instr_shape_width (v9) N).bind fun r => match r with
            | .r0 y6_0 =>
              if (0 : Int) ≤ y6_0 then
                if y6_0 ≤ ((v6 : Nat) : Int) then
                  if ((v6 : Nat) : Int) ≤ ((v7 : Nat) : Int) then
                    some (.inl (.h1m2 (((y6_0).toNat + v5)) ((v6 - (y6_0).toNat)) ((v7 - (y6_0).toNat)) (v8) (v9) (v10) (v15) (y5_0) : instr_Decode_4X))
                  else
                  none
                else
                none
              else
              none
            )
          )
        else
        none
      else
      none
    )
  )

def instr_Decode_4_h1m2 (L1 : List Int) (n2 : Nat) (n3 : Nat) (n4 : Nat) (N : Nat) (v5 : Nat) (v6 : Nat) (v7 : Nat) (v8 : Int) (v9 : Int) (v10 : Int) (v15 : Int) (v16 : Int) : Option (instr_Decode_4X ⊕ instr_Decode_4R) :=
  ((instr_shape_width (v10) N).bind fun r => match r with
  | .r0 y0_0 =>
    if ((v6 : Nat) : Int) < y0_0 then
      some (.inr (.r0 ((6 : Int)) : instr_Decode_4R))
    else
    ((instr_shape_width (v10) N).bind fun r => match r with
    | .r0 y2_0 =>
      if (0 : Int) ≤ y2_0 then
        if y2_0 ≤ ((v7 : Nat) : Int) then
          ((instr_join_2 (L1) (v5) (((y2_0).toNat - 0)) ((v7 - 0)) N).bind fun r => match r with
          | .r0 y5_0 =>
            ((instr_shape_width (v10) N).bind fun r => match r with
            | .r0 y6_0 =>
              if (0 : Int) ≤ y6_0 then
                if y6_0 ≤ ((v6 : Nat) : Int) then
                  if ((v6 : Nat) : Int) ≤ ((v7 : Nat) : Int) then
                    some (.inl (.h1m3 (((y6_0).toNat + v5)) ((v6 - (y6_0).toNat)) ((v7 - (y6_0).toNat)) (v8) (v9) (v10) (v15) (v16) (y5_0) : instr_Decode_4X))
                  else
                  none
                else
                none
              else
              none
            )
          )
        else
        none
      else
      none
    )
  )

def instr_Decode_4_h1m3 (L1 : List Int) (n2 : Nat) (n3 : Nat) (n4 : Nat) (N : Nat) (v5 : Nat) (v6 : Nat) (v7 : Nat) (v8 : Int) (v9 : Int) (v10 : Int) (v15 : Int) (v16 : Int) (v17 : Int) : Option (instr_Decode_4X ⊕ instr_Decode_4R) :=
  if 0 < n3 then
    if n2 < L1.length then
      if (-9223372036854775808 : Int) ≤ (L1.getD n2 0) then
        if (L1.getD n2 0) ≤ (9223372036854775807 : Int) then
          ((instr_Check ((L1.getD n2 0)) (v15) (v16) (v17) N).bind fun r => match r with
          | .r0 y4_0 =>
            if ¬ (y4_0 = (0 : Int)) then
              some (.inr (.r0 (y4_0) : instr_Decode_4R))
            else
            if v6 = 0 then
              some (.inr (.r1 (v15) (v16) (v17) (([] : List Int)) : instr_Decode_4R))
            else
            if v6 ≤ 100000 then
              if (v5 + v6) ≤ L1.length then
                some (.inr (.r1 (v15) (v16) (v17) (((L1.drop v5).take v6)) : instr_Decode_4R))
              else
              none
            else
            none
          )
        else
        none
      else
      none
    else
    none
  else
  none

def instr_Decode_4Step (L1 : List Int) (n2 : Nat) (n3 : Nat) (n4 : Nat) (N : Nat) : instr_Decode_4X → Option (instr_Decode_4X ⊕ instr_Decode_4R)
  | .h1m0 v8 v9 v10 => instr_Decode_4_h1m0 L1 n2 n3 n4 N v8 v9 v10
  | .h1m1 v5 v6 v7 v8 v9 v10 v15 => instr_Decode_4_h1m1 L1 n2 n3 n4 N v5 v6 v7 v8 v9 v10 v15
  | .h1m2 v5 v6 v7 v8 v9 v10 v15 v16 => instr_Decode_4_h1m2 L1 n2 n3 n4 N v5 v6 v7 v8 v9 v10 v15 v16
  | .h1m3 v5 v6 v7 v8 v9 v10 v15 v16 v17 => instr_Decode_4_h1m3 L1 n2 n3 n4 N v5 v6 v7 v8 v9 v10 v15 v16 v17

def instr_Decode_4In (L1 : List Int) (n2 : Nat) (n3 : Nat) (n4 : Nat) (N : Nat) : Option (instr_Decode_4X ⊕ instr_Decode_4R) :=
  if ((n3 : Nat) : Int) = (0 : Int) then
    some (.inr (.r0 ((6 : Int)) : instr_Decode_4R))
  else
  if n2 < L1.length then
    if (-9223372036854775808 : Int) ≤ (L1.getD n2 0) then
      if (L1.getD n2 0) ≤ (9223372036854775807 : Int) then
        ((instr_kind_2 ((L1.getD n2 0)) N).bind fun r => match r with
        | .r0 y4_0 y4_1 y4_2 y4_3 =>
          if (strB y4_0 ([] : List Int)) = true then
            some (.inr (.r0 ((100 : Int)) : instr_Decode_4R))
          else
          if ((n3 : Nat) : Int) ≤ ((n4 : Nat) : Int) then
            some (.inl (.h1m0 (y4_1) (y4_2) (y4_3) : instr_Decode_4X))
          else
          none
        )
      else
      none
    else
    none
  else
  none

def instr_Decode_4 (L1 : List Int) (n2 : Nat) (n3 : Nat) (n4 : Nat) (N : Nat) : Option instr_Decode_4R := goM (instr_Decode_4Step L1 n2 n3 n4 N) N (instr_Decode_4In L1 n2 n3 n4 N)

/-- gantlet/prog.Decode -/
inductive prog_Decode_3R where
  | r0 (w2 : Int)
  | r1 (w2 : List R_iiii)

inductive prog_Decode_3X where
  | h1m0
  | h1m1 (v2 : List R_iiii) (v4 : Nat)
  | h1m2 (v2 : List Int) (v3 : List R_iiii) (v5 : Nat)

def prog_Decode_3_h1m0 (L1 : List Int) (n2 : Nat) (n3 : Nat) (N : Nat) : Option (prog_Decode_3X ⊕ prog_Decode_3R) :=
  if (0 : Int) < (IntKind.i64.wrap (((BitVec.ofInt IntKind.i64.bits (IntKind.i64.wrap ((L1.getD 4 0) * (2 ^ 8 : Int))) ||| BitVec.ofInt IntKind.i64.bits (L1.getD 5 0)).toNat : Nat) : Int)) then
    ((instr_Decode_4 (L1) (6) (((n2 - 1) - 6)) ((n3 - 6)) N).bind fun r => match r with
    | .r0 y1_0 =>
      if ¬ (y1_0 = (0 : Int)) then
        some (.inr (.r0 ((110 : Int)) : prog_Decode_3R))
      else
      some (.inl (.h1m1 (([(⟨(0 : Int), (0 : Int), (0 : Int), (0 : Int)⟩ : R_iiii)] : List R_iiii)) (1) : prog_Decode_3X))
    | .r1 y1_0 y1_1 y1_2 y1_3 =>
      some (.inl (.h1m2 (y1_3) (([(⟨(L1.getD 6 0), y1_0, y1_1, y1_2⟩ : R_iiii)] : List R_iiii)) (1) : prog_Decode_3X))
    )
  else
  if (0 : Int) < ((((n2 - 1) - 6) : Nat) : Int) then
    some (.inr (.r0 ((110 : Int)) : prog_Decode_3R))
  else
  some (.inr (.r0 ((0 : Int)) : prog_Decode_3R))

def prog_Decode_3_h1m1 (L1 : List Int) (n2 : Nat) (n3 : Nat) (N : Nat) (v2 : List R_iiii) (v4 : Nat) : Option (prog_Decode_3X ⊕ prog_Decode_3R) :=
  if ((v4 : Nat) : Int) < (IntKind.i64.wrap (((BitVec.ofInt IntKind.i64.bits (IntKind.i64.wrap ((L1.getD 4 0) * (2 ^ 8 : Int))) ||| BitVec.ofInt IntKind.i64.bits (L1.getD 5 0)).toNat : Nat) : Int)) then
    ((instr_Decode_2 N).bind fun r => match r with
    | .r0 =>
      some (.inr (.r0 ((110 : Int)) : prog_Decode_3R))
    )
  else
  some (.inr (.r1 (v2) : prog_Decode_3R))

def prog_Decode_3_h1m2 (L1 : List Int) (n2 : Nat) (n3 : Nat) (N : Nat) (v2 : List Int) (v3 : List R_iiii) (v5 : Nat) : Option (prog_Decode_3X ⊕ prog_Decode_3R) :=
  if ((v5 : Nat) : Int) < (IntKind.i64.wrap (((BitVec.ofInt IntKind.i64.bits (IntKind.i64.wrap ((L1.getD 4 0) * (2 ^ 8 : Int))) ||| BitVec.ofInt IntKind.i64.bits (L1.getD 5 0)).toNat : Nat) : Int)) then
    ((instr_Decode_3 (v2) (v2.length) (v2.length) N).bind fun r => match r with
    | .r0 y1_0 =>
      if ¬ (y1_0 = (0 : Int)) then
        some (.inr (.r0 ((110 : Int)) : prog_Decode_3R))
      else
      if v3.length ≤ 100000 then
        some (.inl (.h1m1 ((v3 ++ ([(⟨(0 : Int), (0 : Int), (0 : Int), (0 : Int)⟩ : R_iiii)] : List R_iiii))) ((v5 + 1)) : prog_Decode_3X))
      else
      none
    | .r1 y1_0 y1_1 y1_2 y1_3 =>
      if v3.length ≤ 100000 then
        some (.inl (.h1m2 (y1_3) ((v3 ++ ([(⟨(v2.getD 0 0), y1_0, y1_1, y1_2⟩ : R_iiii)] : List R_iiii))) ((v5 + 1)) : prog_Decode_3X))
      else
      none
    )
  else
  if (0 : Int) < ((v2.length : Nat) : Int) then
    some (.inr (.r0 ((110 : Int)) : prog_Decode_3R))
  else
  some (.inr (.r1 (v3) : prog_Decode_3R))

def prog_Decode_3Step (L1 : List Int) (n2 : Nat) (n3 : Nat) (N : Nat) : prog_Decode_3X → Option (prog_Decode_3X ⊕ prog_Decode_3R)
  | .h1m0 => prog_Decode_3_h1m0 L1 n2 n3 N
  | .h1m1 v2 v4 => prog_Decode_3_h1m1 L1 n2 n3 N v2 v4
  | .h1m2 v2 v3 v5 => prog_Decode_3_h1m2 L1 n2 n3 N v2 v3 v5

def prog_Decode_3In (L1 : List Int) (n2 : Nat) (n3 : Nat) (N : Nat) : Option (prog_Decode_3X ⊕ prog_Decode_3R) :=
  if ((n2 : Nat) : Int) < (7 : Int) then
    some (.inr (.r0 ((6 : Int)) : prog_Decode_3R))
  else
  if 4 < L1.length then
    if (-9223372036854775808 : Int) ≤ (L1.getD 4 0) then
      if (L1.getD 4 0) ≤ (9223372036854775807 : Int) then
        if 5 < L1.length then
          if (-9223372036854775808 : Int) ≤ (L1.getD 5 0) then
            if (L1.getD 5 0) ≤ (9223372036854775807 : Int) then
              if (((n2 : Nat) : Int) - (1 : Int)) ≤ (9223372036854775807 : Int) then
                if (((n2 - 1) : Nat) : Int) ≤ ((n3 : Nat) : Int) then
                  if (n2 - 1) < L1.length then
                    if (strB (L1.take (4 - 0)) ([(71 : Int), (78 : Int), (84 : Int), (1 : Int)] : List Int)) = true then
                      if (512 : Int) < (IntKind.i64.wrap (((BitVec.ofInt IntKind.i64.bits (IntKind.i64.wrap ((L1.getD 4 0) * (2 ^ 8 : Int))) ||| BitVec.ofInt IntKind.i64.bits (L1.getD 5 0)).toNat : Nat) : Int)) then
                        some (.inr (.r0 ((110 : Int)) : prog_Decode_3R))
                      else
                      if (IntKind.i64.wrap ((IntKind.i64.wrap (((BitVec.ofInt IntKind.i64.bits (IntKind.i64.wrap ((L1.getD 4 0) * (2 ^ 8 : Int))) ||| BitVec.ofInt IntKind.i64.bits (L1.getD 5 0)).toNat : Nat) : Int)) * (10 : Int))) < ((((n2 - 1) - 6) : Nat) : Int) then
                        some (.inr (.r0 ((110 : Int)) : prog_Decode_3R))
                      else
                      ((prog_sum_2 (L1) (((n2 - 1) - 0)) ((n3 - 0)) N).bind fun r => match r with
                      | .r0 y13_0 =>
                        if ¬ (y13_0 = (L1.getD (n2 - 1) 0)) then
                          some (.inr (.r0 ((110 : Int)) : prog_Decode_3R))
                        else
                        some (.inl (.h1m0 : prog_Decode_3X))
                      )
                    else
                    some (.inr (.r0 ((110 : Int)) : prog_Decode_3R))
                  else
                  none
                else
                none
              else
              none
            else
            none
          else
          none
        else
        none
      else
      none
    else
    none
  else
  none

def prog_Decode_3 (L1 : List Int) (n2 : Nat) (n3 : Nat) (N : Nat) : Option prog_Decode_3R := goM (prog_Decode_3Step L1 n2 n3 N) N (prog_Decode_3In L1 n2 n3 N)

/-- gantlet/prog.Encode -/
inductive prog_Encode_2R where
  | r0 (w0 : List Int)

inductive prog_Encode_2X where
  | h1m0

def prog_Encode_2_h1m0  (N : Nat) : Option (prog_Encode_2X ⊕ prog_Encode_2R) :=
  ((prog_sum (([(71 : Int), (78 : Int), (84 : Int), (1 : Int), (0 : Int), (0 : Int)] : List Int)) (6) (6) N).bind fun r => match r with
  | .r0 y0_0 =>
    some (.inr (.r0 (([(71 : Int), (78 : Int), (84 : Int), (1 : Int), (0 : Int), (0 : Int), y0_0] : List Int)) : prog_Encode_2R))
  )

def prog_Encode_2Step  (N : Nat) : prog_Encode_2X → Option (prog_Encode_2X ⊕ prog_Encode_2R)
  | .h1m0 => prog_Encode_2_h1m0  N

def prog_Encode_2In  (N : Nat) : Option (prog_Encode_2X ⊕ prog_Encode_2R) :=
  some (.inl (.h1m0 : prog_Encode_2X))

def prog_Encode_2  (N : Nat) : Option prog_Encode_2R := goM (prog_Encode_2Step  N) N (prog_Encode_2In  N)

/-- gantlet/prog.Encode -/
inductive prog_Encode_3R where
  | r0 (w1 : Int)
  | r1 (w1 : List Int)

inductive prog_Encode_3X where
  | h1m0 (v1 : List Int) (v3 : Nat)

def prog_Encode_3_h1m0 (L0 : List R_iiii) (N : Nat) (v1 : List Int) (v3 : Nat) : Option (prog_Encode_3X ⊕ prog_Encode_3R) :=
  if ((v3 : Nat) : Int) < ((L0.length : Nat) : Int) then
    ((instr_Encode ((L0.getD v3 R_iiii.z).a0) ((L0.getD v3 R_iiii.z).a1) ((L0.getD v3 R_iiii.z).a2) ((L0.getD v3 R_iiii.z).a3) N).bind fun r => match r with
    | .r0 y1_0 =>
      if ¬ (y1_0 = (0 : Int)) then
        some (.inr (.r0 ((110 : Int)) : prog_Encode_3R))
      else
      if (((v3 + 1) : Nat) : Int) ≤ (9223372036854775807 : Int) then
        some (.inl (.h1m0 (v1) ((v3 + 1)) : prog_Encode_3X))
      else
      none
    | .r1 y1_0 =>
      if y1_0.length = 0 then
        if (((v3 + 1) : Nat) : Int) ≤ (9223372036854775807 : Int) then
          some (.inl (.h1m0 (v1) ((v3 + 1)) : prog_Encode_3X))
        else
        none
      else
      if y1_0.length ≤ 100000 then
        if v1.length ≤ 100000 then
          if (((v3 + 1) : Nat) : Int) ≤ (9223372036854775807 : Int) then
            some (.inl (.h1m0 ((v1 ++ y1_0)) ((v3 + 1)) : prog_Encode_3X))
          else
          none
        else
        none
      else
      none
    )
  else
  ((prog_sum (v1) (v1.length) (v1.length) N).bind fun r => match r with
  | .r0 y1_0 =>
    if v1.length ≤ 100000 then
      some (.inr (.r1 ((v1 ++ ([y1_0] : List Int))) : prog_Encode_3R))
    else
    none
  )

def prog_Encode_3Step (L0 : List R_iiii) (N : Nat) : prog_Encode_3X → Option (prog_Encode_3X ⊕ prog_Encode_3R)
  | .h1m0 v1 v3 => prog_Encode_3_h1m0 L0 N v1 v3

def prog_Encode_3In (L0 : List R_iiii) (N : Nat) : Option (prog_Encode_3X ⊕ prog_Encode_3R) :=
  if (512 : Int) < ((L0.length : Nat) : Int) then
    some (.inr (.r0 ((3 : Int)) : prog_Encode_3R))
  else
  some (.inl (.h1m0 (([(71 : Int), (78 : Int), (84 : Int), (1 : Int), (((L0.length : Nat) : Int) / (256 : Int)), (IntKind.u8.wrap ((L0.length : Nat) : Int))] : List Int)) (0) : prog_Encode_3X))

def prog_Encode_3 (L0 : List R_iiii) (N : Nat) : Option prog_Encode_3R := goM (prog_Encode_3Step L0 N) N (prog_Encode_3In L0 N)

/-- gantlet/gantletlaw11.ProgBack -/
inductive law11_ProgBackR where
  | r0 (w4 : Bool)

inductive law11_ProgBackX where
  | h1m0
  | h2m0 (v10 : Int)
  | h2m1 (v10 : List Int)
  | h3m0
  | h4m0 (v8 : List Int)

def law11_ProgBack_h1m0 (L1 : List R_iiii) (n2 : Nat) (n3 : Nat) (L5 : List Int) (n6 : Nat) (n7 : Nat) (a8 : Int) (a9 : Int) (N : Nat) : Option (law11_ProgBackX ⊕ law11_ProgBackR) :=
  ((prog_Encode (L1) ((((if (520 : Int) < ((n2 : Nat) : Int) then (520 : Int) else ((n2 : Nat) : Int))).toNat - 0)) ((n3 - 0)) N).bind fun r => match r with
  | .r0 y0_0 =>
    some (.inl (.h2m0 (y0_0) : law11_ProgBackX))
  | .r1 y0_0 =>
    some (.inl (.h2m1 (y0_0) : law11_ProgBackX))
  )

def law11_ProgBack_h2m0 (L1 : List R_iiii) (n2 : Nat) (n3 : Nat) (L5 : List Int) (n6 : Nat) (n7 : Nat) (a8 : Int) (a9 : Int) (N : Nat) (v10 : Int) : Option (law11_ProgBackX ⊕ law11_ProgBackR) :=
  if v10 = (0 : Int) then
    ((prog_Decode N).bind fun r => match r with
    | .r0 =>
      some (.inr (.r0 (false) : law11_ProgBackR))
    )
  else
  some (.inl (.h3m0 : law11_ProgBackX))

def law11_ProgBack_h2m1 (L1 : List R_iiii) (n2 : Nat) (n3 : Nat) (L5 : List Int) (n6 : Nat) (n7 : Nat) (a8 : Int) (a9 : Int) (N : Nat) (v10 : List Int) : Option (law11_ProgBackX ⊕ law11_ProgBackR) :=
  ((prog_Decode_2 (v10) (v10.length) (v10.length) N).bind fun r => match r with
  | .r0 y0_0 =>
    if ¬ (y0_0 = (0 : Int)) then
      some (.inr (.r0 (false) : law11_ProgBackR))
    else
    ((ref11_Same (L1) ((((if (520 : Int) < ((n2 : Nat) : Int) then (520 : Int) else ((n2 : Nat) : Int))).toNat - 0)) ((n3 - 0)) N).bind fun r => match r with
    | .r0 y2_0 =>
      if ¬ (y2_0 = true) then
        some (.inr (.r0 (false) : law11_ProgBackR))
      else
      if ((v10.length : Nat) : Int) < (7 : Int) then
        some (.inr (.r0 (false) : law11_ProgBackR))
      else
      some (.inl (.h4m0 (v10) : law11_ProgBackX))
    )
  | .r1 y0_0 =>
    ((ref11_Same_2 (L1) ((((if (520 : Int) < ((n2 : Nat) : Int) then (520 : Int) else ((n2 : Nat) : Int))).toNat - 0)) ((n3 - 0)) (y0_0) N).bind fun r => match r with
    | .r0 y1_0 =>
      if ¬ (y1_0 = true) then
        some (.inr (.r0 (false) : law11_ProgBackR))
      else
      if ((v10.length : Nat) : Int) < (7 : Int) then
        some (.inr (.r0 (false) : law11_ProgBackR))
      else
      some (.inl (.h4m0 (v10) : law11_ProgBackX))
    )
  )

def law11_ProgBack_h3m0 (L1 : List R_iiii) (n2 : Nat) (n3 : Nat) (L5 : List Int) (n6 : Nat) (n7 : Nat) (a8 : Int) (a9 : Int) (N : Nat) : Option (law11_ProgBackX ⊕ law11_ProgBackR) :=
  ((prog_Decode_3 (L5) ((((if (6000 : Int) < ((n6 : Nat) : Int) then (6000 : Int) else ((n6 : Nat) : Int))).toNat - 0)) ((n7 - 0)) N).bind fun r => match r with
  | .r0 y0_0 =>
    if ¬ (y0_0 = (0 : Int)) then
      some (.inr (.r0 (true) : law11_ProgBackR))
    else
    ((prog_Encode_2 N).bind fun r => match r with
    | .r0 y2_0 =>
      if (((if (6000 : Int) < ((n6 : Nat) : Int) then (6000 : Int) else ((n6 : Nat) : Int))).toNat - 0) ≤ L5.length then
        if (strB y2_0 (L5.take (((if (6000 : Int) < ((n6 : Nat) : Int) then (6000 : Int) else ((n6 : Nat) : Int))).toNat - 0))) = true then
          some (.inr (.r0 (true) : law11_ProgBackR))
        else
        some (.inr (.r0 (false) : law11_ProgBackR))
      else
      none
    )
  | .r1 y0_0 =>
    ((prog_Encode_3 (y0_0) N).bind fun r => match r with
    | .r0 y1_0 =>
      if y1_0 = (0 : Int) then
        if (((if (6000 : Int) < ((n6 : Nat) : Int) then (6000 : Int) else ((n6 : Nat) : Int))).toNat - 0) ≤ L5.length then
          if (strB ([] : List Int) (L5.take (((if (6000 : Int) < ((n6 : Nat) : Int) then (6000 : Int) else ((n6 : Nat) : Int))).toNat - 0))) = true then
            some (.inr (.r0 (true) : law11_ProgBackR))
          else
          some (.inr (.r0 (false) : law11_ProgBackR))
        else
        none
      else
      some (.inr (.r0 (false) : law11_ProgBackR))
    | .r1 y1_0 =>
      if (((if (6000 : Int) < ((n6 : Nat) : Int) then (6000 : Int) else ((n6 : Nat) : Int))).toNat - 0) ≤ L5.length then
        if (strB y1_0 (L5.take (((if (6000 : Int) < ((n6 : Nat) : Int) then (6000 : Int) else ((n6 : Nat) : Int))).toNat - 0))) = true then
          some (.inr (.r0 (true) : law11_ProgBackR))
        else
        some (.inr (.r0 (false) : law11_ProgBackR))
      else
      none
    )
  )

def law11_ProgBack_h4m0 (L1 : List R_iiii) (n2 : Nat) (n3 : Nat) (L5 : List Int) (n6 : Nat) (n7 : Nat) (a8 : Int) (a9 : Int) (N : Nat) (v8 : List Int) : Option (law11_ProgBackX ⊕ law11_ProgBackR) :=
  if ¬ (a9 = (0 : Int)) then
    if (-9223372036854775808 : Int) ≤ a8 then
      if a8 ≤ (9223372036854775807 : Int) then
        if (((v8.length : Nat) : Int) - (1 : Int)) ≤ (9223372036854775807 : Int) then
          if ¬ ((((v8.length : Nat) : Int) - (1 : Int)) = (0 : Int)) then
            if (0 : Int) ≤ (Int.tmod a8 (((v8.length : Nat) : Int) - (1 : Int))) then
              if ((Int.tmod a8 (((v8.length : Nat) : Int) - (1 : Int)))).toNat < v8.length then
                ((prog_Decode_2 ((v8.set ((Int.tmod a8 (((v8.length : Nat) : Int) - (1 : Int)))).toNat (IntKind.u8.wrap (((BitVec.ofInt IntKind.u8.bits (v8.getD ((Int.tmod a8 (((v8.length : Nat) : Int) - (1 : Int)))).toNat 0) ^^^ BitVec.ofInt IntKind.u8.bits a9).toNat : Nat) : Int)))) (v8.length) (v8.length) N).bind fun r => match r with
                | .r0 y7_0 =>
                  if y7_0 = (0 : Int) then
                    some (.inr (.r0 (false) : law11_ProgBackR))
                  else
                  some (.inl (.h3m0 : law11_ProgBackX))
                | .r1 y7_0 =>
                  some (.inr (.r0 (false) : law11_ProgBackR))
                )
              else
              none
            else
            none
          else
          none
        else
        none
      else
      none
    else
    none
  else
  some (.inl (.h3m0 : law11_ProgBackX))

def law11_ProgBackStep (L1 : List R_iiii) (n2 : Nat) (n3 : Nat) (L5 : List Int) (n6 : Nat) (n7 : Nat) (a8 : Int) (a9 : Int) (N : Nat) : law11_ProgBackX → Option (law11_ProgBackX ⊕ law11_ProgBackR)
  | .h1m0 => law11_ProgBack_h1m0 L1 n2 n3 L5 n6 n7 a8 a9 N
  | .h2m0 v10 => law11_ProgBack_h2m0 L1 n2 n3 L5 n6 n7 a8 a9 N v10
  | .h2m1 v10 => law11_ProgBack_h2m1 L1 n2 n3 L5 n6 n7 a8 a9 N v10
  | .h3m0 => law11_ProgBack_h3m0 L1 n2 n3 L5 n6 n7 a8 a9 N
  | .h4m0 v8 => law11_ProgBack_h4m0 L1 n2 n3 L5 n6 n7 a8 a9 N v8

def law11_ProgBackIn (L1 : List R_iiii) (n2 : Nat) (n3 : Nat) (L5 : List Int) (n6 : Nat) (n7 : Nat) (a8 : Int) (a9 : Int) (N : Nat) : Option (law11_ProgBackX ⊕ law11_ProgBackR) :=
  if (if (520 : Int) < ((n2 : Nat) : Int) then (520 : Int) else ((n2 : Nat) : Int)) ≤ ((n3 : Nat) : Int) then
    if (if (6000 : Int) < ((n6 : Nat) : Int) then (6000 : Int) else ((n6 : Nat) : Int)) ≤ ((n7 : Nat) : Int) then
      some (.inl (.h1m0 : law11_ProgBackX))
    else
    none
  else
  none

def law11_ProgBack (L1 : List R_iiii) (n2 : Nat) (n3 : Nat) (L5 : List Int) (n6 : Nat) (n7 : Nat) (a8 : Int) (a9 : Int) (N : Nat) : Option law11_ProgBackR := goM (law11_ProgBackStep L1 n2 n3 L5 n6 n7 a8 a9 N) N (law11_ProgBackIn L1 n2 n3 L5 n6 n7 a8 a9 N)

/-- gantlet/gantletlaw11.ProgBack -/
inductive law11_ProgBack_2R where
  | r0 (w2 : Bool)

inductive law11_ProgBack_2X where
  | h1m0
  | h2m0 (v6 : Int)
  | h2m1 (v6 : List Int)
  | h3m0
  | h4m0 (v4 : List Int)

def law11_ProgBack_2_h1m0 (L1 : List R_iiii) (n2 : Nat) (n3 : Nat) (a4 : Int) (a5 : Int) (N : Nat) : Option (law11_ProgBack_2X ⊕ law11_ProgBack_2R) :=
  ((prog_Encode (L1) ((((if (520 : Int) < ((n2 : Nat) : Int) then (520 : Int) else ((n2 : Nat) : Int))).toNat - 0)) ((n3 - 0)) N).bind fun r => match r with
  | .r0 y0_0 =>
    some (.inl (.h2m0 (y0_0) : law11_ProgBack_2X))
  | .r1 y0_0 =>
    some (.inl (.h2m1 (y0_0) : law11_ProgBack_2X))
  )

def law11_ProgBack_2_h2m0 (L1 : List R_iiii) (n2 : Nat) (n3 : Nat) (a4 : Int) (a5 : Int) (N : Nat) (v6 : Int) : Option (law11_ProgBack_2X ⊕ law11_ProgBack_2R) :=
  if v6 = (0 : Int) then
    ((prog_Decode N).bind fun r => match r with
    | .r0 =>
      some (.inr (.r0 (false) : law11_ProgBack_2R))
    )
  else
  some (.inl (.h3m0 : law11_ProgBack_2X))

def law11_ProgBack_2_h2m1 (L1 : List R_iiii) (n2 : Nat) (n3 : Nat) (a4 : Int) (a5 : Int) (N : Nat) (v6 : List Int) : Option (law11_ProgBack_2X ⊕ law11_ProgBack_2R) :=
  ((prog_Decode_2 (v6) (v6.length) (v6.length) N).bind fun r => match r with
  | .r0 y0_0 =>
    if ¬ (y0_0 = (0 : Int)) then
      some (.inr (.r0 (false) : law11_ProgBack_2R))
    else
    ((ref11_Same (L1) ((((if (520 : Int) < ((n2 : Nat) : Int) then (520 : Int) else ((n2 : Nat) : Int))).toNat - 0)) ((n3 - 0)) N).bind fun r => match r with
    | .r0 y2_0 =>
      if ¬ (y2_0 = true) then
        some (.inr (.r0 (false) : law11_ProgBack_2R))
      else
      if ((v6.length : Nat) : Int) < (7 : Int) then
        some (.inr (.r0 (false) : law11_ProgBack_2R))
      else
      some (.inl (.h4m0 (v6) : law11_ProgBack_2X))
    )
  | .r1 y0_0 =>
    ((ref11_Same_2 (L1) ((((if (520 : Int) < ((n2 : Nat) : Int) then (520 : Int) else ((n2 : Nat) : Int))).toNat - 0)) ((n3 - 0)) (y0_0) N).bind fun r => match r with
    | .r0 y1_0 =>
      if ¬ (y1_0 = true) then
        some (.inr (.r0 (false) : law11_ProgBack_2R))
      else
      if ((v6.length : Nat) : Int) < (7 : Int) then
        some (.inr (.r0 (false) : law11_ProgBack_2R))
      else
      some (.inl (.h4m0 (v6) : law11_ProgBack_2X))
    )
  )

def law11_ProgBack_2_h3m0 (L1 : List R_iiii) (n2 : Nat) (n3 : Nat) (a4 : Int) (a5 : Int) (N : Nat) : Option (law11_ProgBack_2X ⊕ law11_ProgBack_2R) :=
  ((prog_Decode N).bind fun r => match r with
  | .r0 =>
    some (.inr (.r0 (true) : law11_ProgBack_2R))
  )

def law11_ProgBack_2_h4m0 (L1 : List R_iiii) (n2 : Nat) (n3 : Nat) (a4 : Int) (a5 : Int) (N : Nat) (v4 : List Int) : Option (law11_ProgBack_2X ⊕ law11_ProgBack_2R) :=
  if ¬ (a5 = (0 : Int)) then
    if (-9223372036854775808 : Int) ≤ a4 then
      if a4 ≤ (9223372036854775807 : Int) then
        if (((v4.length : Nat) : Int) - (1 : Int)) ≤ (9223372036854775807 : Int) then
          if ¬ ((((v4.length : Nat) : Int) - (1 : Int)) = (0 : Int)) then
            if (0 : Int) ≤ (Int.tmod a4 (((v4.length : Nat) : Int) - (1 : Int))) then
              if ((Int.tmod a4 (((v4.length : Nat) : Int) - (1 : Int)))).toNat < v4.length then
                ((prog_Decode_2 ((v4.set ((Int.tmod a4 (((v4.length : Nat) : Int) - (1 : Int)))).toNat (IntKind.u8.wrap (((BitVec.ofInt IntKind.u8.bits (v4.getD ((Int.tmod a4 (((v4.length : Nat) : Int) - (1 : Int)))).toNat 0) ^^^ BitVec.ofInt IntKind.u8.bits a5).toNat : Nat) : Int)))) (v4.length) (v4.length) N).bind fun r => match r with
                | .r0 y7_0 =>
                  if y7_0 = (0 : Int) then
                    some (.inr (.r0 (false) : law11_ProgBack_2R))
                  else
                  some (.inl (.h3m0 : law11_ProgBack_2X))
                | .r1 y7_0 =>
                  some (.inr (.r0 (false) : law11_ProgBack_2R))
                )
              else
              none
            else
            none
          else
          none
        else
        none
      else
      none
    else
    none
  else
  some (.inl (.h3m0 : law11_ProgBack_2X))

def law11_ProgBack_2Step (L1 : List R_iiii) (n2 : Nat) (n3 : Nat) (a4 : Int) (a5 : Int) (N : Nat) : law11_ProgBack_2X → Option (law11_ProgBack_2X ⊕ law11_ProgBack_2R)
  | .h1m0 => law11_ProgBack_2_h1m0 L1 n2 n3 a4 a5 N
  | .h2m0 v6 => law11_ProgBack_2_h2m0 L1 n2 n3 a4 a5 N v6
  | .h2m1 v6 => law11_ProgBack_2_h2m1 L1 n2 n3 a4 a5 N v6
  | .h3m0 => law11_ProgBack_2_h3m0 L1 n2 n3 a4 a5 N
  | .h4m0 v4 => law11_ProgBack_2_h4m0 L1 n2 n3 a4 a5 N v4

def law11_ProgBack_2In (L1 : List R_iiii) (n2 : Nat) (n3 : Nat) (a4 : Int) (a5 : Int) (N : Nat) : Option (law11_ProgBack_2X ⊕ law11_ProgBack_2R) :=
  if (if (520 : Int) < ((n2 : Nat) : Int) then (520 : Int) else ((n2 : Nat) : Int)) ≤ ((n3 : Nat) : Int) then
    some (.inl (.h1m0 : law11_ProgBack_2X))
  else
  none

def law11_ProgBack_2 (L1 : List R_iiii) (n2 : Nat) (n3 : Nat) (a4 : Int) (a5 : Int) (N : Nat) : Option law11_ProgBack_2R := goM (law11_ProgBack_2Step L1 n2 n3 a4 a5 N) N (law11_ProgBack_2In L1 n2 n3 a4 a5 N)

/-- gantlet/gantletref11.Same -/
inductive ref11_Same_3R where
  | r0

inductive ref11_Same_3X where
  | h1m0

def ref11_Same_3_h1m0  (N : Nat) : Option (ref11_Same_3X ⊕ ref11_Same_3R) :=
  some (.inr (.r0 : ref11_Same_3R))

def ref11_Same_3Step  (N : Nat) : ref11_Same_3X → Option (ref11_Same_3X ⊕ ref11_Same_3R)
  | .h1m0 => ref11_Same_3_h1m0  N

def ref11_Same_3In  (N : Nat) : Option (ref11_Same_3X ⊕ ref11_Same_3R) :=
  some (.inl (.h1m0 : ref11_Same_3X))

def ref11_Same_3  (N : Nat) : Option ref11_Same_3R := goM (ref11_Same_3Step  N) N (ref11_Same_3In  N)

/-- gantlet/gantletref11.Same -/
inductive ref11_Same_4R where
  | r0 (w1 : Bool)

inductive ref11_Same_4X where
  | h1m0

def ref11_Same_4_h1m0 (L0 : List R_iiii) (N : Nat) : Option (ref11_Same_4X ⊕ ref11_Same_4R) :=
  some (.inr (.r0 (true) : ref11_Same_4R))

def ref11_Same_4Step (L0 : List R_iiii) (N : Nat) : ref11_Same_4X → Option (ref11_Same_4X ⊕ ref11_Same_4R)
  | .h1m0 => ref11_Same_4_h1m0 L0 N

def ref11_Same_4In (L0 : List R_iiii) (N : Nat) : Option (ref11_Same_4X ⊕ ref11_Same_4R) :=
  if ¬ ((0 : Int) = ((L0.length : Nat) : Int)) then
    some (.inr (.r0 (false) : ref11_Same_4R))
  else
  some (.inl (.h1m0 : ref11_Same_4X))

def ref11_Same_4 (L0 : List R_iiii) (N : Nat) : Option ref11_Same_4R := goM (ref11_Same_4Step L0 N) N (ref11_Same_4In L0 N)

/-- gantlet/gantletlaw11.ProgBack -/
inductive law11_ProgBack_3R where
  | r0 (w2 : Bool)

inductive law11_ProgBack_3X where
  | h1m0
  | h2m0 (v6 : List Int)
  | h3m0 (v6 : List Int)
  | h4m0

def law11_ProgBack_3_h1m0 (L1 : List Int) (n2 : Nat) (n3 : Nat) (a4 : Int) (a5 : Int) (N : Nat) : Option (law11_ProgBack_3X ⊕ law11_ProgBack_3R) :=
  ((prog_Encode_2 N).bind fun r => match r with
  | .r0 y0_0 =>
    some (.inl (.h2m0 (y0_0) : law11_ProgBack_3X))
  )

def law11_ProgBack_3_h2m0 (L1 : List Int) (n2 : Nat) (n3 : Nat) (a4 : Int) (a5 : Int) (N : Nat) (v6 : List Int) : Option (law11_ProgBack_3X ⊕ law11_ProgBack_3R) :=
  ((prog_Decode_2 (v6) (v6.length) (v6.length) N).bind fun r => match r with
  | .r0 y0_0 =>
    if ¬ (y0_0 = (0 : Int)) then
      some (.inr (.r0 (false) : law11_ProgBack_3R))
    else
    ((ref11_Same_3 N).bind fun r => match r with
    | .r0 =>
      if ((v6.length : Nat) : Int) < (7 : Int) then
        some (.inr (.r0 (false) : law11_ProgBack_3R))
      else
      some (.inl (.h3m0 (v6) : law11_ProgBack_3X))
    )
  | .r1 y0_0 =>
    ((ref11_Same_4 (y0_0) N).bind fun r => match r with
    | .r0 y1_0 =>
      if ¬ (y1_0 = true) then
        some (.inr (.r0 (false) : law11_ProgBack_3R))
      else
      if ((v6.length : Nat) : Int) < (7 : Int) then
        some (.inr (.r0 (false) : law11_ProgBack_3R))
      else
      some (.inl (.h3m0 (v6) : law11_ProgBack_3X))
    )
  )

def law11_ProgBack_3_h3m0 (L1 : List Int) (n2 : Nat) (n3 : Nat) (a4 : Int) (a5 : Int) (N : Nat) (v6 : List Int) : Option (law11_ProgBack_3X ⊕ law11_ProgBack_3R) :=
  if ¬ (a5 = (0 : Int)) then
    if (-9223372036854775808 : Int) ≤ a4 then
      if a4 ≤ (9223372036854775807 : Int) then
        if (((v6.length : Nat) : Int) - (1 : Int)) ≤ (9223372036854775807 : Int) then
          if ¬ ((((v6.length : Nat) : Int) - (1 : Int)) = (0 : Int)) then
            if (0 : Int) ≤ (Int.tmod a4 (((v6.length : Nat) : Int) - (1 : Int))) then
              if ((Int.tmod a4 (((v6.length : Nat) : Int) - (1 : Int)))).toNat < v6.length then
                ((prog_Decode_2 ((v6.set ((Int.tmod a4 (((v6.length : Nat) : Int) - (1 : Int)))).toNat (IntKind.u8.wrap (((BitVec.ofInt IntKind.u8.bits (v6.getD ((Int.tmod a4 (((v6.length : Nat) : Int) - (1 : Int)))).toNat 0) ^^^ BitVec.ofInt IntKind.u8.bits a5).toNat : Nat) : Int)))) (v6.length) (v6.length) N).bind fun r => match r with
                | .r0 y7_0 =>
                  if y7_0 = (0 : Int) then
                    some (.inr (.r0 (false) : law11_ProgBack_3R))
                  else
                  some (.inl (.h4m0 : law11_ProgBack_3X))
                | .r1 y7_0 =>
                  some (.inr (.r0 (false) : law11_ProgBack_3R))
                )
              else
              none
            else
            none
          else
          none
        else
        none
      else
      none
    else
    none
  else
  some (.inl (.h4m0 : law11_ProgBack_3X))

def law11_ProgBack_3_h4m0 (L1 : List Int) (n2 : Nat) (n3 : Nat) (a4 : Int) (a5 : Int) (N : Nat) : Option (law11_ProgBack_3X ⊕ law11_ProgBack_3R) :=
  ((prog_Decode_3 (L1) ((((if (6000 : Int) < ((n2 : Nat) : Int) then (6000 : Int) else ((n2 : Nat) : Int))).toNat - 0)) ((n3 - 0)) N).bind fun r => match r with
  | .r0 y0_0 =>
    if ¬ (y0_0 = (0 : Int)) then
      some (.inr (.r0 (true) : law11_ProgBack_3R))
    else
    ((prog_Encode_2 N).bind fun r => match r with
    | .r0 y2_0 =>
      if (((if (6000 : Int) < ((n2 : Nat) : Int) then (6000 : Int) else ((n2 : Nat) : Int))).toNat - 0) ≤ L1.length then
        if (strB y2_0 (L1.take (((if (6000 : Int) < ((n2 : Nat) : Int) then (6000 : Int) else ((n2 : Nat) : Int))).toNat - 0))) = true then
          some (.inr (.r0 (true) : law11_ProgBack_3R))
        else
        some (.inr (.r0 (false) : law11_ProgBack_3R))
      else
      none
    )
  | .r1 y0_0 =>
    ((prog_Encode_3 (y0_0) N).bind fun r => match r with
    | .r0 y1_0 =>
      if y1_0 = (0 : Int) then
        if (((if (6000 : Int) < ((n2 : Nat) : Int) then (6000 : Int) else ((n2 : Nat) : Int))).toNat - 0) ≤ L1.length then
          if (strB ([] : List Int) (L1.take (((if (6000 : Int) < ((n2 : Nat) : Int) then (6000 : Int) else ((n2 : Nat) : Int))).toNat - 0))) = true then
            some (.inr (.r0 (true) : law11_ProgBack_3R))
          else
          some (.inr (.r0 (false) : law11_ProgBack_3R))
        else
        none
      else
      some (.inr (.r0 (false) : law11_ProgBack_3R))
    | .r1 y1_0 =>
      if (((if (6000 : Int) < ((n2 : Nat) : Int) then (6000 : Int) else ((n2 : Nat) : Int))).toNat - 0) ≤ L1.length then
        if (strB y1_0 (L1.take (((if (6000 : Int) < ((n2 : Nat) : Int) then (6000 : Int) else ((n2 : Nat) : Int))).toNat - 0))) = true then
          some (.inr (.r0 (true) : law11_ProgBack_3R))
        else
        some (.inr (.r0 (false) : law11_ProgBack_3R))
      else
      none
    )
  )

def law11_ProgBack_3Step (L1 : List Int) (n2 : Nat) (n3 : Nat) (a4 : Int) (a5 : Int) (N : Nat) : law11_ProgBack_3X → Option (law11_ProgBack_3X ⊕ law11_ProgBack_3R)
  | .h1m0 => law11_ProgBack_3_h1m0 L1 n2 n3 a4 a5 N
  | .h2m0 v6 => law11_ProgBack_3_h2m0 L1 n2 n3 a4 a5 N v6
  | .h3m0 v6 => law11_ProgBack_3_h3m0 L1 n2 n3 a4 a5 N v6
  | .h4m0 => law11_ProgBack_3_h4m0 L1 n2 n3 a4 a5 N

def law11_ProgBack_3In (L1 : List Int) (n2 : Nat) (n3 : Nat) (a4 : Int) (a5 : Int) (N : Nat) : Option (law11_ProgBack_3X ⊕ law11_ProgBack_3R) :=
  if (if (6000 : Int) < ((n2 : Nat) : Int) then (6000 : Int) else ((n2 : Nat) : Int)) ≤ ((n3 : Nat) : Int) then
    some (.inl (.h1m0 : law11_ProgBack_3X))
  else
  none

def law11_ProgBack_3 (L1 : List Int) (n2 : Nat) (n3 : Nat) (a4 : Int) (a5 : Int) (N : Nat) : Option law11_ProgBack_3R := goM (law11_ProgBack_3Step L1 n2 n3 a4 a5 N) N (law11_ProgBack_3In L1 n2 n3 a4 a5 N)

/-- gantlet/gantletlaw11.ProgBack -/
inductive law11_ProgBack_4R where
  | r0 (w0 : Bool)

inductive law11_ProgBack_4X where
  | h1m0
  | h2m0 (v2 : List Int)
  | h3m0 (v2 : List Int)
  | h4m0

def law11_ProgBack_4_h1m0 (a0 : Int) (a1 : Int) (N : Nat) : Option (law11_ProgBack_4X ⊕ law11_ProgBack_4R) :=
  ((prog_Encode_2 N).bind fun r => match r with
  | .r0 y0_0 =>
    some (.inl (.h2m0 (y0_0) : law11_ProgBack_4X))
  )

def law11_ProgBack_4_h2m0 (a0 : Int) (a1 : Int) (N : Nat) (v2 : List Int) : Option (law11_ProgBack_4X ⊕ law11_ProgBack_4R) :=
  ((prog_Decode_2 (v2) (v2.length) (v2.length) N).bind fun r => match r with
  | .r0 y0_0 =>
    if ¬ (y0_0 = (0 : Int)) then
      some (.inr (.r0 (false) : law11_ProgBack_4R))
    else
    ((ref11_Same_3 N).bind fun r => match r with
    | .r0 =>
      if ((v2.length : Nat) : Int) < (7 : Int) then
        some (.inr (.r0 (false) : law11_ProgBack_4R))
      else
      some (.inl (.h3m0 (v2) : law11_ProgBack_4X))
    )
  | .r1 y0_0 =>
    ((ref11_Same_4 (y0_0) N).bind fun r => match r with
    | .r0 y1_0 =>
      if ¬ (y1_0 = true) then
        some (.inr (.r0 (false) : law11_ProgBack_4R))
      else
      if ((v2.length : Nat) : Int) < (7 : Int) then
        some (.inr (.r0 (false) : law11_ProgBack_4R))
      else
      some (.inl (.h3m0 (v2) : law11_ProgBack_4X))
    )
  )

def law11_ProgBack_4_h3m0 (a0 : Int) (a1 : Int) (N : Nat) (v2 : List Int) : Option (law11_ProgBack_4X ⊕ law11_ProgBack_4R) :=
  if ¬ (a1 = (0 : Int)) then
    if (-9223372036854775808 : Int) ≤ a0 then
      if a0 ≤ (9223372036854775807 : Int) then
        if (((v2.length : Nat) : Int) - (1 : Int)) ≤ (9223372036854775807 : Int) then
          if ¬ ((((v2.length : Nat) : Int) - (1 : Int)) = (0 : Int)) then
            if (0 : Int) ≤ (Int.tmod a0 (((v2.length : Nat) : Int) - (1 : Int))) then
              if ((Int.tmod a0 (((v2.length : Nat) : Int) - (1 : Int)))).toNat < v2.length then
                ((prog_Decode_2 ((v2.set ((Int.tmod a0 (((v2.length : Nat) : Int) - (1 : Int)))).toNat (IntKind.u8.wrap (((BitVec.ofInt IntKind.u8.bits (v2.getD ((Int.tmod a0 (((v2.length : Nat) : Int) - (1 : Int)))).toNat 0) ^^^ BitVec.ofInt IntKind.u8.bits a1).toNat : Nat) : Int)))) (v2.length) (v2.length) N).bind fun r => match r with
                | .r0 y7_0 =>
                  if y7_0 = (0 : Int) then
                    some (.inr (.r0 (false) : law11_ProgBack_4R))
                  else
                  some (.inl (.h4m0 : law11_ProgBack_4X))
                | .r1 y7_0 =>
                  some (.inr (.r0 (false) : law11_ProgBack_4R))
                )
              else
              none
            else
            none
          else
          none
        else
        none
      else
      none
    else
    none
  else
  some (.inl (.h4m0 : law11_ProgBack_4X))

def law11_ProgBack_4_h4m0 (a0 : Int) (a1 : Int) (N : Nat) : Option (law11_ProgBack_4X ⊕ law11_ProgBack_4R) :=
  ((prog_Decode N).bind fun r => match r with
  | .r0 =>
    some (.inr (.r0 (true) : law11_ProgBack_4R))
  )

def law11_ProgBack_4Step (a0 : Int) (a1 : Int) (N : Nat) : law11_ProgBack_4X → Option (law11_ProgBack_4X ⊕ law11_ProgBack_4R)
  | .h1m0 => law11_ProgBack_4_h1m0 a0 a1 N
  | .h2m0 v2 => law11_ProgBack_4_h2m0 a0 a1 N v2
  | .h3m0 v2 => law11_ProgBack_4_h3m0 a0 a1 N v2
  | .h4m0 => law11_ProgBack_4_h4m0 a0 a1 N

def law11_ProgBack_4In (a0 : Int) (a1 : Int) (N : Nat) : Option (law11_ProgBack_4X ⊕ law11_ProgBack_4R) :=
  some (.inl (.h1m0 : law11_ProgBack_4X))

def law11_ProgBack_4 (a0 : Int) (a1 : Int) (N : Nat) : Option law11_ProgBack_4R := goM (law11_ProgBack_4Step a0 a1 N) N (law11_ProgBack_4In a0 a1 N)
end Ev
end Go.Proofs.Ytaahblgahilohaa
