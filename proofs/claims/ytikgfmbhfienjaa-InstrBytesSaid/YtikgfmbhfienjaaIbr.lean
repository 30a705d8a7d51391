/- Records, and the program's functions as plain ones. -/
import Derived.Test.YtikgfmbhfienjaaFm
namespace Go.Proofs.Ytikgfmbhfienjaa
open Go.RowKit
namespace Ev
set_option linter.unusedVariables false
/-- gantlet/instr.kind -/
inductive instr_kindR where
  | r0
  | r1
  | r2
  | r3
  | r4
  | r5
  | r6
  | r7
  | r8
  | r9
  | r10
  | r11
  | r12
  | r13
  | r14
  | r15
  | r16
  | r17
  | r18
  | r19
  | r20

def instr_kind (a0 : Int) (N : Nat) : Option instr_kindR :=
  if a0 < (0 : Int) then
    some (.r0 : instr_kindR)
  else
  if (21 : Int) ≤ a0 then
    some (.r0 : instr_kindR)
  else
  if a0 = (0 : Int) then
    some (.r0 : instr_kindR)
  else
  if a0 = (1 : Int) then
    some (.r1 : instr_kindR)
  else
  if a0 = (2 : Int) then
    some (.r2 : instr_kindR)
  else
  if a0 = (3 : Int) then
    some (.r3 : instr_kindR)
  else
  if a0 = (4 : Int) then
    some (.r4 : instr_kindR)
  else
  if a0 = (5 : Int) then
    some (.r5 : instr_kindR)
  else
  if a0 = (6 : Int) then
    some (.r6 : instr_kindR)
  else
  if a0 = (7 : Int) then
    some (.r7 : instr_kindR)
  else
  if a0 = (8 : Int) then
    some (.r8 : instr_kindR)
  else
  if a0 = (9 : Int) then
    some (.r9 : instr_kindR)
  else
  if a0 = (10 : Int) then
    some (.r10 : instr_kindR)
  else
  if a0 = (11 : Int) then
    some (.r11 : instr_kindR)
  else
  if a0 = (12 : Int) then
    some (.r12 : instr_kindR)
  else
  if a0 = (13 : Int) then
    some (.r13 : instr_kindR)
  else
  if a0 = (14 : Int) then
    some (.r14 : instr_kindR)
  else
  if a0 = (15 : Int) then
    some (.r15 : instr_kindR)
  else
  if a0 = (16 : Int) then
    some (.r16 : instr_kindR)
  else
  if a0 = (17 : Int) then
    some (.r17 : instr_kindR)
  else
  if a0 = (18 : Int) then
    some (.r18 : instr_kindR)
  else
  if a0 = (19 : Int) then
    some (.r19 : instr_kindR)
  else
  some (.r20 : instr_kindR)

/-- (gantlet/instr.shape).fits -/
inductive instr_shape_fitsR where
  | r0 (w0 : Bool)

def instr_shape_fits (a0 : Int) (a1 : Int) (a2 : Int) (N : Nat) : Option instr_shape_fitsR :=
  if a0 = (1 : Int) then
    if (0 : Int) ≤ a1 then
      if a1 ≤ (7 : Int) then
        some (.r0 (true) : instr_shape_fitsR)
      else
      some (.r0 (false) : instr_shape_fitsR)
    else
    some (.r0 (false) : instr_shape_fitsR)
  else
  if a0 = (2 : Int) then
    if (0 : Int) ≤ a1 then
      if a1 ≤ (15 : Int) then
        some (.r0 (true) : instr_shape_fitsR)
      else
      some (.r0 (false) : instr_shape_fitsR)
    else
    some (.r0 (false) : instr_shape_fitsR)
  else
  if a0 = (3 : Int) then
    if (1 : Int) ≤ a1 then
      if a1 ≤ (16 : Int) then
        some (.r0 (true) : instr_shape_fitsR)
      else
      some (.r0 (false) : instr_shape_fitsR)
    else
    some (.r0 (false) : instr_shape_fitsR)
  else
  if a0 = (4 : Int) then
    if (0 : Int) ≤ a1 then
      if a1 ≤ (512 : Int) then
        some (.r0 (true) : instr_shape_fitsR)
      else
      some (.r0 (false) : instr_shape_fitsR)
    else
    some (.r0 (false) : instr_shape_fitsR)
  else
  if a0 = (5 : Int) then
    if (0 : Int) ≤ a2 then
      if a2 ≤ (64 : Int) then
        if (0 : Int) ≤ a1 then
          if a1 ≤ (IntKind.i64.wrap ((IntKind.i64.wrap ((1 : Int) * (2 ^ (a2).toNat : Int))) - (1 : Int))) then
            some (.r0 (true) : instr_shape_fitsR)
          else
          some (.r0 (false) : instr_shape_fitsR)
        else
        some (.r0 (false) : instr_shape_fitsR)
      else
      none
    else
    none
  else
  if a0 = (6 : Int) then
    if (-1099511627776 : Int) ≤ a1 then
      if a1 ≤ (1099511627776 : Int) then
        some (.r0 (true) : instr_shape_fitsR)
      else
      some (.r0 (false) : instr_shape_fitsR)
    else
    some (.r0 (false) : instr_shape_fitsR)
  else
  if (0 : Int) ≤ a1 then
    if a1 ≤ (0 : Int) then
      some (.r0 (true) : instr_shape_fitsR)
    else
    some (.r0 (false) : instr_shape_fitsR)
  else
  some (.r0 (false) : instr_shape_fitsR)

/-- gantlet/instr.Check -/
inductive instr_CheckR where
  | r0 (w0 : Int)

inductive instr_CheckX where
  | h1m0 (v1 : Nat) (v2 : Nat) (v3 : Nat)
  | h1m1 (v1 : Nat) (v2 : Nat) (v3 : Nat)
  | h1m2 (v1 : Nat) (v2 : Nat) (v3 : Nat)
  | h1m3 (v1 : Nat) (v2 : Nat) (v3 : Nat)

def instr_Check_h1m0 (a0 : Int) (a1 : Int) (a2 : Int) (a3 : Int) (N : Nat) (v1 : Nat) (v2 : Nat) (v3 : Nat) : Option (instr_CheckX ⊕ instr_CheckR) :=
  ((instr_shape_fits (((v1 : Nat) : Int)) (a1) ((0 : Int)) N).bind fun r => match r with
  | .r0 y0_0 =>
    if ¬ (y0_0 = true) then
      some (.inr (.r0 ((100 : Int)) : instr_CheckR))
    else
    some (.inl (.h1m1 (v1) (v2) (v3) : instr_CheckX))
  )

def instr_Check_h1m1 (a0 : Int) (a1 : Int) (a2 : Int) (a3 : Int) (N : Nat) (v1 : Nat) (v2 : Nat) (v3 : Nat) : Option (instr_CheckX ⊕ instr_CheckR) :=
  ((instr_shape_fits (((v2 : Nat) : Int)) (a2) (a1) N).bind fun r => match r with
  | .r0 y0_0 =>
    if ¬ (y0_0 = true) then
      some (.inr (.r0 ((100 : Int)) : instr_CheckR))
    else
    some (.inl (.h1m2 (v1) (v2) (v3) : instr_CheckX))
  )

def instr_Check_h1m2 (a0 : Int) (a1 : Int) (a2 : Int) (a3 : Int) (N : Nat) (v1 : Nat) (v2 : Nat) (v3 : Nat) : Option (instr_CheckX ⊕ instr_CheckR) :=
  ((instr_shape_fits (((v3 : Nat) : Int)) (a3) (a2) N).bind fun r => match r with
  | .r0 y0_0 =>
    if ¬ (y0_0 = true) then
      some (.inr (.r0 ((100 : Int)) : instr_CheckR))
    else
    some (.inl (.h1m3 (v1) (v2) (v3) : instr_CheckX))
  )

def instr_Check_h1m3 (a0 : Int) (a1 : Int) (a2 : Int) (a3 : Int) (N : Nat) (v1 : Nat) (v2 : Nat) (v3 : Nat) : Option (instr_CheckX ⊕ instr_CheckR) :=
  some (.inr (.r0 ((0 : Int)) : instr_CheckR))

def instr_CheckStep (a0 : Int) (a1 : Int) (a2 : Int) (a3 : Int) (N : Nat) : instr_CheckX → Option (instr_CheckX ⊕ instr_CheckR)
  | .h1m0 v1 v2 v3 => instr_Check_h1m0 a0 a1 a2 a3 N v1 v2 v3
  | .h1m1 v1 v2 v3 => instr_Check_h1m1 a0 a1 a2 a3 N v1 v2 v3
  | .h1m2 v1 v2 v3 => instr_Check_h1m2 a0 a1 a2 a3 N v1 v2 v3
  | .h1m3 v1 v2 v3 => instr_Check_h1m3 a0 a1 a2 a3 N v1 v2 v3

def instr_CheckIn (a0 : Int) (a1 : Int) (a2 : Int) (a3 : Int) (N : Nat) : Option (instr_CheckX ⊕ instr_CheckR) :=
  ((instr_kind (a0) N).bind fun r => match r with
  | .r0 =>
    some (.inr (.r0 ((100 : Int)) : instr_CheckR))
  | .r1 =>
    some (.inl (.h1m0 (1) (6) (0) : instr_CheckX))
  | .r2 =>
    some (.inl (.h1m0 (1) (0) (0) : instr_CheckX))
  | .r3 =>
    some (.inl (.h1m0 (1) (1) (0) : instr_CheckX))
  | .r4 =>
    some (.inl (.h1m0 (1) (1) (1) : instr_CheckX))
  | .r5 =>
    some (.inl (.h1m0 (1) (1) (1) : instr_CheckX))
  | .r6 =>
    some (.inl (.h1m0 (1) (1) (1) : instr_CheckX))
  | .r7 =>
    some (.inl (.h1m0 (1) (1) (1) : instr_CheckX))
  | .r8 =>
    some (.inl (.h1m0 (4) (0) (0) : instr_CheckX))
  | .r9 =>
    some (.inl (.h1m0 (1) (4) (0) : instr_CheckX))
  | .r10 =>
    some (.inl (.h1m0 (1) (0) (0) : instr_CheckX))
  | .r11 =>
    some (.inl (.h1m0 (1) (3) (5) : instr_CheckX))
  | .r12 =>
    some (.inl (.h1m0 (1) (0) (0) : instr_CheckX))
  | .r13 =>
    some (.inl (.h1m0 (1) (1) (2) : instr_CheckX))
  | .r14 =>
    some (.inl (.h1m0 (1) (2) (1) : instr_CheckX))
  | .r15 =>
    some (.inl (.h1m0 (0) (0) (0) : instr_CheckX))
  | .r16 =>
    some (.inl (.h1m0 (0) (0) (0) : instr_CheckX))
  | .r17 =>
    some (.inl (.h1m0 (0) (0) (0) : instr_CheckX))
  | .r18 =>
    some (.inl (.h1m0 (0) (0) (0) : instr_CheckX))
  | .r19 =>
    some (.inl (.h1m0 (1) (0) (0) : instr_CheckX))
  | .r20 =>
    some (.inl (.h1m0 (0) (0) (0) : instr_CheckX))
  )

def instr_Check (a0 : Int) (a1 : Int) (a2 : Int) (a3 : Int) (N : Nat) : Option instr_CheckR := goM (instr_CheckStep a0 a1 a2 a3 N) N (instr_CheckIn a0 a1 a2 a3 N)

/-- gantlet/instr.kind -/
inductive instr_kind_2R where
  | r0 (w0 : List Int) (w1 : Int) (w2 : Int) (w3 : Int)

def instr_kind_2 (a0 : Int) (N : Nat) : Option instr_kind_2R :=
  if a0 < (0 : Int) then
    some (.r0 (([] : List Int)) ((0 : Int)) ((0 : Int)) ((0 : Int)) : instr_kind_2R)
  else
  if (21 : Int) ≤ a0 then
    some (.r0 (([] : List Int)) ((0 : Int)) ((0 : Int)) ((0 : Int)) : instr_kind_2R)
  else
  if a0 = (0 : Int) then
    some (.r0 (([] : List Int)) ((0 : Int)) ((0 : Int)) ((0 : Int)) : instr_kind_2R)
  else
  if a0 = (1 : Int) then
    some (.r0 (([(99 : Int), (111 : Int), (110 : Int), (115 : Int), (116 : Int)] : List Int)) ((1 : Int)) ((6 : Int)) ((0 : Int)) : instr_kind_2R)
  else
  if a0 = (2 : Int) then
    some (.r0 (([(110 : Int), (105 : Int), (108 : Int)] : List Int)) ((1 : Int)) ((0 : Int)) ((0 : Int)) : instr_kind_2R)
  else
  if a0 = (3 : Int) then
    some (.r0 (([(109 : Int), (111 : Int), (118 : Int), (101 : Int)] : List Int)) ((1 : Int)) ((1 : Int)) ((0 : Int)) : instr_kind_2R)
  else
  if a0 = (4 : Int) then
    some (.r0 (([(97 : Int), (100 : Int), (100 : Int)] : List Int)) ((1 : Int)) ((1 : Int)) ((1 : Int)) : instr_kind_2R)
  else
  if a0 = (5 : Int) then
    some (.r0 (([(115 : Int), (117 : Int), (98 : Int)] : List Int)) ((1 : Int)) ((1 : Int)) ((1 : Int)) : instr_kind_2R)
  else
  if a0 = (6 : Int) then
    some (.r0 (([(108 : Int), (101 : Int), (115 : Int), (115 : Int)] : List Int)) ((1 : Int)) ((1 : Int)) ((1 : Int)) : instr_kind_2R)
  else
  if a0 = (7 : Int) then
    some (.r0 (([(101 : Int), (113 : Int)] : List Int)) ((1 : Int)) ((1 : Int)) ((1 : Int)) : instr_kind_2R)
  else
  if a0 = (8 : Int) then
    some (.r0 (([(106 : Int), (117 : Int), (109 : Int), (112 : Int)] : List Int)) ((4 : Int)) ((0 : Int)) ((0 : Int)) : instr_kind_2R)
  else
  if a0 = (9 : Int) then
    some (.r0 (([(106 : Int), (117 : Int), (109 : Int), (112 : Int), (122 : Int)] : List Int)) ((1 : Int)) ((4 : Int)) ((0 : Int)) : instr_kind_2R)
  else
  if a0 = (10 : Int) then
    some (.r0 (([(114 : Int), (111 : Int), (111 : Int), (116 : Int)] : List Int)) ((1 : Int)) ((0 : Int)) ((0 : Int)) : instr_kind_2R)
  else
  if a0 = (11 : Int) then
    some (.r0 (([(110 : Int), (101 : Int), (119 : Int)] : List Int)) ((1 : Int)) ((3 : Int)) ((5 : Int)) : instr_kind_2R)
  else
  if a0 = (12 : Int) then
    some (.r0 (([(102 : Int), (114 : Int), (101 : Int), (101 : Int)] : List Int)) ((1 : Int)) ((0 : Int)) ((0 : Int)) : instr_kind_2R)
  else
  if a0 = (13 : Int) then
    some (.r0 (([(103 : Int), (101 : Int), (116 : Int)] : List Int)) ((1 : Int)) ((1 : Int)) ((2 : Int)) : instr_kind_2R)
  else
  if a0 = (14 : Int) then
    some (.r0 (([(115 : Int), (101 : Int), (116 : Int)] : List Int)) ((1 : Int)) ((2 : Int)) ((1 : Int)) : instr_kind_2R)
  else
  if a0 = (15 : Int) then
    some (.r0 (([(98 : Int), (101 : Int), (103 : Int), (105 : Int), (110 : Int)] : List Int)) ((0 : Int)) ((0 : Int)) ((0 : Int)) : instr_kind_2R)
  else
  if a0 = (16 : Int) then
    some (.r0 (([(101 : Int), (108 : Int), (115 : Int), (101 : Int)] : List Int)) ((0 : Int)) ((0 : Int)) ((0 : Int)) : instr_kind_2R)
  else
  if a0 = (17 : Int) then
    some (.r0 (([(101 : Int), (110 : Int), (100 : Int)] : List Int)) ((0 : Int)) ((0 : Int)) ((0 : Int)) : instr_kind_2R)
  else
  if a0 = (18 : Int) then
    some (.r0 (([(114 : Int), (101 : Int), (116 : Int), (114 : Int), (121 : Int)] : List Int)) ((0 : Int)) ((0 : Int)) ((0 : Int)) : instr_kind_2R)
  else
  if a0 = (19 : Int) then
    some (.r0 (([(101 : Int), (109 : Int), (105 : Int), (116 : Int)] : List Int)) ((1 : Int)) ((0 : Int)) ((0 : Int)) : instr_kind_2R)
  else
  some (.r0 (([(104 : Int), (97 : Int), (108 : Int), (116 : Int)] : List Int)) ((0 : Int)) ((0 : Int)) ((0 : Int)) : instr_kind_2R)

/-- (gantlet/instr.shape).width -/
inductive instr_shape_widthR where
  | r0 (w0 : Int)

def instr_shape_width (a0 : Int) (N : Nat) : Option instr_shape_widthR :=
  if a0 = (1 : Int) then
    some (.r0 ((1 : Int)) : instr_shape_widthR)
  else
  if a0 = (2 : Int) then
    some (.r0 ((1 : Int)) : instr_shape_widthR)
  else
  if a0 = (3 : Int) then
    some (.r0 ((1 : Int)) : instr_shape_widthR)
  else
  if a0 = (4 : Int) then
    some (.r0 ((2 : Int)) : instr_shape_widthR)
  else
  if a0 = (5 : Int) then
    some (.r0 ((3 : Int)) : instr_shape_widthR)
  else
  if a0 = (6 : Int) then
    some (.r0 ((8 : Int)) : instr_shape_widthR)
  else
  some (.r0 ((0 : Int)) : instr_shape_widthR)

/-- gantlet/instr.Encode -/
inductive instr_EncodeR where
  | r0 (w0 : Int)
  | r1 (w0 : List Int)

inductive instr_EncodeX where
  | h1m0 (v1 : Int) (v2 : Int) (v3 : Int)
  | h1m1 (v0 : List Int) (v1 : Int) (v2 : Int) (v3 : Int)
  | h1m2 (v0 : List Int) (v1 : Int) (v2 : Int) (v3 : Int)
  | h1m3 (v0 : List Int) (v1 : Int) (v2 : Int) (v3 : Int)
  | h2m0 (v0 : List Int) (v1 : Int) (v2 : Int) (v3 : Int) (v4 : Int)
  | h2m1 (v0 : List Int) (v1 : Int) (v2 : Int) (v3 : Int) (v4 : Int)
  | h2m2 (v0 : List Int) (v1 : Int) (v2 : Int) (v3 : Int) (v4 : Int)

def instr_Encode_h1m0 (a0 : Int) (a1 : Int) (a2 : Int) (a3 : Int) (N : Nat) (v1 : Int) (v2 : Int) (v3 : Int) : Option (instr_EncodeX ⊕ instr_EncodeR) :=
  ((instr_shape_width (v1) N).bind fun r => match r with
  | .r0 y0_0 =>
    some (.inl (.h2m0 (([(IntKind.u8.wrap a0)] : List Int)) ((IntKind.i64.wrap ((8 : Int) * (IntKind.i64.wrap (y0_0 - (1 : Int)))))) (v1) (v2) (v3) : instr_EncodeX))
  )

def instr_Encode_h1m1 (a0 : Int) (a1 : Int) (a2 : Int) (a3 : Int) (N : Nat) (v0 : List Int) (v1 : Int) (v2 : Int) (v3 : Int) : Option (instr_EncodeX ⊕ instr_EncodeR) :=
  ((instr_shape_width (v2) N).bind fun r => match r with
  | .r0 y0_0 =>
    some (.inl (.h2m1 (v0) ((IntKind.i64.wrap ((8 : Int) * (IntKind.i64.wrap (y0_0 - (1 : Int)))))) (v1) (v2) (v3) : instr_EncodeX))
  )

def instr_Encode_h1m2 (a0 : Int) (a1 : Int) (a2 : Int) (a3 : Int) (N : Nat) (v0 : List Int) (v1 : Int) (v2 : Int) (v3 : Int) : Option (instr_EncodeX ⊕ instr_EncodeR) :=
  ((instr_shape_width (v3) N).bind fun r => match r with
  | .r0 y0_0 =>
    some (.inl (.h2m2 (v0) ((IntKind.i64.wrap ((8 : Int) * (IntKind.i64.wrap (y0_0 - (1 : Int)))))) (v1) (v2) (v3) : instr_EncodeX))
  )

def instr_Encode_h1m3 (a0 : Int) (a1 : Int) (a2 : Int) (a3 : Int) (N : Nat) (v0 : List Int) (v1 : Int) (v2 : Int) (v3 : Int) : Option (instr_EncodeX ⊕ instr_EncodeR) :=
  some (.inr (.r1 (v0) : instr_EncodeR))

def instr_Encode_h2m0 (a0 : Int) (a1 : Int) (a2 : Int) (a3 : Int) (N : Nat) (v0 : List Int) (v1 : Int) (v2 : Int) (v3 : Int) (v4 : Int) : Option (instr_EncodeX ⊕ instr_EncodeR) :=
  if (0 : Int) ≤ v1 then
    if v1 ≤ (64 : Int) then
      if v0.length ≤ 100000 then
        some (.inl (.h2m0 ((v0 ++ ([(IntKind.u8.wrap ((IntKind.u64.wrap a1) / (2 ^ (v1).toNat : Int)))] : List Int))) ((v1 - (8 : Int))) (v2) (v3) (v4) : instr_EncodeX))
      else
      none
    else
    none
  else
  some (.inl (.h1m1 (v0) (v2) (v3) (v4) : instr_EncodeX))

def instr_Encode_h2m1 (a0 : Int) (a1 : Int) (a2 : Int) (a3 : Int) (N : Nat) (v0 : List Int) (v1 : Int) (v2 : Int) (v3 : Int) (v4 : Int) : Option (instr_EncodeX ⊕ instr_EncodeR) :=
  if (0 : Int) ≤ v1 then
    if v1 ≤ (64 : Int) then
      if v0.length ≤ 100000 then
        some (.inl (.h2m1 ((v0 ++ ([(IntKind.u8.wrap ((IntKind.u64.wrap a2) / (2 ^ (v1).toNat : Int)))] : List Int))) ((v1 - (8 : Int))) (v2) (v3) (v4) : instr_EncodeX))
      else
      none
    else
    none
  else
  some (.inl (.h1m2 (v0) (v2) (v3) (v4) : instr_EncodeX))

def instr_Encode_h2m2 (a0 : Int) (a1 : Int) (a2 : Int) (a3 : Int) (N : Nat) (v0 : List Int) (v1 : Int) (v2 : Int) (v3 : Int) (v4 : Int) : Option (instr_EncodeX ⊕ instr_EncodeR) :=
  if (0 : Int) ≤ v1 then
    if v1 ≤ (64 : Int) then
      if v0.length ≤ 100000 then
        some (.inl (.h2m2 ((v0 ++ ([(IntKind.u8.wrap ((IntKind.u64.wrap a3) / (2 ^ (v1).toNat : Int)))] : List Int))) ((v1 - (8 : Int))) (v2) (v3) (v4) : instr_EncodeX))
      else
      none
    else
    none
  else
  some (.inl (.h1m3 (v0) (v2) (v3) (v4) : instr_EncodeX))

def instr_EncodeStep (a0 : Int) (a1 : Int) (a2 : Int) (a3 : Int) (N : Nat) : instr_EncodeX → Option (instr_EncodeX ⊕ instr_EncodeR)
  | .h1m0 v1 v2 v3 => instr_Encode_h1m0 a0 a1 a2 a3 N v1 v2 v3
  | .h1m1 v0 v1 v2 v3 => instr_Encode_h1m1 a0 a1 a2 a3 N v0 v1 v2 v3
  | .h1m2 v0 v1 v2 v3 => instr_Encode_h1m2 a0 a1 a2 a3 N v0 v1 v2 v3
  | .h1m3 v0 v1 v2 v3 => instr_Encode_h1m3 a0 a1 a2 a3 N v0 v1 v2 v3
  | .h2m0 v0 v1 v2 v3 v4 => instr_Encode_h2m0 a0 a1 a2 a3 N v0 v1 v2 v3 v4
  | .h2m1 v0 v1 v2 v3 v4 => instr_Encode_h2m1 a0 a1 a2 a3 N v0 v1 v2 v3 v4
  | .h2m2 v0 v1 v2 v3 v4 => instr_Encode_h2m2 a0 a1 a2 a3 N v0 v1 v2 v3 v4

def instr_EncodeIn (a0 : Int) (a1 : Int) (a2 : Int) (a3 : Int) (N : Nat) : Option (instr_EncodeX ⊕ instr_EncodeR) :=
  ((instr_Check (a0) (a1) (a2) (a3) N).bind fun r => match r with
  | .r0 y0_0 =>
    if ¬ (y0_0 = (0 : Int)) then
      some (.inr (.r0 (y0_0) : instr_EncodeR))
    else
    ((instr_kind_2 (a0) N).bind fun r => match r with
    | .r0 y2_0 y2_1 y2_2 y2_3 =>
      some (.inl (.h1m0 (y2_1) (y2_2) (y2_3) : instr_EncodeX))
    )
  )

def instr_Encode (a0 : Int) (a1 : Int) (a2 : Int) (a3 : Int) (N : Nat) : Option instr_EncodeR := goM (instr_EncodeStep a0 a1 a2 a3 N) N (instr_EncodeIn a0 a1 a2 a3 N)

/-- gantlet/gantletref10.Has -/
inductive ref10_HasR where
  | r0 (w0 : Int) (w1 : Int) (w2 : Int) (w3 : Bool)

def ref10_Has (a0 : Int) (N : Nat) : Option ref10_HasR :=
  if a0 = (1 : Int) then
    some (.r0 ((1 : Int)) ((2 : Int)) ((0 : Int)) (true) : ref10_HasR)
  else
  if a0 = (2 : Int) then
    some (.r0 ((1 : Int)) ((0 : Int)) ((0 : Int)) (true) : ref10_HasR)
  else
  if a0 = (10 : Int) then
    some (.r0 ((1 : Int)) ((0 : Int)) ((0 : Int)) (true) : ref10_HasR)
  else
  if a0 = (12 : Int) then
    some (.r0 ((1 : Int)) ((0 : Int)) ((0 : Int)) (true) : ref10_HasR)
  else
  if a0 = (19 : Int) then
    some (.r0 ((1 : Int)) ((0 : Int)) ((0 : Int)) (true) : ref10_HasR)
  else
  if a0 = (3 : Int) then
    some (.r0 ((1 : Int)) ((1 : Int)) ((0 : Int)) (true) : ref10_HasR)
  else
  if a0 = (4 : Int) then
    some (.r0 ((1 : Int)) ((1 : Int)) ((1 : Int)) (true) : ref10_HasR)
  else
  if a0 = (5 : Int) then
    some (.r0 ((1 : Int)) ((1 : Int)) ((1 : Int)) (true) : ref10_HasR)
  else
  if a0 = (6 : Int) then
    some (.r0 ((1 : Int)) ((1 : Int)) ((1 : Int)) (true) : ref10_HasR)
  else
  if a0 = (7 : Int) then
    some (.r0 ((1 : Int)) ((1 : Int)) ((1 : Int)) (true) : ref10_HasR)
  else
  if a0 = (8 : Int) then
    some (.r0 ((3 : Int)) ((0 : Int)) ((0 : Int)) (true) : ref10_HasR)
  else
  if a0 = (9 : Int) then
    some (.r0 ((1 : Int)) ((3 : Int)) ((0 : Int)) (true) : ref10_HasR)
  else
  if a0 = (11 : Int) then
    some (.r0 ((1 : Int)) ((5 : Int)) ((6 : Int)) (true) : ref10_HasR)
  else
  if a0 = (13 : Int) then
    some (.r0 ((1 : Int)) ((1 : Int)) ((4 : Int)) (true) : ref10_HasR)
  else
  if a0 = (14 : Int) then
    some (.r0 ((1 : Int)) ((4 : Int)) ((1 : Int)) (true) : ref10_HasR)
  else
  if a0 = (15 : Int) then
    some (.r0 ((0 : Int)) ((0 : Int)) ((0 : Int)) (true) : ref10_HasR)
  else
  if a0 = (16 : Int) then
    some (.r0 ((0 : Int)) ((0 : Int)) ((0 : Int)) (true) : ref10_HasR)
  else
  if a0 = (17 : Int) then
    some (.r0 ((0 : Int)) ((0 : Int)) ((0 : Int)) (true) : ref10_HasR)
  else
  if a0 = (18 : Int) then
    some (.r0 ((0 : Int)) ((0 : Int)) ((0 : Int)) (true) : ref10_HasR)
  else
  if a0 = (20 : Int) then
    some (.r0 ((0 : Int)) ((0 : Int)) ((0 : Int)) (true) : ref10_HasR)
  else
  some (.r0 ((0 : Int)) ((0 : Int)) ((0 : Int)) (false) : ref10_HasR)

/-- gantlet/gantletref10.fits -/
inductive ref10_fitsR where
  | r0 (w0 : Bool)

def ref10_fits (a0 : Int) (a1 : Int) (a2 : Int) (N : Nat) : Option ref10_fitsR :=
  if a0 = (1 : Int) then
    if (0 : Int) ≤ a1 then
      if a1 < (8 : Int) then
        some (.r0 (true) : ref10_fitsR)
      else
      some (.r0 (false) : ref10_fitsR)
    else
    some (.r0 (false) : ref10_fitsR)
  else
  if a0 = (2 : Int) then
    if (-1099511627776 : Int) ≤ a1 then
      if a1 ≤ (1099511627776 : Int) then
        some (.r0 (true) : ref10_fitsR)
      else
      some (.r0 (false) : ref10_fitsR)
    else
    some (.r0 (false) : ref10_fitsR)
  else
  if a0 = (3 : Int) then
    if (0 : Int) ≤ a1 then
      if a1 ≤ (512 : Int) then
        some (.r0 (true) : ref10_fitsR)
      else
      some (.r0 (false) : ref10_fitsR)
    else
    some (.r0 (false) : ref10_fitsR)
  else
  if a0 = (4 : Int) then
    if (0 : Int) ≤ a1 then
      if a1 < (16 : Int) then
        some (.r0 (true) : ref10_fitsR)
      else
      some (.r0 (false) : ref10_fitsR)
    else
    some (.r0 (false) : ref10_fitsR)
  else
  if a0 = (5 : Int) then
    if (1 : Int) ≤ a1 then
      if a1 ≤ (16 : Int) then
        some (.r0 (true) : ref10_fitsR)
      else
      some (.r0 (false) : ref10_fitsR)
    else
    some (.r0 (false) : ref10_fitsR)
  else
  if a0 = (6 : Int) then
    if (1 : Int) ≤ a2 then
      if a2 ≤ (16 : Int) then
        if (0 : Int) ≤ a1 then
          if a1 < (IntKind.i64.wrap ((1 : Int) * (2 ^ (a2).toNat : Int))) then
            some (.r0 (true) : ref10_fitsR)
          else
          some (.r0 (false) : ref10_fitsR)
        else
        some (.r0 (false) : ref10_fitsR)
      else
      some (.r0 (false) : ref10_fitsR)
    else
    some (.r0 (false) : ref10_fitsR)
  else
  if a1 = (0 : Int) then
    some (.r0 (true) : ref10_fitsR)
  else
  some (.r0 (false) : ref10_fitsR)

/-- gantlet/gantletref10.Is -/
inductive ref10_IsR where
  | r0 (w0 : Bool)

def ref10_Is (a0 : Int) (a1 : Int) (a2 : Int) (a3 : Int) (N : Nat) : Option ref10_IsR :=
  ((ref10_Has (a0) N).bind fun r => match r with
  | .r0 y0_0 y0_1 y0_2 y0_3 =>
    if y0_3 = true then
      ((ref10_fits (y0_0) (a1) ((0 : Int)) N).bind fun r => match r with
      | .r0 y2_0 =>
        if y2_0 = true then
          ((ref10_fits (y0_1) (a2) ((0 : Int)) N).bind fun r => match r with
          | .r0 y4_0 =>
            if y4_0 = true then
              ((ref10_fits (y0_2) (a3) (a2) N).bind fun r => match r with
              | .r0 y6_0 =>
                if y6_0 = true then
                  some (.r0 (true) : ref10_IsR)
                else
                some (.r0 (false) : ref10_IsR)
              )
            else
            some (.r0 (false) : ref10_IsR)
          )
        else
        some (.r0 (false) : ref10_IsR)
      )
    else
    some (.r0 (false) : ref10_IsR)
  )

/-- gantlet/gantletref10.Encode -/
inductive ref10_EncodeR where
  | r0
  | r1 (w0 : List Int)

def ref10_Encode (a0 : Int) (a1 : Int) (a2 : Int) (a3 : Int) (N : Nat) : Option ref10_EncodeR :=
  ((ref10_Is (a0) (a1) (a2) (a3) N).bind fun r => match r with
  | .r0 y0_0 =>
    if ¬ (y0_0 = true) then
      some (.r0 : ref10_EncodeR)
    else
    if a0 = (1 : Int) then
      some (.r1 (([a0, ((IntKind.u64.wrap a1) % (256 : Int)), (((((((((IntKind.u64.wrap a2) / (256 : Int)) / (256 : Int)) / (256 : Int)) / (256 : Int)) / (256 : Int)) / (256 : Int)) / (256 : Int)) % (256 : Int)), ((((((((IntKind.u64.wrap a2) / (256 : Int)) / (256 : Int)) / (256 : Int)) / (256 : Int)) / (256 : Int)) / (256 : Int)) % (256 : Int)), (((((((IntKind.u64.wrap a2) / (256 : Int)) / (256 : Int)) / (256 : Int)) / (256 : Int)) / (256 : Int)) % (256 : Int)), ((((((IntKind.u64.wrap a2) / (256 : Int)) / (256 : Int)) / (256 : Int)) / (256 : Int)) % (256 : Int)), (((((IntKind.u64.wrap a2) / (256 : Int)) / (256 : Int)) / (256 : Int)) % (256 : Int)), ((((IntKind.u64.wrap a2) / (256 : Int)) / (256 : Int)) % (256 : Int)), (((IntKind.u64.wrap a2) / (256 : Int)) % (256 : Int)), ((IntKind.u64.wrap a2) % (256 : Int))] : List Int)) : ref10_EncodeR)
    else
    if a0 = (2 : Int) then
      some (.r1 (([a0, ((IntKind.u64.wrap a1) % (256 : Int))] : List Int)) : ref10_EncodeR)
    else
    if a0 = (10 : Int) then
      some (.r1 (([a0, ((IntKind.u64.wrap a1) % (256 : Int))] : List Int)) : ref10_EncodeR)
    else
    if a0 = (12 : Int) then
      some (.r1 (([a0, ((IntKind.u64.wrap a1) % (256 : Int))] : List Int)) : ref10_EncodeR)
    else
    if a0 = (19 : Int) then
      some (.r1 (([a0, ((IntKind.u64.wrap a1) % (256 : Int))] : List Int)) : ref10_EncodeR)
    else
    if a0 = (3 : Int) then
      some (.r1 (([a0, ((IntKind.u64.wrap a1) % (256 : Int)), ((IntKind.u64.wrap a2) % (256 : Int))] : List Int)) : ref10_EncodeR)
    else
    if a0 = (4 : Int) then
      some (.r1 (([a0, ((IntKind.u64.wrap a1) % (256 : Int)), ((IntKind.u64.wrap a2) % (256 : Int)), ((IntKind.u64.wrap a3) % (256 : Int))] : List Int)) : ref10_EncodeR)
    else
    if a0 = (5 : Int) then
      some (.r1 (([a0, ((IntKind.u64.wrap a1) % (256 : Int)), ((IntKind.u64.wrap a2) % (256 : Int)), ((IntKind.u64.wrap a3) % (256 : Int))] : List Int)) : ref10_EncodeR)
    else
    if a0 = (6 : Int) then
      some (.r1 (([a0, ((IntKind.u64.wrap a1) % (256 : Int)), ((IntKind.u64.wrap a2) % (256 : Int)), ((IntKind.u64.wrap a3) % (256 : Int))] : List Int)) : ref10_EncodeR)
    else
    if a0 = (7 : Int) then
      some (.r1 (([a0, ((IntKind.u64.wrap a1) % (256 : Int)), ((IntKind.u64.wrap a2) % (256 : Int)), ((IntKind.u64.wrap a3) % (256 : Int))] : List Int)) : ref10_EncodeR)
    else
    if a0 = (8 : Int) then
      some (.r1 (([a0, (((IntKind.u64.wrap a1) / (256 : Int)) % (256 : Int)), ((IntKind.u64.wrap a1) % (256 : Int))] : List Int)) : ref10_EncodeR)
    else
    if a0 = (9 : Int) then
      some (.r1 (([a0, ((IntKind.u64.wrap a1) % (256 : Int)), (((IntKind.u64.wrap a2) / (256 : Int)) % (256 : Int)), ((IntKind.u64.wrap a2) % (256 : Int))] : List Int)) : ref10_EncodeR)
    else
    if a0 = (11 : Int) then
      some (.r1 (([a0, ((IntKind.u64.wrap a1) % (256 : Int)), ((IntKind.u64.wrap a2) % (256 : Int)), ((((IntKind.u64.wrap a3) / (256 : Int)) / (256 : Int)) % (256 : Int)), (((IntKind.u64.wrap a3) / (256 : Int)) % (256 : Int)), ((IntKind.u64.wrap a3) % (256 : Int))] : List Int)) : ref10_EncodeR)
    else
    if a0 = (13 : Int) then
      some (.r1 (([a0, ((IntKind.u64.wrap a1) % (256 : Int)), ((IntKind.u64.wrap a2) % (256 : Int)), ((IntKind.u64.wrap a3) % (256 : Int))] : List Int)) : ref10_EncodeR)
    else
    if a0 = (14 : Int) then
      some (.r1 (([a0, ((IntKind.u64.wrap a1) % (256 : Int)), ((IntKind.u64.wrap a2) % (256 : Int)), ((IntKind.u64.wrap a3) % (256 : Int))] : List Int)) : ref10_EncodeR)
    else
    if a0 = (15 : Int) then
      some (.r1 (([a0] : List Int)) : ref10_EncodeR)
    else
    if a0 = (16 : Int) then
      some (.r1 (([a0] : List Int)) : ref10_EncodeR)
    else
    if a0 = (17 : Int) then
      some (.r1 (([a0] : List Int)) : ref10_EncodeR)
    else
    if a0 = (18 : Int) then
      some (.r1 (([a0] : List Int)) : ref10_EncodeR)
    else
    if a0 = (20 : Int) then
      some (.r1 (([a0] : List Int)) : ref10_EncodeR)
    else
    some (.r1 (([(IntKind.u8.wrap a0)] : List Int)) : ref10_EncodeR)
  )

/-- gantlet/instr.join -/
inductive instr_joinR where
  | r0 (w2 : Int)

inductive instr_joinX where
  | h1m0 (v2 : Int) (v7 : Nat)

def instr_join_h1m0 (L1 : List Int) (n2 : Nat) (n3 : Nat) (n4 : Nat) (N : Nat) (v2 : Int) (v7 : Nat) : Option (instr_joinX ⊕ instr_joinR) :=
  if ((v7 : Nat) : Int) < ((n3 : Nat) : Int) then
    if (v7 + n2) < L1.length then
      if (0 : Int) ≤ (L1.getD (v7 + n2) 0) then
        if (L1.getD (v7 + n2) 0) ≤ (18446744073709551615 : Int) then
          if (((v7 + 1) : Nat) : Int) ≤ (9223372036854775807 : Int) then
            some (.inl (.h1m0 ((IntKind.u64.wrap (((BitVec.ofInt IntKind.u64.bits (IntKind.u64.wrap (v2 * (2 ^ 8 : Int))) ||| BitVec.ofInt IntKind.u64.bits (L1.getD (v7 + n2) 0)).toNat : Nat) : Int))) ((v7 + 1)) : instr_joinX))
          else
          none
        else
        none
      else
      none
    else
    none
  else
  some (.inr (.r0 ((IntKind.i64.wrap v2)) : instr_joinR))

def instr_joinStep (L1 : List Int) (n2 : Nat) (n3 : Nat) (n4 : Nat) (N : Nat) : instr_joinX → Option (instr_joinX ⊕ instr_joinR)
  | .h1m0 v2 v7 => instr_join_h1m0 L1 n2 n3 n4 N v2 v7

def instr_joinIn (L1 : List Int) (n2 : Nat) (n3 : Nat) (n4 : Nat) (N : Nat) : Option (instr_joinX ⊕ instr_joinR) :=
  some (.inl (.h1m0 ((0 : Int)) (0) : instr_joinX))

def instr_join (L1 : List Int) (n2 : Nat) (n3 : Nat) (n4 : Nat) (N : Nat) : Option instr_joinR := goM (instr_joinStep L1 n2 n3 n4 N) N (instr_joinIn L1 n2 n3 n4 N)

/-- gantlet/instr.Decode -/
inductive instr_DecodeR where
  | r0 (w6 : Int)
  | r1 (w3 : Int) (w4 : Int) (w5 : Int) (w6 : List Int)

inductive instr_DecodeX where
  | h1m0 (v7 : Int) (v8 : Int) (v9 : Int)
  | h1m1 (v4 : Nat) (v5 : Nat) (v6 : Nat) (v7 : Int) (v8 : Int) (v9 : Int) (v14 : Int)
  | h1m2 (v4 : Nat) (v5 : Nat) (v6 : Nat) (v7 : Int) (v8 : Int) (v9 : Int) (v14 : Int) (v15 : Int)
  | h1m3 (v4 : Nat) (v5 : Nat) (v6 : Nat) (v7 : Int) (v8 : Int) (v9 : Int) (v14 : Int) (v15 : Int) (v16 : Int)

def instr_Decode_h1m0 (L1 : List Int) (n2 : Nat) (n3 : Nat) (N : Nat) (v7 : Int) (v8 : Int) (v9 : Int) : Option (instr_DecodeX ⊕ instr_DecodeR) :=
  ((instr_shape_width (v7) N).bind fun r => match r with
  | .r0 y0_0 =>
    if (((n2 - 1) : Nat) : Int) < y0_0 then
      some (.inr (.r0 ((6 : Int)) : instr_DecodeR))
    else
    ((instr_shape_width (v7) N).bind fun r => match r with
    | .r0 y2_0 =>
      if (0 : Int) ≤ y2_0 then
        if y2_0 ≤ (((n3 - 1) : Nat) : Int) then
          ((instr_join (L1) (1) (((y2_0).toNat - 0)) (((n3 - 1) - 0)) N).bind fun r => match r with
          | .r0 y5_0 =>
            ((instr_shape_width (v7) N).bind fun r => match r with
            | .r0 y6_0 =>
              if (0 : Int) ≤ y6_0 then
                if y6_0 ≤ (((n2 - 1) : Nat) : Int) then
                  if (((n2 - 1) : Nat) : Int) ≤ (((n3 - 1) : Nat) : Int) then
                    some (.inl (.h1m1 (((y6_0).toNat + 1)) (((n2 - 1) - (y6_0).toNat)) (((n3 - 1) - (y6_0).toNat)) (v7) (v8) (v9) (y5_0) : instr_DecodeX))
                  else
                  none
                else
                none
              else
              none
            )
          )
        else
        none
      else
      none
    )
  )

def instr_Decode_h1m1 (L1 : List Int) (n2 : Nat) (n3 : Nat) (N : Nat) (v4 : Nat) (v5 : Nat) (v6 : Nat) (v7 : Int) (v8 : Int) (v9 : Int) (v14 : Int) : Option (instr_DecodeX ⊕ instr_DecodeR) :=
  ((instr_shape_width (v8) N).bind fun r => match r with
  | .r0 y0_0 =>
    if ((v5 : Nat) : Int) < y0_0 then
      some (.inr (.r0 ((6 : Int)) : instr_DecodeR))
    else
    ((instr_shape_width (v8) N).bind fun r => match r with
    | .r0 y2_0 =>
      if (0 : Int) ≤ y2_0 then
        if y2_0 ≤ ((v6 : Nat) : Int) then
          ((instr_join (L1) (v4) (((y2_0).toNat - 0)) ((v6 - 0)) N).bind fun r => match r with
          | .r0 y5_0 =>
            ((instr_shape_width (v8) N).bind fun r => match r with
            | .r0 y6_0 =>
              if (0 : Int) ≤ y6_0 then
                if y6_0 ≤ ((v5 : Nat) : Int) then
                  if ((v5 : Nat) : Int) ≤ ((v6 : Nat) : Int) then
                    some (.inl (.h1m2 (((y6_0).toNat + v4)) ((v5 - (y6_0).toNat)) ((v6 - (y6_0).toNat)) (v7) (v8) (v9) (v14) (y5_0) : instr_DecodeX))
                  else
                  none
                else
                none
              else
              none
            )
          )
        else
        none
      else
      none
    )
  )

def instr_Decode_h1m2 (L1 : List Int) (n2 : Nat) (n3 : Nat) (N : Nat) (v4 : Nat) (v5 : Nat) (v6 : Nat) (v7 : Int) (v8 : Int) (v9 : Int) (v14 : Int) (v15 : Int) : Option (instr_DecodeX ⊕ instr_DecodeR) :=
  ((instr_shape_width (v9) N).bind fun r => match r with
  | .r0 y0_0 =>
    if ((v5 : Nat) : Int) < y0_0 then
      some (.inr (.r0 ((6 : Int)) : instr_DecodeR))
    else
    ((instr_shape_width (v9) N).bind fun r => match r with
    | .r0 y2_0 =>
      if (0 : Int) ≤ y2_0 then
        if y2_0 ≤ ((v6 : Nat) : Int) then
          ((instr_join (L1) (v4) (((y2_0).toNat - 0)) ((v6 - 0)) N).bind fun r => match r with
          | .r0 y5_0 =>
            ((instr_shape_width (v9) N).bind fun r => match r with
            | .r0 y6_0 =>
              if (0 : Int) ≤ y6_0 then
                if y6_0 ≤ ((v5 : Nat) : Int) then
                  if ((v5 : Nat) : Int) ≤ ((v6 : Nat) : Int) then
                    some (.inl (.h1m3 (((y6_0).toNat + v4)) ((v5 - (y6_0).toNat)) ((v6 - (y6_0).toNat)) (v7) (v8) (v9) (v14) (v15) (y5_0) : instr_DecodeX))
                  else
                  none
                else
                none
              else
              none
            )
          )
        else
        none
      else
      none
    )
  )

def instr_Decode_h1m3 (L1 : List Int) (n2 : Nat) (n3 : Nat) (N : Nat) (v4 : Nat) (v5 : Nat) (v6 : Nat) (v7 : Int) (v8 : Int) (v9 : Int) (v14 : Int) (v15 : Int) (v16 : Int) : Option (instr_DecodeX ⊕ instr_DecodeR) :=
  if 0 < n2 then
    if 0 < L1.length then
      if (-9223372036854775808 : Int) ≤ (L1.getD 0 0) then
        if (L1.getD 0 0) ≤ (9223372036854775807 : Int) then
          ((instr_Check ((L1.getD 0 0)) (v14) (v15) (v16) N).bind fun r => match r with
          | .r0 y4_0 =>
            if ¬ (y4_0 = (0 : Int)) then
              some (.inr (.r0 (y4_0) : instr_DecodeR))
            else
            if v5 = 0 then
              some (.inr (.r1 (v14) (v15) (v16) (([] : List Int)) : instr_DecodeR))
            else
            if v5 ≤ 100000 then
              if (v4 + v5) ≤ L1.length then
                some (.inr (.r1 (v14) (v15) (v16) (((L1.drop v4).take v5)) : instr_DecodeR))
              else
              none
            else
            none
          )
        else
        none
      else
      none
    else
    none
  else
  none

def instr_DecodeStep (L1 : List Int) (n2 : Nat) (n3 : Nat) (N : Nat) : instr_DecodeX → Option (instr_DecodeX ⊕ instr_DecodeR)
  | .h1m0 v7 v8 v9 => instr_Decode_h1m0 L1 n2 n3 N v7 v8 v9
  | .h1m1 v4 v5 v6 v7 v8 v9 v14 => instr_Decode_h1m1 L1 n2 n3 N v4 v5 v6 v7 v8 v9 v14
  | .h1m2 v4 v5 v6 v7 v8 v9 v14 v15 => instr_Decode_h1m2 L1 n2 n3 N v4 v5 v6 v7 v8 v9 v14 v15
  | .h1m3 v4 v5 v6 v7 v8 v9 v14 v15 v16 => instr_Decode_h1m3 L1 n2 n3 N v4 v5 v6 v7 v8 v9 v14 v15 v16

def instr_DecodeIn (L1 : List Int) (n2 : Nat) (n3 : Nat) (N : Nat) : Option (instr_DecodeX ⊕ instr_DecodeR) :=
  if ((n2 : Nat) : Int) = (0 : Int) then
    some (.inr (.r0 ((6 : Int)) : instr_DecodeR))
  else
  if 0 < L1.length then
    if (-9223372036854775808 : Int) ≤ (L1.getD 0 0) then
      if (L1.getD 0 0) ≤ (9223372036854775807 : Int) then
        ((instr_kind_2 ((L1.getD 0 0)) N).bind fun r => match r with
        | .r0 y4_0 y4_1 y4_2 y4_3 =>
          if (strB y4_0 ([] : List Int)) = true then
            some (.inr (.r0 ((100 : Int)) : instr_DecodeR))
          else
          if ((n2 : Nat) : Int) ≤ ((n3 : Nat) : Int) then
            some (.inl (.h1m0 (y4_1) (y4_2) (y4_3) : instr_DecodeX))
          else
          none
        )
      else
      none
    else
    none
  else
  none

def instr_Decode (L1 : List Int) (n2 : Nat) (n3 : Nat) (N : Nat) : Option instr_DecodeR := goM (instr_DecodeStep L1 n2 n3 N) N (instr_DecodeIn L1 n2 n3 N)

/-- gantlet/gantletref10.wide -/
inductive ref10_wideR where
  | r0 (w0 : Int)

def ref10_wide (a0 : Int) (N : Nat) : Option ref10_wideR :=
  if a0 = (2 : Int) then
    some (.r0 ((8 : Int)) : ref10_wideR)
  else
  if a0 = (3 : Int) then
    some (.r0 ((2 : Int)) : ref10_wideR)
  else
  if a0 = (6 : Int) then
    some (.r0 ((3 : Int)) : ref10_wideR)
  else
  if a0 = (0 : Int) then
    some (.r0 ((0 : Int)) : ref10_wideR)
  else
  some (.r0 ((1 : Int)) : ref10_wideR)

/-- gantlet/gantletref10.get -/
inductive ref10_getR where
  | r0 (w2 : Int)

inductive ref10_getX where
  | h1m0 (v5 : Int) (v6 : Nat)

def ref10_get_h1m0 (L1 : List Int) (n2 : Nat) (n3 : Nat) (n4 : Nat) (N : Nat) (v5 : Int) (v6 : Nat) : Option (ref10_getX ⊕ ref10_getR) :=
  if ((v6 : Nat) : Int) < ((n3 : Nat) : Int) then
    if (v6 + n2) < L1.length then
      if (0 : Int) ≤ (L1.getD (v6 + n2) 0) then
        if (L1.getD (v6 + n2) 0) ≤ (18446744073709551615 : Int) then
          if (((v6 + 1) : Nat) : Int) ≤ (9223372036854775807 : Int) then
            some (.inl (.h1m0 ((IntKind.u64.wrap ((IntKind.u64.wrap ((256 : Int) * v5)) + (L1.getD (v6 + n2) 0)))) ((v6 + 1)) : ref10_getX))
          else
          none
        else
        none
      else
      none
    else
    none
  else
  some (.inr (.r0 ((IntKind.i64.wrap v5)) : ref10_getR))

def ref10_getStep (L1 : List Int) (n2 : Nat) (n3 : Nat) (n4 : Nat) (N : Nat) : ref10_getX → Option (ref10_getX ⊕ ref10_getR)
  | .h1m0 v5 v6 => ref10_get_h1m0 L1 n2 n3 n4 N v5 v6

def ref10_getIn (L1 : List Int) (n2 : Nat) (n3 : Nat) (n4 : Nat) (N : Nat) : Option (ref10_getX ⊕ ref10_getR) :=
  some (.inl (.h1m0 ((0 : Int)) (0) : ref10_getX))

def ref10_get (L1 : List Int) (n2 : Nat) (n3 : Nat) (n4 : Nat) (N : Nat) : Option ref10_getR := goM (ref10_getStep L1 n2 n3 n4 N) N (ref10_getIn L1 n2 n3 n4 N)

/-- gantlet/gantletref10.Decode -/
inductive ref10_DecodeR where
  | r0 (w6 : Int)
  | r1 (w3 : Int) (w4 : Int) (w5 : Int) (w6 : Nat) (w7 : Nat) (w8 : Nat)

def ref10_Decode (L1 : List Int) (n2 : Nat) (n3 : Nat) (N : Nat) : Option ref10_DecodeR :=
  if ((n2 : Nat) : Int) = (0 : Int) then
    some (.r0 ((6 : Int)) : ref10_DecodeR)
  else
  if 0 < L1.length then
    if (-9223372036854775808 : Int) ≤ (L1.getD 0 0) then
      if (L1.getD 0 0) ≤ (9223372036854775807 : Int) then
        ((ref10_Has ((L1.getD 0 0)) N).bind fun r => match r with
        | .r0 y4_0 y4_1 y4_2 y4_3 =>
          if ¬ (y4_3 = true) then
            some (.r0 ((100 : Int)) : ref10_DecodeR)
          else
          ((ref10_wide (y4_0) N).bind fun r => match r with
          | .r0 y6_0 =>
            ((ref10_wide (y4_0) N).bind fun r => match r with
            | .r0 y7_0 =>
              ((ref10_wide (y4_1) N).bind fun r => match r with
              | .r0 y8_0 =>
                ((ref10_wide (y4_2) N).bind fun r => match r with
                | .r0 y9_0 =>
                  if ((n2 : Nat) : Int) < (IntKind.i64.wrap ((IntKind.i64.wrap ((IntKind.i64.wrap ((1 : Int) + y7_0)) + y8_0)) + y9_0)) then
                    some (.r0 ((6 : Int)) : ref10_DecodeR)
                  else
                  if (1 : Int) ≤ (IntKind.i64.wrap ((1 : Int) + y6_0)) then
                    if (IntKind.i64.wrap ((1 : Int) + y6_0)) ≤ ((n3 : Nat) : Int) then
                      ((ref10_get (L1) (1) ((((IntKind.i64.wrap ((1 : Int) + y6_0))).toNat - 1)) ((n3 - 1)) N).bind fun r => match r with
                      | .r0 y13_0 =>
                        if (IntKind.i64.wrap ((1 : Int) + y6_0)) ≤ (IntKind.i64.wrap ((IntKind.i64.wrap ((1 : Int) + y7_0)) + y8_0)) then
                          if (IntKind.i64.wrap ((IntKind.i64.wrap ((1 : Int) + y7_0)) + y8_0)) ≤ ((n3 : Nat) : Int) then
                            ((ref10_get (L1) (((IntKind.i64.wrap ((1 : Int) + y6_0))).toNat) ((((IntKind.i64.wrap ((IntKind.i64.wrap ((1 : Int) + y7_0)) + y8_0))).toNat - ((IntKind.i64.wrap ((1 : Int) + y6_0))).toNat)) ((n3 - ((IntKind.i64.wrap ((1 : Int) + y6_0))).toNat)) N).bind fun r => match r with
                            | .r0 y16_0 =>
                              if (IntKind.i64.wrap ((IntKind.i64.wrap ((1 : Int) + y7_0)) + y8_0)) ≤ (IntKind.i64.wrap ((IntKind.i64.wrap ((IntKind.i64.wrap ((1 : Int) + y7_0)) + y8_0)) + y9_0)) then
                                if (IntKind.i64.wrap ((IntKind.i64.wrap ((IntKind.i64.wrap ((1 : Int) + y7_0)) + y8_0)) + y9_0)) ≤ ((n3 : Nat) : Int) then
                                  ((ref10_get (L1) (((IntKind.i64.wrap ((IntKind.i64.wrap ((1 : Int) + y7_0)) + y8_0))).toNat) ((((IntKind.i64.wrap ((IntKind.i64.wrap ((IntKind.i64.wrap ((1 : Int) + y7_0)) + y8_0)) + y9_0))).toNat - ((IntKind.i64.wrap ((IntKind.i64.wrap ((1 : Int) + y7_0)) + y8_0))).toNat)) ((n3 - ((IntKind.i64.wrap ((IntKind.i64.wrap ((1 : Int) + y7_0)) + y8_0))).toNat)) N).bind fun r => match r with
                                  | .r0 y19_0 =>
                                    ((ref10_Is ((L1.getD 0 0)) (y13_0) (y16_0) (y19_0) N).bind fun r => match r with
                                    | .r0 y20_0 =>
                                      if ¬ (y20_0 = true) then
                                        some (.r0 ((100 : Int)) : ref10_DecodeR)
                                      else
                                      if ((n2 : Nat) : Int) ≤ ((n3 : Nat) : Int) then
                                        some (.r1 (y13_0) (y16_0) (y19_0) (((IntKind.i64.wrap ((IntKind.i64.wrap ((IntKind.i64.wrap ((1 : Int) + y7_0)) + y8_0)) + y9_0))).toNat) ((n2 - ((IntKind.i64.wrap ((IntKind.i64.wrap ((IntKind.i64.wrap ((1 : Int) + y7_0)) + y8_0)) + y9_0))).toNat)) ((n3 - ((IntKind.i64.wrap ((IntKind.i64.wrap ((IntKind.i64.wrap ((1 : Int) + y7_0)) + y8_0)) + y9_0))).toNat)) : ref10_DecodeR)
                                      else
                                      none
                                    )
                                  )
                                else
                                none
                              else
                              none
                            )
                          else
                          none
                        else
                        none
                      )
                    else
                    none
                  else
                  none
                )
              )
            )
          )
        )
      else
      none
    else
    none
  else
  none

/-- gantlet/gantletlaw10.InstrBytes -/
inductive law10_InstrBytesR where
  | r0 (w2 : Bool)

inductive law10_InstrBytesX where
  | h1m0 (v2 : Nat) (v3 : Nat) (v4 : Int)
  | h1m1 (v2 : Nat) (v3 : Nat) (v4 : Int) (v5 : List Int)
  | h1m2 (v2 : Nat) (v3 : Nat) (v4 : List Int)
  | h1m3 (v2 : Nat) (v3 : Nat) (v4 : List Int) (v6 : List Int)

def law10_InstrBytes_h1m0 (a0 : Int) (a1 : Int) (a2 : Int) (a3 : Int) (L5 : List Int) (n6 : Nat) (n7 : Nat) (N : Nat) (v2 : Nat) (v3 : Nat) (v4 : Int) : Option (law10_InstrBytesX ⊕ law10_InstrBytesR) :=
  ((instr_Decode (L5) (v2) (v3) N).bind fun r => match r with
  | .r0 y0_0 =>
    ((ref10_Decode (L5) (v2) (v3) N).bind fun r => match r with
    | .r0 y1_0 =>
      if v4 = (100 : Int) then
        if y0_0 = y1_0 then
          some (.inr (.r0 (true) : law10_InstrBytesR))
        else
        some (.inr (.r0 (false) : law10_InstrBytesR))
      else
      some (.inr (.r0 (false) : law10_InstrBytesR))
    | .r1 y1_0 y1_1 y1_2 y1_3 y1_4 y1_5 =>
      if v4 = (100 : Int) then
        if ((0 : Int) = (L5.getD 0 0) ∧ (0 : Int) = y1_0 ∧ (0 : Int) = y1_1 ∧ (0 : Int) = y1_2) then
          if (y1_3 + y1_4) ≤ L5.length then
            if (strB ([] : List Int) ((L5.drop y1_3).take y1_4)) = true then
              if y0_0 = (0 : Int) then
                some (.inr (.r0 (true) : law10_InstrBytesR))
              else
              some (.inr (.r0 (false) : law10_InstrBytesR))
            else
            some (.inr (.r0 (false) : law10_InstrBytesR))
          else
          none
        else
        some (.inr (.r0 (false) : law10_InstrBytesR))
      else
      some (.inr (.r0 (false) : law10_InstrBytesR))
    )
  | .r1 y0_0 y0_1 y0_2 y0_3 =>
    ((ref10_Decode (L5) (v2) (v3) N).bind fun r => match r with
    | .r0 y1_0 =>
      if v4 = (100 : Int) then
        if ((L5.getD 0 0) = (0 : Int) ∧ y0_0 = (0 : Int) ∧ y0_1 = (0 : Int) ∧ y0_2 = (0 : Int)) then
          if (strB y0_3 ([] : List Int)) = true then
            if (0 : Int) = y1_0 then
              some (.inr (.r0 (true) : law10_InstrBytesR))
            else
            some (.inr (.r0 (false) : law10_InstrBytesR))
          else
          some (.inr (.r0 (false) : law10_InstrBytesR))
        else
        some (.inr (.r0 (false) : law10_InstrBytesR))
      else
      some (.inr (.r0 (false) : law10_InstrBytesR))
    | .r1 y1_0 y1_1 y1_2 y1_3 y1_4 y1_5 =>
      if v4 = (100 : Int) then
        if (y0_0 = y1_0 ∧ y0_1 = y1_1 ∧ y0_2 = y1_2) then
          if (y1_3 + y1_4) ≤ L5.length then
            if (strB y0_3 ((L5.drop y1_3).take y1_4)) = true then
              some (.inr (.r0 (true) : law10_InstrBytesR))
            else
            some (.inr (.r0 (false) : law10_InstrBytesR))
          else
          none
        else
        some (.inr (.r0 (false) : law10_InstrBytesR))
      else
      some (.inr (.r0 (false) : law10_InstrBytesR))
    )
  )

def law10_InstrBytes_h1m1 (a0 : Int) (a1 : Int) (a2 : Int) (a3 : Int) (L5 : List Int) (n6 : Nat) (n7 : Nat) (N : Nat) (v2 : Nat) (v3 : Nat) (v4 : Int) (v5 : List Int) : Option (law10_InstrBytesX ⊕ law10_InstrBytesR) :=
  ((instr_Decode (L5) (v2) (v3) N).bind fun r => match r with
  | .r0 y0_0 =>
    ((ref10_Decode (L5) (v2) (v3) N).bind fun r => match r with
    | .r0 y1_0 =>
      if (strB ([] : List Int) v5) = true then
        if v4 = (0 : Int) then
          if y0_0 = y1_0 then
            some (.inr (.r0 (true) : law10_InstrBytesR))
          else
          some (.inr (.r0 (false) : law10_InstrBytesR))
        else
        some (.inr (.r0 (false) : law10_InstrBytesR))
      else
      some (.inr (.r0 (false) : law10_InstrBytesR))
    | .r1 y1_0 y1_1 y1_2 y1_3 y1_4 y1_5 =>
      if (strB ([] : List Int) v5) = true then
        if v4 = (0 : Int) then
          if ((0 : Int) = (L5.getD 0 0) ∧ (0 : Int) = y1_0 ∧ (0 : Int) = y1_1 ∧ (0 : Int) = y1_2) then
            if (y1_3 + y1_4) ≤ L5.length then
              if (strB ([] : List Int) ((L5.drop y1_3).take y1_4)) = true then
                if y0_0 = (0 : Int) then
                  some (.inr (.r0 (true) : law10_InstrBytesR))
                else
                some (.inr (.r0 (false) : law10_InstrBytesR))
              else
              some (.inr (.r0 (false) : law10_InstrBytesR))
            else
            none
          else
          some (.inr (.r0 (false) : law10_InstrBytesR))
        else
        some (.inr (.r0 (false) : law10_InstrBytesR))
      else
      some (.inr (.r0 (false) : law10_InstrBytesR))
    )
  | .r1 y0_0 y0_1 y0_2 y0_3 =>
    ((ref10_Decode (L5) (v2) (v3) N).bind fun r => match r with
    | .r0 y1_0 =>
      if (strB ([] : List Int) v5) = true then
        if v4 = (0 : Int) then
          if ((L5.getD 0 0) = (0 : Int) ∧ y0_0 = (0 : Int) ∧ y0_1 = (0 : Int) ∧ y0_2 = (0 : Int)) then
            if (strB y0_3 ([] : List Int)) = true then
              if (0 : Int) = y1_0 then
                some (.inr (.r0 (true) : law10_InstrBytesR))
              else
              some (.inr (.r0 (false) : law10_InstrBytesR))
            else
            some (.inr (.r0 (false) : law10_InstrBytesR))
          else
          some (.inr (.r0 (false) : law10_InstrBytesR))
        else
        some (.inr (.r0 (false) : law10_InstrBytesR))
      else
      some (.inr (.r0 (false) : law10_InstrBytesR))
    | .r1 y1_0 y1_1 y1_2 y1_3 y1_4 y1_5 =>
      if (strB ([] : List Int) v5) = true then
        if v4 = (0 : Int) then
          if (y0_0 = y1_0 ∧ y0_1 = y1_1 ∧ y0_2 = y1_2) then
            if (y1_3 + y1_4) ≤ L5.length then
              if (strB y0_3 ((L5.drop y1_3).take y1_4)) = true then
                some (.inr (.r0 (true) : law10_InstrBytesR))
              else
              some (.inr (.r0 (false) : law10_InstrBytesR))
            else
            none
          else
          some (.inr (.r0 (false) : law10_InstrBytesR))
        else
        some (.inr (.r0 (false) : law10_InstrBytesR))
      else
      some (.inr (.r0 (false) : law10_InstrBytesR))
    )
  )

def law10_InstrBytes_h1m2 (a0 : Int) (a1 : Int) (a2 : Int) (a3 : Int) (L5 : List Int) (n6 : Nat) (n7 : Nat) (N : Nat) (v2 : Nat) (v3 : Nat) (v4 : List Int) : Option (law10_InstrBytesX ⊕ law10_InstrBytesR) :=
  ((instr_Decode (L5) (v2) (v3) N).bind fun r => match r with
  | .r0 y0_0 =>
    ((ref10_Decode (L5) (v2) (v3) N).bind fun r => match r with
    | .r0 y1_0 =>
      some (.inr (.r0 (false) : law10_InstrBytesR))
    | .r1 y1_0 y1_1 y1_2 y1_3 y1_4 y1_5 =>
      some (.inr (.r0 (false) : law10_InstrBytesR))
    )
  | .r1 y0_0 y0_1 y0_2 y0_3 =>
    ((ref10_Decode (L5) (v2) (v3) N).bind fun r => match r with
    | .r0 y1_0 =>
      some (.inr (.r0 (false) : law10_InstrBytesR))
    | .r1 y1_0 y1_1 y1_2 y1_3 y1_4 y1_5 =>
      some (.inr (.r0 (false) : law10_InstrBytesR))
    )
  )

def law10_InstrBytes_h1m3 (a0 : Int) (a1 : Int) (a2 : Int) (a3 : Int) (L5 : List Int) (n6 : Nat) (n7 : Nat) (N : Nat) (v2 : Nat) (v3 : Nat) (v4 : List Int) (v6 : List Int) : Option (law10_InstrBytesX ⊕ law10_InstrBytesR) :=
  ((instr_Decode (L5) (v2) (v3) N).bind fun r => match r with
  | .r0 y0_0 =>
    ((ref10_Decode (L5) (v2) (v3) N).bind fun r => match r with
    | .r0 y1_0 =>
      if (strB v4 v6) = true then
        if y0_0 = y1_0 then
          some (.inr (.r0 (true) : law10_InstrBytesR))
        else
        some (.inr (.r0 (false) : law10_InstrBytesR))
      else
      some (.inr (.r0 (false) : law10_InstrBytesR))
    | .r1 y1_0 y1_1 y1_2 y1_3 y1_4 y1_5 =>
      if (strB v4 v6) = true then
        if ((0 : Int) = (L5.getD 0 0) ∧ (0 : Int) = y1_0 ∧ (0 : Int) = y1_1 ∧ (0 : Int) = y1_2) then
          if (y1_3 + y1_4) ≤ L5.length then
            if (strB ([] : List Int) ((L5.drop y1_3).take y1_4)) = true then
              if y0_0 = (0 : Int) then
                some (.inr (.r0 (true) : law10_InstrBytesR))
              else
              some (.inr (.r0 (false) : law10_InstrBytesR))
            else
            some (.inr (.r0 (false) : law10_InstrBytesR))
          else
          none
        else
        some (.inr (.r0 (false) : law10_InstrBytesR))
      else
      some (.inr (.r0 (false) : law10_InstrBytesR))
    )
  | .r1 y0_0 y0_1 y0_2 y0_3 =>
    ((ref10_Decode (L5) (v2) (v3) N).bind fun r => match r with
    | .r0 y1_0 =>
      if (strB v4 v6) = true then
        if ((L5.getD 0 0) = (0 : Int) ∧ y0_0 = (0 : Int) ∧ y0_1 = (0 : Int) ∧ y0_2 = (0 : Int)) then
          if (strB y0_3 ([] : List Int)) = true then
            if (0 : Int) = y1_0 then
              some (.inr (.r0 (true) : law10_InstrBytesR))
            else
            some (.inr (.r0 (false) : law10_InstrBytesR))
          else
          some (.inr (.r0 (false) : law10_InstrBytesR))
        else
        some (.inr (.r0 (false) : law10_InstrBytesR))
      else
      some (.inr (.r0 (false) : law10_InstrBytesR))
    | .r1 y1_0 y1_1 y1_2 y1_3 y1_4 y1_5 =>
      if (strB v4 v6) = true then
        if (y0_0 = y1_0 ∧ y0_1 = y1_1 ∧ y0_2 = y1_2) then
          if (y1_3 + y1_4) ≤ L5.length then
            if (strB y0_3 ((L5.drop y1_3).take y1_4)) = true then
              some (.inr (.r0 (true) : law10_InstrBytesR))
            else
            some (.inr (.r0 (false) : law10_InstrBytesR))
          else
          none
        else
        some (.inr (.r0 (false) : law10_InstrBytesR))
      else
      some (.inr (.r0 (false) : law10_InstrBytesR))
    )
  )

def law10_InstrBytesStep (a0 : Int) (a1 : Int) (a2 : Int) (a3 : Int) (L5 : List Int) (n6 : Nat) (n7 : Nat) (N : Nat) : law10_InstrBytesX → Option (law10_InstrBytesX ⊕ law10_InstrBytesR)
  | .h1m0 v2 v3 v4 => law10_InstrBytes_h1m0 a0 a1 a2 a3 L5 n6 n7 N v2 v3 v4
  | .h1m1 v2 v3 v4 v5 => law10_InstrBytes_h1m1 a0 a1 a2 a3 L5 n6 n7 N v2 v3 v4 v5
  | .h1m2 v2 v3 v4 => law10_InstrBytes_h1m2 a0 a1 a2 a3 L5 n6 n7 N v2 v3 v4
  | .h1m3 v2 v3 v4 v6 => law10_InstrBytes_h1m3 a0 a1 a2 a3 L5 n6 n7 N v2 v3 v4 v6

def law10_InstrBytesIn (a0 : Int) (a1 : Int) (a2 : Int) (a3 : Int) (L5 : List Int) (n6 : Nat) (n7 : Nat) (N : Nat) : Option (law10_InstrBytesX ⊕ law10_InstrBytesR) :=
  if (20 : Int) < ((n6 : Nat) : Int) then
    if (20 : Int) ≤ ((n7 : Nat) : Int) then
      ((instr_Encode (a0) (a1) (a2) (a3) N).bind fun r => match r with
      | .r0 y2_0 =>
        ((ref10_Encode (a0) (a1) (a2) (a3) N).bind fun r => match r with
        | .r0 =>
          some (.inl (.h1m0 ((20 - 0)) ((n7 - 0)) (y2_0) : law10_InstrBytesX))
        | .r1 y3_0 =>
          some (.inl (.h1m1 ((20 - 0)) ((n7 - 0)) (y2_0) (y3_0) : law10_InstrBytesX))
        )
      | .r1 y2_0 =>
        ((ref10_Encode (a0) (a1) (a2) (a3) N).bind fun r => match r with
        | .r0 =>
          some (.inl (.h1m2 ((20 - 0)) ((n7 - 0)) (y2_0) : law10_InstrBytesX))
        | .r1 y3_0 =>
          some (.inl (.h1m3 ((20 - 0)) ((n7 - 0)) (y2_0) (y3_0) : law10_InstrBytesX))
        )
      )
    else
    none
  else
  ((instr_Encode (a0) (a1) (a2) (a3) N).bind fun r => match r with
  | .r0 y1_0 =>
    ((ref10_Encode (a0) (a1) (a2) (a3) N).bind fun r => match r with
    | .r0 =>
      some (.inl (.h1m0 (n6) (n7) (y1_0) : law10_InstrBytesX))
    | .r1 y2_0 =>
      some (.inl (.h1m1 (n6) (n7) (y1_0) (y2_0) : law10_InstrBytesX))
    )
  | .r1 y1_0 =>
    ((ref10_Encode (a0) (a1) (a2) (a3) N).bind fun r => match r with
    | .r0 =>
      some (.inl (.h1m2 (n6) (n7) (y1_0) : law10_InstrBytesX))
    | .r1 y2_0 =>
      some (.inl (.h1m3 (n6) (n7) (y1_0) (y2_0) : law10_InstrBytesX))
    )
  )

def law10_InstrBytes (a0 : Int) (a1 : Int) (a2 : Int) (a3 : Int) (L5 : List Int) (n6 : Nat) (n7 : Nat) (N : Nat) : Option law10_InstrBytesR := goM (law10_InstrBytesStep a0 a1 a2 a3 L5 n6 n7 N) N (law10_InstrBytesIn a0 a1 a2 a3 L5 n6 n7 N)

/-- gantlet/instr.Decode -/
inductive instr_Decode_2R where
  | r0

def instr_Decode_2  (N : Nat) : Option instr_Decode_2R :=
  some (.r0 : instr_Decode_2R)

/-- gantlet/gantletref10.Decode -/
inductive ref10_Decode_2R where
  | r0

def ref10_Decode_2  (N : Nat) : Option ref10_Decode_2R :=
  some (.r0 : ref10_Decode_2R)

/-- gantlet/gantletlaw10.InstrBytes -/
inductive law10_InstrBytes_2R where
  | r0 (w0 : Bool)

inductive law10_InstrBytes_2X where
  | h1m0 (v0 : Int)
  | h1m1 (v0 : Int) (v1 : List Int)
  | h1m2 (v0 : List Int)
  | h1m3 (v0 : List Int) (v2 : List Int)

def law10_InstrBytes_2_h1m0 (a0 : Int) (a1 : Int) (a2 : Int) (a3 : Int) (N : Nat) (v0 : Int) : Option (law10_InstrBytes_2X ⊕ law10_InstrBytes_2R) :=
  ((instr_Decode_2 N).bind fun r => match r with
  | .r0 =>
    ((ref10_Decode_2 N).bind fun r => match r with
    | .r0 =>
      if v0 = (100 : Int) then
        some (.inr (.r0 (true) : law10_InstrBytes_2R))
      else
      some (.inr (.r0 (false) : law10_InstrBytes_2R))
    )
  )

def law10_InstrBytes_2_h1m1 (a0 : Int) (a1 : Int) (a2 : Int) (a3 : Int) (N : Nat) (v0 : Int) (v1 : List Int) : Option (law10_InstrBytes_2X ⊕ law10_InstrBytes_2R) :=
  ((instr_Decode_2 N).bind fun r => match r with
  | .r0 =>
    ((ref10_Decode_2 N).bind fun r => match r with
    | .r0 =>
      if (strB ([] : List Int) v1) = true then
        if v0 = (0 : Int) then
          some (.inr (.r0 (true) : law10_InstrBytes_2R))
        else
        some (.inr (.r0 (false) : law10_InstrBytes_2R))
      else
      some (.inr (.r0 (false) : law10_InstrBytes_2R))
    )
  )

def law10_InstrBytes_2_h1m2 (a0 : Int) (a1 : Int) (a2 : Int) (a3 : Int) (N : Nat) (v0 : List Int) : Option (law10_InstrBytes_2X ⊕ law10_InstrBytes_2R) :=
  ((instr_Decode_2 N).bind fun r => match r with
  | .r0 =>
    ((ref10_Decode_2 N).bind fun r => match r with
    | .r0 =>
      some (.inr (.r0 (false) : law10_InstrBytes_2R))
    )
  )

def law10_InstrBytes_2_h1m3 (a0 : Int) (a1 : Int) (a2 : Int) (a3 : Int) (N : Nat) (v0 : List Int) (v2 : List Int) : Option (law10_InstrBytes_2X ⊕ law10_InstrBytes_2R) :=
  ((instr_Decode_2 N).bind fun r => match r with
  | .r0 =>
    ((ref10_Decode_2 N).bind fun r => match r with
    | .r0 =>
      if (strB v0 v2) = true then
        some (.inr (.r0 (true) : law10_InstrBytes_2R))
      else
      some (.inr (.r0 (false) : law10_InstrBytes_2R))
    )
  )

def law10_InstrBytes_2Step (a0 : Int) (a1 : Int) (a2 : Int) (a3 : Int) (N : Nat) : law10_InstrBytes_2X → Option (law10_InstrBytes_2X ⊕ law10_InstrBytes_2R)
  | .h1m0 v0 => law10_InstrBytes_2_h1m0 a0 a1 a2 a3 N v0
  | .h1m1 v0 v1 => law10_InstrBytes_2_h1m1 a0 a1 a2 a3 N v0 v1
  | .h1m2 v0 => law10_InstrBytes_2_h1m2 a0 a1 a2 a3 N v0
  | .h1m3 v0 v2 => law10_InstrBytes_2_h1m3 a0 a1 a2 a3 N v0 v2

def law10_InstrBytes_2In (a0 : Int) (a1 : Int) (a2 : Int) (a3 : Int) (N : Nat) : Option (law10_InstrBytes_2X ⊕ law10_InstrBytes_2R) :=
  ((instr_Encode (a0) (a1) (a2) (a3) N).bind fun r => match r with
  | .r0 y0_0 =>
    ((ref10_Encode (a0) (a1) (a2) (a3) N).bind fun r => match r with
    | .r0 =>
      some (.inl (.h1m0 (y0_0) : law10_InstrBytes_2X))
    | .r1 y1_0 =>
      some (.inl (.h1m1 (y0_0) (y1_0) : law10_InstrBytes_2X))
    )
  | .r1 y0_0 =>
    ((ref10_Encode (a0) (a1) (a2) (a3) N).bind fun r => match r with
    | .r0 =>
      some (.inl (.h1m2 (y0_0) : law10_InstrBytes_2X))
    | .r1 y1_0 =>
      some (.inl (.h1m3 (y0_0) (y1_0) : law10_InstrBytes_2X))
    )
  )

def law10_InstrBytes_2 (a0 : Int) (a1 : Int) (a2 : Int) (a3 : Int) (N : Nat) : Option law10_InstrBytes_2R := goM (law10_InstrBytes_2Step a0 a1 a2 a3 N) N (law10_InstrBytes_2In a0 a1 a2 a3 N)
end Ev
end Go.Proofs.Ytikgfmbhfienjaa
