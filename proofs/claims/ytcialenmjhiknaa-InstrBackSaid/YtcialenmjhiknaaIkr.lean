/- Records, and the program's functions as plain ones. -/
import Derived.Test.YtcialenmjhiknaaFm
namespace Go.Proofs.Ytcialenmjhiknaa
open Go.RowKit
namespace Ev
set_option linter.unusedVariables false
/-- gantlet/instr.kind -/
inductive instr_kindR where
  | r0
  | r1
  | r2
  | r3
  | r4
  | r5
  | r6
  | r7
  | r8
  | r9
  | r10
  | r11
  | r12
  | r13
  | r14
  | r15
  | r16
  | r17
  | r18
  | r19
  | r20

def instr_kind (a0 : Int) (N : Nat) : Option instr_kindR :=
  if a0 < (0 : Int) then
    some (.r0 : instr_kindR)
  else
  if (21 : Int) ≤ a0 then
    some (.r0 : instr_kindR)
  else
  if a0 = (0 : Int) then
    some (.r0 : instr_kindR)
  else
  if a0 = (1 : Int) then
    some (.r1 : instr_kindR)
  else
  if a0 = (2 : Int) then
    some (.r2 : instr_kindR)
  else
  if a0 = (3 : Int) then
    some (.r3 : instr_kindR)
  else
  if a0 = (4 : Int) then
    some (.r4 : instr_kindR)
  else
  if a0 = (5 : Int) then
    some (.r5 : instr_kindR)
  else
  if a0 = (6 : Int) then
    some (.r6 : instr_kindR)
  else
  if a0 = (7 : Int) then
    some (.r7 : instr_kindR)
  else
  if a0 = (8 : Int) then
    some (.r8 : instr_kindR)
  else
  if a0 = (9 : Int) then
    some (.r9 : instr_kindR)
  else
  if a0 = (10 : Int) then
    some (.r10 : instr_kindR)
  else
  if a0 = (11 : Int) then
    some (.r11 : instr_kindR)
  else
  if a0 = (12 : Int) then
    some (.r12 : instr_kindR)
  else
  if a0 = (13 : Int) then
    some (.r13 : instr_kindR)
  else
  if a0 = (14 : Int) then
    some (.r14 : instr_kindR)
  else
  if a0 = (15 : Int) then
    some (.r15 : instr_kindR)
  else
  if a0 = (16 : Int) then
    some (.r16 : instr_kindR)
  else
  if a0 = (17 : Int) then
    some (.r17 : instr_kindR)
  else
  if a0 = (18 : Int) then
    some (.r18 : instr_kindR)
  else
  if a0 = (19 : Int) then
    some (.r19 : instr_kindR)
  else
  some (.r20 : instr_kindR)

/-- (gantlet/instr.shape).fits -/
inductive instr_shape_fitsR where
  | r0 (w0 : Bool)

def instr_shape_fits (a0 : Int) (a1 : Int) (a2 : Int) (N : Nat) : Option instr_shape_fitsR :=
  if a0 = (1 : Int) then
    if (0 : Int) ≤ a1 then
      if a1 ≤ (7 : Int) then
        some (.r0 (true) : instr_shape_fitsR)
      else
      some (.r0 (false) : instr_shape_fitsR)
    else
    some (.r0 (false) : instr_shape_fitsR)
  else
  if a0 = (2 : Int) then
    if (0 : Int) ≤ a1 then
      if a1 ≤ (15 : Int) then
        some (.r0 (true) : instr_shape_fitsR)
      else
      some (.r0 (false) : instr_shape_fitsR)
    else
    some (.r0 (false) : instr_shape_fitsR)
  else
  if a0 = (3 : Int) then
    if (1 : Int) ≤ a1 then
      if a1 ≤ (16 : Int) then
        some (.r0 (true) : instr_shape_fitsR)
      else
      some (.r0 (false) : instr_shape_fitsR)
    else
    some (.r0 (false) : instr_shape_fitsR)
  else
  if a0 = (4 : Int) then
    if (0 : Int) ≤ a1 then
      if a1 ≤ (512 : Int) then
        some (.r0 (true) : instr_shape_fitsR)
      else
      some (.r0 (false) : instr_shape_fitsR)
    else
    some (.r0 (false) : instr_shape_fitsR)
  else
  if a0 = (5 : Int) then
    if (0 : Int) ≤ a2 then
      if a2 ≤ (64 : Int) then
        if (0 : Int) ≤ a1 then
          if a1 ≤ (IntKind.i64.wrap ((IntKind.i64.wrap ((1 : Int) * (2 ^ (a2).toNat : Int))) - (1 : Int))) then
            some (.r0 (true) : instr_shape_fitsR)
          else
          some (.r0 (false) : instr_shape_fitsR)
        else
        some (.r0 (false) : instr_shape_fitsR)
      else
      none
    else
    none
  else
  if a0 = (6 : Int) then
    if (-1099511627776 : Int) ≤ a1 then
      if a1 ≤ (1099511627776 : Int) then
        some (.r0 (true) : instr_shape_fitsR)
      else
      some (.r0 (false) : instr_shape_fitsR)
    else
    some (.r0 (false) : instr_shape_fitsR)
  else
  if (0 : Int) ≤ a1 then
    if a1 ≤ (0 : Int) then
      some (.r0 (true) : instr_shape_fitsR)
    else
    some (.r0 (false) : instr_shape_fitsR)
  else
  some (.r0 (false) : instr_shape_fitsR)

/-- gantlet/instr.Check -/
inductive instr_CheckR where
  | r0 (w0 : Int)

inductive instr_CheckX where
  | h1m0 (v1 : Nat) (v2 : Nat) (v3 : Nat)
  | h1m1 (v1 : Nat) (v2 : Nat) (v3 : Nat)
  | h1m2 (v1 : Nat) (v2 : Nat) (v3 : Nat)
  | h1m3 (v1 : Nat) (v2 : Nat) (v3 : Nat)

def instr_Check_h1m0 (a0 : Int) (a1 : Int) (a2 : Int) (a3 : Int) (N : Nat) (v1 : Nat) (v2 : Nat) (v3 : Nat) : Option (instr_CheckX ⊕ instr_CheckR) :=
  ((instr_shape_fits (((v1 : Nat) : Int)) (a1) ((0 : Int)) N).bind fun r => match r with
  | .r0 y0_0 =>
    if ¬ (y0_0 = true) then
      some (.inr (.r0 ((100 : Int)) : instr_CheckR))
    else
    some (.inl (.h1m1 (v1) (v2) (v3) : instr_CheckX))
  )

def instr_Check_h1m1 (a0 : Int) (a1 : Int) (a2 : Int) (a3 : Int) (N : Nat) (v1 : Nat) (v2 : Nat) (v3 : Nat) : Option (instr_CheckX ⊕ instr_CheckR) :=
  ((instr_shape_fits (((v2 : Nat) : Int)) (a2) (a1) N).bind fun r => match r with
  | .r0 y0_0 =>
    if ¬ (y0_0 = true) then
      some (.inr (.r0 ((100 : Int)) : instr_CheckR))
    else
    some (.inl (.h1m2 (v1) (v2) (v3) : instr_CheckX))
  )

def instr_Check_h1m2 (a0 : Int) (a1 : Int) (a2 : Int) (a3 : Int) (N : Nat) (v1 : Nat) (v2 : Nat) (v3 : Nat) : Option (instr_CheckX ⊕ instr_CheckR) :=
  ((instr_shape_fits (((v3 : Nat) : Int)) (a3) (a2) N).bind fun r => match r with
  | .r0 y0_0 =>
    if ¬ (y0_0 = true) then
      some (.inr (.r0 ((100 : Int)) : instr_CheckR))
    else
    some (.inl (.h1m3 (v1) (v2) (v3) : instr_CheckX))
  )

def instr_Check_h1m3 (a0 : Int) (a1 : Int) (a2 : Int) (a3 : Int) (N : Nat) (v1 : Nat) (v2 : Nat) (v3 : Nat) : Option (instr_CheckX ⊕ instr_CheckR) :=
  some (.inr (.r0 ((0 : Int)) : instr_CheckR))

def instr_CheckStep (a0 : Int) (a1 : Int) (a2 : Int) (a3 : Int) (N : Nat) : instr_CheckX → Option (instr_CheckX ⊕ instr_CheckR)
  | .h1m0 v1 v2 v3 => instr_Check_h1m0 a0 a1 a2 a3 N v1 v2 v3
  | .h1m1 v1 v2 v3 => instr_Check_h1m1 a0 a1 a2 a3 N v1 v2 v3
  | .h1m2 v1 v2 v3 => instr_Check_h1m2 a0 a1 a2 a3 N v1 v2 v3
  | .h1m3 v1 v2 v3 => instr_Check_h1m3 a0 a1 a2 a3 N v1 v2 v3

def instr_CheckIn (a0 : Int) (a1 : Int) (a2 : Int) (a3 : Int) (N : Nat) : Option (instr_CheckX ⊕ instr_CheckR) :=
  ((instr_kind (a0) N).bind fun r => match r with
  | .r0 =>
    some (.inr (.r0 ((100 : Int)) : instr_CheckR))
  | .r1 =>
    some (.inl (.h1m0 (1) (6) (0) : instr_CheckX))
  | .r2 =>
    some (.inl (.h1m0 (1) (0) (0) : instr_CheckX))
  | .r3 =>
    some (.inl (.h1m0 (1) (1) (0) : instr_CheckX))
  | .r4 =>
    some (.inl (.h1m0 (1) (1) (1) : instr_CheckX))
  | .r5 =>
    some (.inl (.h1m0 (1) (1) (1) : instr_CheckX))
  | .r6 =>
    some (.inl (.h1m0 (1) (1) (1) : instr_CheckX))
  | .r7 =>
    some (.inl (.h1m0 (1) (1) (1) : instr_CheckX))
  | .r8 =>
    some (.inl (.h1m0 (4) (0) (0) : instr_CheckX))
  | .r9 =>
    some (.inl (.h1m0 (1) (4) (0) : instr_CheckX))
  | .r10 =>
    some (.inl (.h1m0 (1) (0) (0) : instr_CheckX))
  | .r11 =>
    some (.inl (.h1m0 (1) (3) (5) : instr_CheckX))
  | .r12 =>
    some (.inl (.h1m0 (1) (0) (0) : instr_CheckX))
  | .r13 =>
    some (.inl (.h1m0 (1) (1) (2) : instr_CheckX))
  | .r14 =>
    some (.inl (.h1m0 (1) (2) (1) : instr_CheckX))
  | .r15 =>
    some (.inl (.h1m0 (0) (0) (0) : instr_CheckX))
  | .r16 =>
    some (.inl (.h1m0 (0) (0) (0) : instr_CheckX))
  | .r17 =>
    some (.inl (.h1m0 (0) (0) (0) : instr_CheckX))
  | .r18 =>
    some (.inl (.h1m0 (0) (0) (0) : instr_CheckX))
  | .r19 =>
    some (.inl (.h1m0 (1) (0) (0) : instr_CheckX))
  | .r20 =>
    some (.inl (.h1m0 (0) (0) (0) : instr_CheckX))
  )

def instr_Check (a0 : Int) (a1 : Int) (a2 : Int) (a3 : Int) (N : Nat) : Option instr_CheckR := goM (instr_CheckStep a0 a1 a2 a3 N) N (instr_CheckIn a0 a1 a2 a3 N)

/-- gantlet/instr.kind -/
inductive instr_kind_2R where
  | r0 (w0 : List Int) (w1 : Int) (w2 : Int) (w3 : Int)

def instr_kind_2 (a0 : Int) (N : Nat) : Option instr_kind_2R :=
  if a0 < (0 : Int) then
    some (.r0 (([] : List Int)) ((0 : Int)) ((0 : Int)) ((0 : Int)) : instr_kind_2R)
  else
  if (21 : Int) ≤ a0 then
    some (.r0 (([] : List Int)) ((0 : Int)) ((0 : Int)) ((0 : Int)) : instr_kind_2R)
  else
  if a0 = (0 : Int) then
    some (.r0 (([] : List Int)) ((0 : Int)) ((0 : Int)) ((0 : Int)) : instr_kind_2R)
  else
  if a0 = (1 : Int) then
    some (.r0 (([(99 : Int), (111 : Int), (110 : Int), (115 : Int), (116 : Int)] : List Int)) ((1 : Int)) ((6 : Int)) ((0 : Int)) : instr_kind_2R)
  else
  if a0 = (2 : Int) then
    some (.r0 (([(110 : Int), (105 : Int), (108 : Int)] : List Int)) ((1 : Int)) ((0 : Int)) ((0 : Int)) : instr_kind_2R)
  else
  if a0 = (3 : Int) then
    some (.r0 (([(109 : Int), (111 : Int), (118 : Int), (101 : Int)] : List Int)) ((1 : Int)) ((1 : Int)) ((0 : Int)) : instr_kind_2R)
  else
  if a0 = (4 : Int) then
    some (.r0 (([(97 : Int), (100 : Int), (100 : Int)] : List Int)) ((1 : Int)) ((1 : Int)) ((1 : Int)) : instr_kind_2R)
  else
  if a0 = (5 : Int) then
    some (.r0 (([(115 : Int), (117 : Int), (98 : Int)] : List Int)) ((1 : Int)) ((1 : Int)) ((1 : Int)) : instr_kind_2R)
  else
  if a0 = (6 : Int) then
    some (.r0 (([(108 : Int), (101 : Int), (115 : Int), (115 : Int)] : List Int)) ((1 : Int)) ((1 : Int)) ((1 : Int)) : instr_kind_2R)
  else
  if a0 = (7 : Int) then
    some (.r0 (([(101 : Int), (113 : Int)] : List Int)) ((1 : Int)) ((1 : Int)) ((1 : Int)) : instr_kind_2R)
  else
  if a0 = (8 : Int) then
    some (.r0 (([(106 : Int), (117 : Int), (109 : Int), (112 : Int)] : List Int)) ((4 : Int)) ((0 : Int)) ((0 : Int)) : instr_kind_2R)
  else
  if a0 = (9 : Int) then
    some (.r0 (([(106 : Int), (117 : Int), (109 : Int), (112 : Int), (122 : Int)] : List Int)) ((1 : Int)) ((4 : Int)) ((0 : Int)) : instr_kind_2R)
  else
  if a0 = (10 : Int) then
    some (.r0 (([(114 : Int), (111 : Int), (111 : Int), (116 : Int)] : List Int)) ((1 : Int)) ((0 : Int)) ((0 : Int)) : instr_kind_2R)
  else
  if a0 = (11 : Int) then
    some (.r0 (([(110 : Int), (101 : Int), (119 : Int)] : List Int)) ((1 : Int)) ((3 : Int)) ((5 : Int)) : instr_kind_2R)
  else
  if a0 = (12 : Int) then
    some (.r0 (([(102 : Int), (114 : Int), (101 : Int), (101 : Int)] : List Int)) ((1 : Int)) ((0 : Int)) ((0 : Int)) : instr_kind_2R)
  else
  if a0 = (13 : Int) then
    some (.r0 (([(103 : Int), (101 : Int), (116 : Int)] : List Int)) ((1 : Int)) ((1 : Int)) ((2 : Int)) : instr_kind_2R)
  else
  if a0 = (14 : Int) then
    some (.r0 (([(115 : Int), (101 : Int), (116 : Int)] : List Int)) ((1 : Int)) ((2 : Int)) ((1 : Int)) : instr_kind_2R)
  else
  if a0 = (15 : Int) then
    some (.r0 (([(98 : Int), (101 : Int), (103 : Int), (105 : Int), (110 : Int)] : List Int)) ((0 : Int)) ((0 : Int)) ((0 : Int)) : instr_kind_2R)
  else
  if a0 = (16 : Int) then
    some (.r0 (([(101 : Int), (108 : Int), (115 : Int), (101 : Int)] : List Int)) ((0 : Int)) ((0 : Int)) ((0 : Int)) : instr_kind_2R)
  else
  if a0 = (17 : Int) then
    some (.r0 (([(101 : Int), (110 : Int), (100 : Int)] : List Int)) ((0 : Int)) ((0 : Int)) ((0 : Int)) : instr_kind_2R)
  else
  if a0 = (18 : Int) then
    some (.r0 (([(114 : Int), (101 : Int), (116 : Int), (114 : Int), (121 : Int)] : List Int)) ((0 : Int)) ((0 : Int)) ((0 : Int)) : instr_kind_2R)
  else
  if a0 = (19 : Int) then
    some (.r0 (([(101 : Int), (109 : Int), (105 : Int), (116 : Int)] : List Int)) ((1 : Int)) ((0 : Int)) ((0 : Int)) : instr_kind_2R)
  else
  some (.r0 (([(104 : Int), (97 : Int), (108 : Int), (116 : Int)] : List Int)) ((0 : Int)) ((0 : Int)) ((0 : Int)) : instr_kind_2R)

/-- (gantlet/instr.shape).width -/
inductive instr_shape_widthR where
  | r0 (w0 : Int)

def instr_shape_width (a0 : Int) (N : Nat) : Option instr_shape_widthR :=
  if a0 = (1 : Int) then
    some (.r0 ((1 : Int)) : instr_shape_widthR)
  else
  if a0 = (2 : Int) then
    some (.r0 ((1 : Int)) : instr_shape_widthR)
  else
  if a0 = (3 : Int) then
    some (.r0 ((1 : Int)) : instr_shape_widthR)
  else
  if a0 = (4 : Int) then
    some (.r0 ((2 : Int)) : instr_shape_widthR)
  else
  if a0 = (5 : Int) then
    some (.r0 ((3 : Int)) : instr_shape_widthR)
  else
  if a0 = (6 : Int) then
    some (.r0 ((8 : Int)) : instr_shape_widthR)
  else
  some (.r0 ((0 : Int)) : instr_shape_widthR)

/-- gantlet/instr.Encode -/
inductive instr_EncodeR where
  | r0 (w0 : Int)
  | r1 (w0 : List Int)

inductive instr_EncodeX where
  | h1m0 (v1 : Int) (v2 : Int) (v3 : Int)
  | h1m1 (v0 : List Int) (v1 : Int) (v2 : Int) (v3 : Int)
  | h1m2 (v0 : List Int) (v1 : Int) (v2 : Int) (v3 : Int)
  | h1m3 (v0 : List Int) (v1 : Int) (v2 : Int) (v3 : Int)
  | h2m0 (v0 : List Int) (v1 : Int) (v2 : Int) (v3 : Int) (v4 : Int)
  | h2m1 (v0 : List Int) (v1 : Int) (v2 : Int) (v3 : Int) (v4 : Int)
  | h2m2 (v0 : List Int) (v1 : Int) (v2 : Int) (v3 : Int) (v4 : Int)

def instr_Encode_h1m0 (a0 : Int) (a1 : Int) (a2 : Int) (a3 : Int) (N : Nat) (v1 : Int) (v2 : Int) (v3 : Int) : Option (instr_EncodeX ⊕ instr_EncodeR) :=
  ((instr_shape_width (v1) N).bind fun r => match r with
  | .r0 y0_0 =>
    some (.inl (.h2m0 (([(IntKind.u8.wrap a0)] : List Int)) ((IntKind.i64.wrap ((8 : Int) * (IntKind.i64.wrap (y0_0 - (1 : Int)))))) (v1) (v2) (v3) : instr_EncodeX))
  )

def instr_Encode_h1m1 (a0 : Int) (a1 : Int) (a2 : Int) (a3 : Int) (N : Nat) (v0 : List Int) (v1 : Int) (v2 : Int) (v3 : Int) : Option (instr_EncodeX ⊕ instr_EncodeR) :=
  ((instr_shape_width (v2) N).bind fun r => match r with
  | .r0 y0_0 =>
    some (.inl (.h2m1 (v0) ((IntKind.i64.wrap ((8 : Int) * (IntKind.i64.wrap (y0_0 - (1 : Int)))))) (v1) (v2) (v3) : instr_EncodeX))
  )

def instr_Encode_h1m2 (a0 : Int) (a1 : Int) (a2 : Int) (a3 : Int) (N : Nat) (v0 : List Int) (v1 : Int) (v2 : Int) (v3 : Int) : Option (instr_EncodeX ⊕ instr_EncodeR) :=
  ((instr_shape_width (v3) N).bind fun r => match r with
  | .r0 y0_0 =>
    some (.inl (.h2m2 (v0) ((IntKind.i64.wrap ((8 : Int) * (IntKind.i64.wrap (y0_0 - (1 : Int)))))) (v1) (v2) (v3) : instr_EncodeX))
  )

def instr_Encode_h1m3 (a0 : Int) (a1 : Int) (a2 : Int) (a3 : Int) (N : Nat) (v0 : List Int) (v1 : Int) (v2 : Int) (v3 : Int) : Option (instr_EncodeX ⊕ instr_EncodeR) :=
  some (.inr (.r1 (v0) : instr_EncodeR))

def instr_Encode_h2m0 (a0 : Int) (a1 : Int) (a2 : Int) (a3 : Int) (N : Nat) (v0 : List Int) (v1 : Int) (v2 : Int) (v3 : Int) (v4 : Int) : Option (instr_EncodeX ⊕ instr_EncodeR) :=
  if (0 : Int) ≤ v1 then
    if v1 ≤ (64 : Int) then
      if v0.length ≤ 100000 then
        some (.inl (.h2m0 ((v0 ++ ([(IntKind.u8.wrap ((IntKind.u64.wrap a1) / (2 ^ (v1).toNat : Int)))] : List Int))) ((v1 - (8 : Int))) (v2) (v3) (v4) : instr_EncodeX))
      else
      none
    else
    none
  else
  some (.inl (.h1m1 (v0) (v2) (v3) (v4) : instr_EncodeX))

def instr_Encode_h2m1 (a0 : Int) (a1 : Int) (a2 : Int) (a3 : Int) (N : Nat) (v0 : List Int) (v1 : Int) (v2 : Int) (v3 : Int) (v4 : Int) : Option (instr_EncodeX ⊕ instr_EncodeR) :=
  if (0 : Int) ≤ v1 then
    if v1 ≤ (64 : Int) then
      if v0.length ≤ 100000 then
        some (.inl (.h2m1 ((v0 ++ ([(IntKind.u8.wrap ((IntKind.u64.wrap a2) / (2 ^ (v1).toNat : Int)))] : List Int))) ((v1 - (8 : Int))) (v2) (v3) (v4) : instr_EncodeX))
      else
      none
    else
    none
  else
  some (.inl (.h1m2 (v0) (v2) (v3) (v4) : instr_EncodeX))

def instr_Encode_h2m2 (a0 : Int) (a1 : Int) (a2 : Int) (a3 : Int) (N : Nat) (v0 : List Int) (v1 : Int) (v2 : Int) (v3 : Int) (v4 : Int) : Option (instr_EncodeX ⊕ instr_EncodeR) :=
  if (0 : Int) ≤ v1 then
    if v1 ≤ (64 : Int) then
      if v0.length ≤ 100000 then
        some (.inl (.h2m2 ((v0 ++ ([(IntKind.u8.wrap ((IntKind.u64.wrap a3) / (2 ^ (v1).toNat : Int)))] : List Int))) ((v1 - (8 : Int))) (v2) (v3) (v4) : instr_EncodeX))
      else
      none
    else
    none
  else
  some (.inl (.h1m3 (v0) (v2) (v3) (v4) : instr_EncodeX))

def instr_EncodeStep (a0 : Int) (a1 : Int) (a2 : Int) (a3 : Int) (N : Nat) : instr_EncodeX → Option (instr_EncodeX ⊕ instr_EncodeR)
  | .h1m0 v1 v2 v3 => instr_Encode_h1m0 a0 a1 a2 a3 N v1 v2 v3
  | .h1m1 v0 v1 v2 v3 => instr_Encode_h1m1 a0 a1 a2 a3 N v0 v1 v2 v3
  | .h1m2 v0 v1 v2 v3 => instr_Encode_h1m2 a0 a1 a2 a3 N v0 v1 v2 v3
  | .h1m3 v0 v1 v2 v3 => instr_Encode_h1m3 a0 a1 a2 a3 N v0 v1 v2 v3
  | .h2m0 v0 v1 v2 v3 v4 => instr_Encode_h2m0 a0 a1 a2 a3 N v0 v1 v2 v3 v4
  | .h2m1 v0 v1 v2 v3 v4 => instr_Encode_h2m1 a0 a1 a2 a3 N v0 v1 v2 v3 v4
  | .h2m2 v0 v1 v2 v3 v4 => instr_Encode_h2m2 a0 a1 a2 a3 N v0 v1 v2 v3 v4

def instr_EncodeIn (a0 : Int) (a1 : Int) (a2 : Int) (a3 : Int) (N : Nat) : Option (instr_EncodeX ⊕ instr_EncodeR) :=
  ((instr_Check (a0) (a1) (a2) (a3) N).bind fun r => match r with
  | .r0 y0_0 =>
    if ¬ (y0_0 = (0 : Int)) then
      some (.inr (.r0 (y0_0) : instr_EncodeR))
    else
    ((instr_kind_2 (a0) N).bind fun r => match r with
    | .r0 y2_0 y2_1 y2_2 y2_3 =>
      some (.inl (.h1m0 (y2_1) (y2_2) (y2_3) : instr_EncodeX))
    )
  )

def instr_Encode (a0 : Int) (a1 : Int) (a2 : Int) (a3 : Int) (N : Nat) : Option instr_EncodeR := goM (instr_EncodeStep a0 a1 a2 a3 N) N (instr_EncodeIn a0 a1 a2 a3 N)

/-- gantlet/instr.join -/
inductive instr_joinR where
  | r0 (w1 : Int)

inductive instr_joinX where
  | h1m0 (v1 : Int) (v6 : Nat)

def instr_join_h1m0 (L0 : List Int) (n1 : Nat) (n2 : Nat) (n3 : Nat) (N : Nat) (v1 : Int) (v6 : Nat) : Option (instr_joinX ⊕ instr_joinR) :=
  if ((v6 : Nat) : Int) < ((n2 : Nat) : Int) then
    if (v6 + n1) < L0.length then
      if (0 : Int) ≤ (L0.getD (v6 + n1) 0) then
        if (L0.getD (v6 + n1) 0) ≤ (18446744073709551615 : Int) then
          if (((v6 + 1) : Nat) : Int) ≤ (9223372036854775807 : Int) then
            some (.inl (.h1m0 ((IntKind.u64.wrap (((BitVec.ofInt IntKind.u64.bits (IntKind.u64.wrap (v1 * (2 ^ 8 : Int))) ||| BitVec.ofInt IntKind.u64.bits (L0.getD (v6 + n1) 0)).toNat : Nat) : Int))) ((v6 + 1)) : instr_joinX))
          else
          none
        else
        none
      else
      none
    else
    none
  else
  some (.inr (.r0 ((IntKind.i64.wrap v1)) : instr_joinR))

def instr_joinStep (L0 : List Int) (n1 : Nat) (n2 : Nat) (n3 : Nat) (N : Nat) : instr_joinX → Option (instr_joinX ⊕ instr_joinR)
  | .h1m0 v1 v6 => instr_join_h1m0 L0 n1 n2 n3 N v1 v6

def instr_joinIn (L0 : List Int) (n1 : Nat) (n2 : Nat) (n3 : Nat) (N : Nat) : Option (instr_joinX ⊕ instr_joinR) :=
  some (.inl (.h1m0 ((0 : Int)) (0) : instr_joinX))

def instr_join (L0 : List Int) (n1 : Nat) (n2 : Nat) (n3 : Nat) (N : Nat) : Option instr_joinR := goM (instr_joinStep L0 n1 n2 n3 N) N (instr_joinIn L0 n1 n2 n3 N)

/-- gantlet/instr.Decode -/
inductive instr_DecodeR where
  | r0 (w5 : Int)
  | r1 (w2 : Int) (w3 : Int) (w4 : Int) (w5 : List Int)

inductive instr_DecodeX where
  | h1m0 (v6 : Int) (v7 : Int) (v8 : Int)
  | h1m1 (v3 : Nat) (v4 : Nat) (v5 : Nat) (v6 : Int) (v7 : Int) (v8 : Int) (v13 : Int)
  | h1m2 (v3 : Nat) (v4 : Nat) (v5 : Nat) (v6 : Int) (v7 : Int) (v8 : Int) (v13 : Int) (v14 : Int)
  | h1m3 (v3 : Nat) (v4 : Nat) (v5 : Nat) (v6 : Int) (v7 : Int) (v8 : Int) (v13 : Int) (v14 : Int) (v15 : Int)

def instr_Decode_h1m0 (L0 : List Int) (n1 : Nat) (n2 : Nat) (N : Nat) (v6 : Int) (v7 : Int) (v8 : Int) : Option (instr_DecodeX ⊕ instr_DecodeR) :=
  ((instr_shape_width (v6) N).bind fun r => match r with
  | .r0 y0_0 =>
    if (((n1 - 1) : Nat) : Int) < y0_0 then
      some (.inr (.r0 ((6 : Int)) : instr_DecodeR))
    else
    ((instr_shape_width (v6) N).bind fun r => match r with
    | .r0 y2_0 =>
      if (0 : Int) ≤ y2_0 then
        if y2_0 ≤ (((n2 - 1) : Nat) : Int) then
          ((instr_join (L0) (1) (((y2_0).toNat - 0)) (((n2 - 1) - 0)) N).bind fun r => match r with
          | .r0 y5_0 =>
            ((instr_shape_width (v6) N).bind fun r => match r with
            | .r0 y6_0 =>
              if (0 : Int) ≤ y6_0 then
                if y6_0 ≤ (((n1 - 1) : Nat) : Int) then
                  if (((n1 - 1) : Nat) : Int) ≤ (((n2 - 1) : Nat) : Int) then
                    some (.inl (.h1m1 (((y6_0).toNat + 1)) (((n1 - 1) - (y6_0).toNat)) (((n2 - 1) - (y6_0).toNat)) (v6) (v7) (v8) (y5_0) : instr_DecodeX))
                  else
                  none
                else
                none
              else
              none
            )
          )
        else
        none
      else
      none
    )
  )

def instr_Decode_h1m1 (L0 : List Int) (n1 : Nat) (n2 : Nat) (N : Nat) (v3 : Nat) (v4 : Nat) (v5 : Nat) (v6 : Int) (v7 : Int) (v8 : Int) (v13 : Int) : Option (instr_DecodeX ⊕ instr_DecodeR) :=
  ((instr_shape_width (v7) N).bind fun r => match r with
  | .r0 y0_0 =>
    if ((v4 : Nat) : Int) < y0_0 then
      some (.inr (.r0 ((6 : Int)) : instr_DecodeR))
    else
    ((instr_shape_width (v7) N).bind fun r => match r with
    | .r0 y2_0 =>
      if (0 : Int) ≤ y2_0 then
        if y2_0 ≤ ((v5 : Nat) : Int) then
          ((instr_join (L0) (v3) (((y2_0).toNat - 0)) ((v5 - 0)) N).bind fun r => match r with
          | .r0 y5_0 =>
            ((instr_shape_width (v7) N).bind fun r => match r with
            | .r0 y6_0 =>
              if (0 : Int) ≤ y6_0 then
                if y6_0 ≤ ((v4 : Nat) : Int) then
                  if ((v4 : Nat) : Int) ≤ ((v5 : Nat) : Int) then
                    some (.inl (.h1m2 (((y6_0).toNat + v3)) ((v4 - (y6_0).toNat)) ((v5 - (y6_0).toNat)) (v6) (v7) (v8) (v13) (y5_0) : instr_DecodeX))
                  else
                  none
                else
                none
              else
              none
            )
          )
        else
        none
      else
      none
    )
  )

def instr_Decode_h1m2 (L0 : List Int) (n1 : Nat) (n2 : Nat) (N : Nat) (v3 : Nat) (v4 : Nat) (v5 : Nat) (v6 : Int) (v7 : Int) (v8 : Int) (v13 : Int) (v14 : Int) : Option (instr_DecodeX ⊕ instr_DecodeR) :=
  ((instr_shape_width (v8) N).bind fun r => match r with
  | .r0 y0_0 =>
    if ((v4 : Nat) : Int) < y0_0 then
      some (.inr (.r0 ((6 : Int)) : instr_DecodeR))
    else
    ((instr_shape_width (v8) N).bind fun r => match r with
    | .r0 y2_0 =>
      if (0 : Int) ≤ y2_0 then
        if y2_0 ≤ ((v5 : Nat) : Int) then
          ((instr_join (L0) (v3) (((y2_0).toNat - 0)) ((v5 - 0)) N).bind fun r => match r with
          | .r0 y5_0 =>
            ((instr_shape_width (v8) N).bind fun r => match r with
            | .r0 y6_0 =>
              if (0 : Int) ≤ y6_0 then
                if y6_0 ≤ ((v4 : Nat) : Int) then
                  if ((v4 : Nat) : Int) ≤ ((v5 : Nat) : Int) then
                    some (.inl (.h1m3 (((y6_0).toNat + v3)) ((v4 - (y6_0).toNat)) ((v5 - (y6_0).toNat)) (v6) (v7) (v8) (v13) (v14) (y5_0) : instr_DecodeX))
                  else
                  none
                else
                none
              else
              none
            )
          )
        else
        none
      else
      none
    )
  )

def instr_Decode_h1m3 (L0 : List Int) (n1 : Nat) (n2 : Nat) (N : Nat) (v3 : Nat) (v4 : Nat) (v5 : Nat) (v6 : Int) (v7 : Int) (v8 : Int) (v13 : Int) (v14 : Int) (v15 : Int) : Option (instr_DecodeX ⊕ instr_DecodeR) :=
  if 0 < n1 then
    if 0 < L0.length then
      if (-9223372036854775808 : Int) ≤ (L0.getD 0 0) then
        if (L0.getD 0 0) ≤ (9223372036854775807 : Int) then
          ((instr_Check ((L0.getD 0 0)) (v13) (v14) (v15) N).bind fun r => match r with
          | .r0 y4_0 =>
            if ¬ (y4_0 = (0 : Int)) then
              some (.inr (.r0 (y4_0) : instr_DecodeR))
            else
            if v4 = 0 then
              some (.inr (.r1 (v13) (v14) (v15) (([] : List Int)) : instr_DecodeR))
            else
            if v4 ≤ 100000 then
              if (v3 + v4) ≤ L0.length then
                some (.inr (.r1 (v13) (v14) (v15) (((L0.drop v3).take v4)) : instr_DecodeR))
              else
              none
            else
            none
          )
        else
        none
      else
      none
    else
    none
  else
  none

def instr_DecodeStep (L0 : List Int) (n1 : Nat) (n2 : Nat) (N : Nat) : instr_DecodeX → Option (instr_DecodeX ⊕ instr_DecodeR)
  | .h1m0 v6 v7 v8 => instr_Decode_h1m0 L0 n1 n2 N v6 v7 v8
  | .h1m1 v3 v4 v5 v6 v7 v8 v13 => instr_Decode_h1m1 L0 n1 n2 N v3 v4 v5 v6 v7 v8 v13
  | .h1m2 v3 v4 v5 v6 v7 v8 v13 v14 => instr_Decode_h1m2 L0 n1 n2 N v3 v4 v5 v6 v7 v8 v13 v14
  | .h1m3 v3 v4 v5 v6 v7 v8 v13 v14 v15 => instr_Decode_h1m3 L0 n1 n2 N v3 v4 v5 v6 v7 v8 v13 v14 v15

def instr_DecodeIn (L0 : List Int) (n1 : Nat) (n2 : Nat) (N : Nat) : Option (instr_DecodeX ⊕ instr_DecodeR) :=
  if ((n1 : Nat) : Int) = (0 : Int) then
    some (.inr (.r0 ((6 : Int)) : instr_DecodeR))
  else
  if 0 < L0.length then
    if (-9223372036854775808 : Int) ≤ (L0.getD 0 0) then
      if (L0.getD 0 0) ≤ (9223372036854775807 : Int) then
        ((instr_kind_2 ((L0.getD 0 0)) N).bind fun r => match r with
        | .r0 y4_0 y4_1 y4_2 y4_3 =>
          if (strB y4_0 ([] : List Int)) = true then
            some (.inr (.r0 ((100 : Int)) : instr_DecodeR))
          else
          if ((n1 : Nat) : Int) ≤ ((n2 : Nat) : Int) then
            some (.inl (.h1m0 (y4_1) (y4_2) (y4_3) : instr_DecodeX))
          else
          none
        )
      else
      none
    else
    none
  else
  none

def instr_Decode (L0 : List Int) (n1 : Nat) (n2 : Nat) (N : Nat) : Option instr_DecodeR := goM (instr_DecodeStep L0 n1 n2 N) N (instr_DecodeIn L0 n1 n2 N)

/-- gantlet/instr.join -/
inductive instr_join_2R where
  | r0 (w2 : Int)

inductive instr_join_2X where
  | h1m0 (v2 : Int) (v7 : Nat)

def instr_join_2_h1m0 (L1 : List Int) (n2 : Nat) (n3 : Nat) (n4 : Nat) (N : Nat) (v2 : Int) (v7 : Nat) : Option (instr_join_2X ⊕ instr_join_2R) :=
  if ((v7 : Nat) : Int) < ((n3 : Nat) : Int) then
    if (v7 + n2) < L1.length then
      if (0 : Int) ≤ (L1.getD (v7 + n2) 0) then
        if (L1.getD (v7 + n2) 0) ≤ (18446744073709551615 : Int) then
          if (((v7 + 1) : Nat) : Int) ≤ (9223372036854775807 : Int) then
            some (.inl (.h1m0 ((IntKind.u64.wrap (((BitVec.ofInt IntKind.u64.bits (IntKind.u64.wrap (v2 * (2 ^ 8 : Int))) ||| BitVec.ofInt IntKind.u64.bits (L1.getD (v7 + n2) 0)).toNat : Nat) : Int))) ((v7 + 1)) : instr_join_2X))
          else
          none
        else
        none
      else
      none
    else
    none
  else
  some (.inr (.r0 ((IntKind.i64.wrap v2)) : instr_join_2R))

def instr_join_2Step (L1 : List Int) (n2 : Nat) (n3 : Nat) (n4 : Nat) (N : Nat) : instr_join_2X → Option (instr_join_2X ⊕ instr_join_2R)
  | .h1m0 v2 v7 => instr_join_2_h1m0 L1 n2 n3 n4 N v2 v7

def instr_join_2In (L1 : List Int) (n2 : Nat) (n3 : Nat) (n4 : Nat) (N : Nat) : Option (instr_join_2X ⊕ instr_join_2R) :=
  some (.inl (.h1m0 ((0 : Int)) (0) : instr_join_2X))

def instr_join_2 (L1 : List Int) (n2 : Nat) (n3 : Nat) (n4 : Nat) (N : Nat) : Option instr_join_2R := goM (instr_join_2Step L1 n2 n3 n4 N) N (instr_join_2In L1 n2 n3 n4 N)

/-- gantlet/instr.Decode -/
inductive instr_Decode_2R where
  | r0 (w6 : Int)
  | r1 (w3 : Int) (w4 : Int) (w5 : Int) (w6 : List Int)

inductive instr_Decode_2X where
  | h1m0 (v7 : Int) (v8 : Int) (v9 : Int)
  | h1m1 (v4 : Nat) (v5 : Nat) (v6 : Nat) (v7 : Int) (v8 : Int) (v9 : Int) (v14 : Int)
  | h1m2 (v4 : Nat) (v5 : Nat) (v6 : Nat) (v7 : Int) (v8 : Int) (v9 : Int) (v14 : Int) (v15 : Int)
  | h1m3 (v4 : Nat) (v5 : Nat) (v6 : Nat) (v7 : Int) (v8 : Int) (v9 : Int) (v14 : Int) (v15 : Int) (v16 : Int)

def instr_Decode_2_h1m0 (L1 : List Int) (n2 : Nat) (n3 : Nat) (N : Nat) (v7 : Int) (v8 : Int) (v9 : Int) : Option (instr_Decode_2X ⊕ instr_Decode_2R) :=
  ((instr_shape_width (v7) N).bind fun r => match r with
  | .r0 y0_0 =>
    if (((n2 - 1) : Nat) : Int) < y0_0 then
      some (.inr (.r0 ((6 : Int)) : instr_Decode_2R))
    else
    ((instr_shape_width (v7) N).bind fun r => match r with
    | .r0 y2_0 =>
      if (0 : Int) ≤ y2_0 then
        if y2_0 ≤ (((n3 - 1) : Nat) : Int) then
          ((instr_join_2 (L1) (1) (((y2_0).toNat - 0)) (((n3 - 1) - 0)) N).bind fun r => match r with
          | .r0 y5_0 =>
            ((instr_shape_width (v7) N).bind fun r => match r with
            | .r0 y6_0 =>
              if (0 : Int) ≤ y6_0 then
                if y6_0 ≤ (((n2 - 1) : Nat) : Int) then
                  if (((n2 - 1) : Nat) : Int) ≤ (((n3 - 1) : Nat) : Int) then
                    some (.inl (.h1m1 (((y6_0).toNat + 1)) (((n2 - 1) - (y6_0).toNat)) (((n3 - 1) - (y6_0).toNat)) (v7) (v8) (v9) (y5_0) : instr_Decode_2X))
                  else
                  none
                else
                none
              else
              none
            )
          )
        else
        none
      else
      none
    )
  )

def instr_Decode_2_h1m1 (L1 : List Int) (n2 : Nat) (n3 : Nat) (N : Nat) (v4 : Nat) (v5 : Nat) (v6 : Nat) (v7 : Int) (v8 : Int) (v9 : Int) (v14 : Int) : Option (instr_Decode_2X ⊕ instr_Decode_2R) :=
  ((instr_shape_width (v8) N).bind fun r => match r with
  | .r0 y0_0 =>
    if ((v5 : Nat) : Int) < y0_0 then
      some (.inr (.r0 ((6 : Int)) : instr_Decode_2R))
    else
    ((instr_shape_width (v8) N).bind fun r => match r with
    | .r0 y2_0 =>
      if (0 : Int) ≤ y2_0 then
        if y2_0 ≤ ((v6 : Nat) : Int) then
          ((instr_join_2 (L1) (v4) (((y2_0).toNat - 0)) ((v6 - 0)) N).bind fun r => match r with
          | .r0 y5_0 =>
            ((instr_shape_width (v8) N).bind fun r => match r with
            | .r0 y6_0 =>
              if (0 : Int) ≤ y6_0 then
                if y6_0 ≤ ((v5 : Nat) : Int) then
                  if ((v5 : Nat) : Int) ≤ ((v6 : Nat) : Int) then
                    some (.inl (.h1m2 (((y6_0).toNat + v4)) ((v5 - (y6_0).toNat)) ((v6 - (y6_0).toNat)) (v7) (v8) (v9) (v14) (y5_0) : instr_Decode_2X))
                  else
                  none
                else
                none
              else
              none
            )
          )
        else
        none
      else
      none
    )
  )

def instr_Decode_2_h1m2 (L1 : List Int) (n2 : Nat) (n3 : Nat) (N : Nat) (v4 : Nat) (v5 : Nat) (v6 : Nat) (v7 : Int) (v8 : Int) (v9 : Int) (v14 : Int) (v15 : Int) : Option (instr_Decode_2X ⊕ instr_Decode_2R) :=
  ((instr_shape_width (v9) N).bind fun r => match r with
  | .r0 y0_0 =>
    if ((v5 : Nat) : Int) < y0_0 then
      some (.inr (.r0 ((6 : Int)) : instr_Decode_2R))
    else
    ((instr_shape_width (v9) N).bind fun r => match r with
    | .r0 y2_0 =>
      if (0 : Int) ≤ y2_0 then
        if y2_0 ≤ ((v6 : Nat) : Int) then
          ((instr_join_2 (L1) (v4) (((y2_0).toNat - 0)) ((v6 - 0)) N).bind fun r => match r with
          | .r0 y5_0 =>
            ((instr_shape_width (v9) N).bind fun r => match r with
            | .r0 y6_0 =>
              if (0 : Int) ≤ y6_0 then
                if y6_0 ≤ ((v5 : Nat) : Int) then
                  if ((v5 : Nat) : Int) ≤ ((v6 : Nat) : Int) then
                    some (.inl (.h1m3 (((y6_0).toNat + v4)) ((v5 - (y6_0).toNat)) ((v6 - (y6_0).toNat)) (v7) (v8) (v9) (v14) (v15) (y5_0) : instr_Decode_2X))
                  else
                  none
                else
                none
              else
              none
            )
          )
        else
        none
      else
      none
    )
  )

def instr_Decode_2_h1m3 (L1 : List Int) (n2 : Nat) (n3 : Nat) (N : Nat) (v4 : Nat) (v5 : Nat) (v6 : Nat) (v7 : Int) (v8 : Int) (v9 : Int) (v14 : Int) (v15 : Int) (v16 : Int) : Option (instr_Decode_2X ⊕ instr_Decode_2R) :=
  if 0 < n2 then
    if 0 < L1.length then
      if (-9223372036854775808 : Int) ≤ (L1.getD 0 0) then
        if (L1.getD 0 0) ≤ (9223372036854775807 : Int) then
          ((instr_Check ((L1.getD 0 0)) (v14) (v15) (v16) N).bind fun r => match r with
          | .r0 y4_0 =>
            if ¬ (y4_0 = (0 : Int)) then
              some (.inr (.r0 (y4_0) : instr_Decode_2R))
            else
            if v5 = 0 then
              some (.inr (.r1 (v14) (v15) (v16) (([] : List Int)) : instr_Decode_2R))
            else
            if v5 ≤ 100000 then
              if (v4 + v5) ≤ L1.length then
                some (.inr (.r1 (v14) (v15) (v16) (((L1.drop v4).take v5)) : instr_Decode_2R))
              else
              none
            else
            none
          )
        else
        none
      else
      none
    else
    none
  else
  none

def instr_Decode_2Step (L1 : List Int) (n2 : Nat) (n3 : Nat) (N : Nat) : instr_Decode_2X → Option (instr_Decode_2X ⊕ instr_Decode_2R)
  | .h1m0 v7 v8 v9 => instr_Decode_2_h1m0 L1 n2 n3 N v7 v8 v9
  | .h1m1 v4 v5 v6 v7 v8 v9 v14 => instr_Decode_2_h1m1 L1 n2 n3 N v4 v5 v6 v7 v8 v9 v14
  | .h1m2 v4 v5 v6 v7 v8 v9 v14 v15 => instr_Decode_2_h1m2 L1 n2 n3 N v4 v5 v6 v7 v8 v9 v14 v15
  | .h1m3 v4 v5 v6 v7 v8 v9 v14 v15 v16 => instr_Decode_2_h1m3 L1 n2 n3 N v4 v5 v6 v7 v8 v9 v14 v15 v16

def instr_Decode_2In (L1 : List Int) (n2 : Nat) (n3 : Nat) (N : Nat) : Option (instr_Decode_2X ⊕ instr_Decode_2R) :=
  if ((n2 : Nat) : Int) = (0 : Int) then
    some (.inr (.r0 ((6 : Int)) : instr_Decode_2R))
  else
  if 0 < L1.length then
    if (-9223372036854775808 : Int) ≤ (L1.getD 0 0) then
      if (L1.getD 0 0) ≤ (9223372036854775807 : Int) then
        ((instr_kind_2 ((L1.getD 0 0)) N).bind fun r => match r with
        | .r0 y4_0 y4_1 y4_2 y4_3 =>
          if (strB y4_0 ([] : List Int)) = true then
            some (.inr (.r0 ((100 : Int)) : instr_Decode_2R))
          else
          if ((n2 : Nat) : Int) ≤ ((n3 : Nat) : Int) then
            some (.inl (.h1m0 (y4_1) (y4_2) (y4_3) : instr_Decode_2X))
          else
          none
        )
      else
      none
    else
    none
  else
  none

def instr_Decode_2 (L1 : List Int) (n2 : Nat) (n3 : Nat) (N : Nat) : Option instr_Decode_2R := goM (instr_Decode_2Step L1 n2 n3 N) N (instr_Decode_2In L1 n2 n3 N)

/-- gantlet/gantletlaw10.InstrBack -/
inductive law10_InstrBackR where
  | r0 (w2 : Bool)

inductive law10_InstrBackX where
  | h1m0 (v2 : Nat) (v3 : Nat)
  | h2m0 (v2 : Nat) (v3 : Nat)
  | h2m1 (v2 : Nat) (v3 : Nat) (v4 : List Int) (v5 : Nat)
  | h3m0 (v2 : Nat) (v3 : Nat)

def law10_InstrBack_h1m0 (a0 : Int) (a1 : Int) (a2 : Int) (a3 : Int) (L5 : List Int) (n6 : Nat) (n7 : Nat) (N : Nat) (v2 : Nat) (v3 : Nat) : Option (law10_InstrBackX ⊕ law10_InstrBackR) :=
  ((instr_Encode (a0) (a1) (a2) (a3) N).bind fun r => match r with
  | .r0 y0_0 =>
    if y0_0 = (0 : Int) then
      if v2 = 0 then
        ((instr_Decode (([] : List Int)) (0) (0) N).bind fun r => match r with
        | .r0 y3_0 =>
          if ¬ (y3_0 = (0 : Int)) then
            some (.inr (.r0 (false) : law10_InstrBackR))
          else
          if ¬ (((0 : Int) = a0 ∧ (0 : Int) = a1 ∧ (0 : Int) = a2 ∧ (0 : Int) = a3)) then
            some (.inr (.r0 (false) : law10_InstrBackR))
          else
          if ¬ ((strB ([] : List Int) (L5.take v2)) = true) then
            some (.inr (.r0 (false) : law10_InstrBackR))
          else
          some (.inl (.h2m0 (v2) (v3) : law10_InstrBackX))
        | .r1 y3_0 y3_1 y3_2 y3_3 =>
          if ¬ (((([] : List Int).getD 0 0) = a0 ∧ y3_0 = a1 ∧ y3_1 = a2 ∧ y3_2 = a3)) then
            some (.inr (.r0 (false) : law10_InstrBackR))
          else
          if ¬ ((strB y3_3 (L5.take v2)) = true) then
            some (.inr (.r0 (false) : law10_InstrBackR))
          else
          some (.inl (.h2m0 (v2) (v3) : law10_InstrBackX))
        )
      else
      if v2 ≤ 100000 then
        if v2 ≤ L5.length then
          ((instr_Decode ((L5.take v2)) ((0 + v2)) ((0 + v2)) N).bind fun r => match r with
          | .r0 y5_0 =>
            if ¬ (y5_0 = (0 : Int)) then
              some (.inr (.r0 (false) : law10_InstrBackR))
            else
            if ¬ (((0 : Int) = a0 ∧ (0 : Int) = a1 ∧ (0 : Int) = a2 ∧ (0 : Int) = a3)) then
              some (.inr (.r0 (false) : law10_InstrBackR))
            else
            if ¬ ((strB ([] : List Int) (L5.take v2)) = true) then
              some (.inr (.r0 (false) : law10_InstrBackR))
            else
            some (.inl (.h2m0 (v2) (v3) : law10_InstrBackX))
          | .r1 y5_0 y5_1 y5_2 y5_3 =>
            if ¬ ((((L5.take v2).getD 0 0) = a0 ∧ y5_0 = a1 ∧ y5_1 = a2 ∧ y5_2 = a3)) then
              some (.inr (.r0 (false) : law10_InstrBackR))
            else
            if ¬ ((strB y5_3 (L5.take v2)) = true) then
              some (.inr (.r0 (false) : law10_InstrBackR))
            else
            some (.inl (.h2m0 (v2) (v3) : law10_InstrBackX))
          )
        else
        none
      else
      none
    else
    some (.inl (.h3m0 (v2) (v3) : law10_InstrBackX))
  | .r1 y0_0 =>
    if y0_0.length = 0 then
      if v2 = 0 then
        ((instr_Decode (([] : List Int)) (0) (0) N).bind fun r => match r with
        | .r0 y3_0 =>
          if ¬ (y3_0 = (0 : Int)) then
            some (.inr (.r0 (false) : law10_InstrBackR))
          else
          if ¬ (((0 : Int) = a0 ∧ (0 : Int) = a1 ∧ (0 : Int) = a2 ∧ (0 : Int) = a3)) then
            some (.inr (.r0 (false) : law10_InstrBackR))
          else
          if ¬ ((strB ([] : List Int) (L5.take v2)) = true) then
            some (.inr (.r0 (false) : law10_InstrBackR))
          else
          some (.inl (.h2m1 (v2) (v3) (y0_0) (0) : law10_InstrBackX))
        | .r1 y3_0 y3_1 y3_2 y3_3 =>
          if ¬ (((([] : List Int).getD 0 0) = a0 ∧ y3_0 = a1 ∧ y3_1 = a2 ∧ y3_2 = a3)) then
            some (.inr (.r0 (false) : law10_InstrBackR))
          else
          if ¬ ((strB y3_3 (L5.take v2)) = true) then
            some (.inr (.r0 (false) : law10_InstrBackR))
          else
          some (.inl (.h2m1 (v2) (v3) (y0_0) (0) : law10_InstrBackX))
        )
      else
      if v2 ≤ 100000 then
        if v2 ≤ L5.length then
          ((instr_Decode ((L5.take v2)) ((0 + v2)) ((0 + v2)) N).bind fun r => match r with
          | .r0 y5_0 =>
            if ¬ (y5_0 = (0 : Int)) then
              some (.inr (.r0 (false) : law10_InstrBackR))
            else
            if ¬ (((0 : Int) = a0 ∧ (0 : Int) = a1 ∧ (0 : Int) = a2 ∧ (0 : Int) = a3)) then
              some (.inr (.r0 (false) : law10_InstrBackR))
            else
            if ¬ ((strB ([] : List Int) (L5.take v2)) = true) then
              some (.inr (.r0 (false) : law10_InstrBackR))
            else
            some (.inl (.h2m1 (v2) (v3) (y0_0) (0) : law10_InstrBackX))
          | .r1 y5_0 y5_1 y5_2 y5_3 =>
            if ¬ ((((L5.take v2).getD 0 0) = a0 ∧ y5_0 = a1 ∧ y5_1 = a2 ∧ y5_2 = a3)) then
              some (.inr (.r0 (false) : law10_InstrBackR))
            else
            if ¬ ((strB y5_3 (L5.take v2)) = true) then
              some (.inr (.r0 (false) : law10_InstrBackR))
            else
            some (.inl (.h2m1 (v2) (v3) (y0_0) (0) : law10_InstrBackX))
          )
        else
        none
      else
      none
    else
    if y0_0.length ≤ 100000 then
      if v2 = 0 then
        ((instr_Decode (y0_0) ((0 + y0_0.length)) ((0 + y0_0.length)) N).bind fun r => match r with
        | .r0 y4_0 =>
          if ¬ (y4_0 = (0 : Int)) then
            some (.inr (.r0 (false) : law10_InstrBackR))
          else
          if ¬ (((0 : Int) = a0 ∧ (0 : Int) = a1 ∧ (0 : Int) = a2 ∧ (0 : Int) = a3)) then
            some (.inr (.r0 (false) : law10_InstrBackR))
          else
          if ¬ ((strB ([] : List Int) (L5.take v2)) = true) then
            some (.inr (.r0 (false) : law10_InstrBackR))
          else
          some (.inl (.h2m1 (v2) (v3) (y0_0) (0) : law10_InstrBackX))
        | .r1 y4_0 y4_1 y4_2 y4_3 =>
          if ¬ (((y0_0.getD 0 0) = a0 ∧ y4_0 = a1 ∧ y4_1 = a2 ∧ y4_2 = a3)) then
            some (.inr (.r0 (false) : law10_InstrBackR))
          else
          if ¬ ((strB y4_3 (L5.take v2)) = true) then
            some (.inr (.r0 (false) : law10_InstrBackR))
          else
          some (.inl (.h2m1 (v2) (v3) (y0_0) (0) : law10_InstrBackX))
        )
      else
      if v2 ≤ 100000 then
        if v2 ≤ L5.length then
          ((instr_Decode ((y0_0 ++ (L5.take v2))) (((0 + y0_0.length) + v2)) (((0 + y0_0.length) + v2)) N).bind fun r => match r with
          | .r0 y6_0 =>
            if ¬ (y6_0 = (0 : Int)) then
              some (.inr (.r0 (false) : law10_InstrBackR))
            else
            if ¬ (((0 : Int) = a0 ∧ (0 : Int) = a1 ∧ (0 : Int) = a2 ∧ (0 : Int) = a3)) then
              some (.inr (.r0 (false) : law10_InstrBackR))
            else
            if ¬ ((strB ([] : List Int) (L5.take v2)) = true) then
              some (.inr (.r0 (false) : law10_InstrBackR))
            else
            some (.inl (.h2m1 (v2) (v3) (y0_0) (0) : law10_InstrBackX))
          | .r1 y6_0 y6_1 y6_2 y6_3 =>
            if ¬ ((((y0_0 ++ (L5.take v2)).getD 0 0) = a0 ∧ y6_0 = a1 ∧ y6_1 = a2 ∧ y6_2 = a3)) then
              some (.inr (.r0 (false) : law10_InstrBackR))
            else
            if ¬ ((strB y6_3 (L5.take v2)) = true) then
              some (.inr (.r0 (false) : law10_InstrBackR))
            else
            some (.inl (.h2m1 (v2) (v3) (y0_0) (0) : law10_InstrBackX))
          )
        else
        none
      else
      none
    else
    none
  )

def law10_InstrBack_h2m0 (a0 : Int) (a1 : Int) (a2 : Int) (a3 : Int) (L5 : List Int) (n6 : Nat) (n7 : Nat) (N : Nat) (v2 : Nat) (v3 : Nat) : Option (law10_InstrBackX ⊕ law10_InstrBackR) :=
  some (.inl (.h3m0 (v2) (v3) : law10_InstrBackX))

def law10_InstrBack_h2m1 (a0 : Int) (a1 : Int) (a2 : Int) (a3 : Int) (L5 : List Int) (n6 : Nat) (n7 : Nat) (N : Nat) (v2 : Nat) (v3 : Nat) (v4 : List Int) (v5 : Nat) : Option (law10_InstrBackX ⊕ law10_InstrBackR) :=
  if ((v5 : Nat) : Int) < ((v4.length : Nat) : Int) then
    ((instr_Decode (v4) ((v5 - 0)) ((v4.length - 0)) N).bind fun r => match r with
    | .r0 y1_0 =>
      if ¬ (y1_0 = (6 : Int)) then
        some (.inr (.r0 (false) : law10_InstrBackR))
      else
      if (((v5 + 1) : Nat) : Int) ≤ (9223372036854775807 : Int) then
        some (.inl (.h2m1 (v2) (v3) (v4) ((v5 + 1)) : law10_InstrBackX))
      else
      none
    | .r1 y1_0 y1_1 y1_2 y1_3 =>
      some (.inr (.r0 (false) : law10_InstrBackR))
    )
  else
  some (.inl (.h3m0 (v2) (v3) : law10_InstrBackX))

def law10_InstrBack_h3m0 (a0 : Int) (a1 : Int) (a2 : Int) (a3 : Int) (L5 : List Int) (n6 : Nat) (n7 : Nat) (N : Nat) (v2 : Nat) (v3 : Nat) : Option (law10_InstrBackX ⊕ law10_InstrBackR) :=
  ((instr_Decode_2 (L5) (v2) (v3) N).bind fun r => match r with
  | .r0 y0_0 =>
    if ¬ (y0_0 = (0 : Int)) then
      some (.inr (.r0 (true) : law10_InstrBackR))
    else
    ((instr_Encode ((0 : Int)) ((0 : Int)) ((0 : Int)) ((0 : Int)) N).bind fun r => match r with
    | .r0 y2_0 =>
      if y2_0 = (0 : Int) then
        if v2 ≤ L5.length then
          if (strB ([] : List Int) (L5.take v2)) = true then
            some (.inr (.r0 (true) : law10_InstrBackR))
          else
          some (.inr (.r0 (false) : law10_InstrBackR))
        else
        none
      else
      some (.inr (.r0 (false) : law10_InstrBackR))
    | .r1 y2_0 =>
      if y2_0.length ≤ 1000000 then
        if v2 ≤ L5.length then
          if (strB y2_0 (L5.take v2)) = true then
            some (.inr (.r0 (true) : law10_InstrBackR))
          else
          some (.inr (.r0 (false) : law10_InstrBackR))
        else
        none
      else
      none
    )
  | .r1 y0_0 y0_1 y0_2 y0_3 =>
    ((instr_Encode ((L5.getD 0 0)) (y0_0) (y0_1) (y0_2) N).bind fun r => match r with
    | .r0 y1_0 =>
      if y1_0 = (0 : Int) then
        if y0_3.length ≤ 1000000 then
          if v2 ≤ L5.length then
            if (strB y0_3 (L5.take v2)) = true then
              some (.inr (.r0 (true) : law10_InstrBackR))
            else
            some (.inr (.r0 (false) : law10_InstrBackR))
          else
          none
        else
        none
      else
      some (.inr (.r0 (false) : law10_InstrBackR))
    | .r1 y1_0 =>
      if (y1_0.length + y0_3.length) ≤ 1000000 then
        if v2 ≤ L5.length then
          if (strB (y1_0 ++ y0_3) (L5.take v2)) = true then
            some (.inr (.r0 (true) : law10_InstrBackR))
          else
          some (.inr (.r0 (false) : law10_InstrBackR))
        else
        none
      else
      none
    )
  )

def law10_InstrBackStep (a0 : Int) (a1 : Int) (a2 : Int) (a3 : Int) (L5 : List Int) (n6 : Nat) (n7 : Nat) (N : Nat) : law10_InstrBackX → Option (law10_InstrBackX ⊕ law10_InstrBackR)
  | .h1m0 v2 v3 => law10_InstrBack_h1m0 a0 a1 a2 a3 L5 n6 n7 N v2 v3
  | .h2m0 v2 v3 => law10_InstrBack_h2m0 a0 a1 a2 a3 L5 n6 n7 N v2 v3
  | .h2m1 v2 v3 v4 v5 => law10_InstrBack_h2m1 a0 a1 a2 a3 L5 n6 n7 N v2 v3 v4 v5
  | .h3m0 v2 v3 => law10_InstrBack_h3m0 a0 a1 a2 a3 L5 n6 n7 N v2 v3

def law10_InstrBackIn (a0 : Int) (a1 : Int) (a2 : Int) (a3 : Int) (L5 : List Int) (n6 : Nat) (n7 : Nat) (N : Nat) : Option (law10_InstrBackX ⊕ law10_InstrBackR) :=
  if (20 : Int) < ((n6 : Nat) : Int) then
    if (20 : Int) ≤ ((n7 : Nat) : Int) then
      some (.inl (.h1m0 ((20 - 0)) ((n7 - 0)) : law10_InstrBackX))
    else
    none
  else
  some (.inl (.h1m0 (n6) (n7) : law10_InstrBackX))

def law10_InstrBack (a0 : Int) (a1 : Int) (a2 : Int) (a3 : Int) (L5 : List Int) (n6 : Nat) (n7 : Nat) (N : Nat) : Option law10_InstrBackR := goM (law10_InstrBackStep a0 a1 a2 a3 L5 n6 n7 N) N (law10_InstrBackIn a0 a1 a2 a3 L5 n6 n7 N)

/-- gantlet/instr.Decode -/
inductive instr_Decode_3R where
  | r0

def instr_Decode_3  (N : Nat) : Option instr_Decode_3R :=
  some (.r0 : instr_Decode_3R)

/-- gantlet/gantletlaw10.InstrBack -/
inductive law10_InstrBack_2R where
  | r0 (w0 : Bool)

inductive law10_InstrBack_2X where
  | h1m0
  | h2m0
  | h2m1 (v0 : List Int) (v1 : Nat)
  | h3m0

def law10_InstrBack_2_h1m0 (a0 : Int) (a1 : Int) (a2 : Int) (a3 : Int) (N : Nat) : Option (law10_InstrBack_2X ⊕ law10_InstrBack_2R) :=
  ((instr_Encode (a0) (a1) (a2) (a3) N).bind fun r => match r with
  | .r0 y0_0 =>
    if y0_0 = (0 : Int) then
      ((instr_Decode (([] : List Int)) (0) (0) N).bind fun r => match r with
      | .r0 y2_0 =>
        if ¬ (y2_0 = (0 : Int)) then
          some (.inr (.r0 (false) : law10_InstrBack_2R))
        else
        if ¬ (((0 : Int) = a0 ∧ (0 : Int) = a1 ∧ (0 : Int) = a2 ∧ (0 : Int) = a3)) then
          some (.inr (.r0 (false) : law10_InstrBack_2R))
        else
        some (.inl (.h2m0 : law10_InstrBack_2X))
      | .r1 y2_0 y2_1 y2_2 y2_3 =>
        if ¬ (((([] : List Int).getD 0 0) = a0 ∧ y2_0 = a1 ∧ y2_1 = a2 ∧ y2_2 = a3)) then
          some (.inr (.r0 (false) : law10_InstrBack_2R))
        else
        if ¬ ((strB y2_3 ([] : List Int)) = true) then
          some (.inr (.r0 (false) : law10_InstrBack_2R))
        else
        some (.inl (.h2m0 : law10_InstrBack_2X))
      )
    else
    some (.inl (.h3m0 : law10_InstrBack_2X))
  | .r1 y0_0 =>
    if y0_0.length = 0 then
      ((instr_Decode (([] : List Int)) (0) (0) N).bind fun r => match r with
      | .r0 y2_0 =>
        if ¬ (y2_0 = (0 : Int)) then
          some (.inr (.r0 (false) : law10_InstrBack_2R))
        else
        if ¬ (((0 : Int) = a0 ∧ (0 : Int) = a1 ∧ (0 : Int) = a2 ∧ (0 : Int) = a3)) then
          some (.inr (.r0 (false) : law10_InstrBack_2R))
        else
        some (.inl (.h2m1 (y0_0) (0) : law10_InstrBack_2X))
      | .r1 y2_0 y2_1 y2_2 y2_3 =>
        if ¬ (((([] : List Int).getD 0 0) = a0 ∧ y2_0 = a1 ∧ y2_1 = a2 ∧ y2_2 = a3)) then
          some (.inr (.r0 (false) : law10_InstrBack_2R))
        else
        if ¬ ((strB y2_3 ([] : List Int)) = true) then
          some (.inr (.r0 (false) : law10_InstrBack_2R))
        else
        some (.inl (.h2m1 (y0_0) (0) : law10_InstrBack_2X))
      )
    else
    if y0_0.length ≤ 100000 then
      ((instr_Decode (y0_0) ((0 + y0_0.length)) ((0 + y0_0.length)) N).bind fun r => match r with
      | .r0 y3_0 =>
        if ¬ (y3_0 = (0 : Int)) then
          some (.inr (.r0 (false) : law10_InstrBack_2R))
        else
        if ¬ (((0 : Int) = a0 ∧ (0 : Int) = a1 ∧ (0 : Int) = a2 ∧ (0 : Int) = a3)) then
          some (.inr (.r0 (false) : law10_InstrBack_2R))
        else
        some (.inl (.h2m1 (y0_0) (0) : law10_InstrBack_2X))
      | .r1 y3_0 y3_1 y3_2 y3_3 =>
        if ¬ (((y0_0.getD 0 0) = a0 ∧ y3_0 = a1 ∧ y3_1 = a2 ∧ y3_2 = a3)) then
          some (.inr (.r0 (false) : law10_InstrBack_2R))
        else
        if ¬ ((strB y3_3 ([] : List Int)) = true) then
          some (.inr (.r0 (false) : law10_InstrBack_2R))
        else
        some (.inl (.h2m1 (y0_0) (0) : law10_InstrBack_2X))
      )
    else
    none
  )

def law10_InstrBack_2_h2m0 (a0 : Int) (a1 : Int) (a2 : Int) (a3 : Int) (N : Nat) : Option (law10_InstrBack_2X ⊕ law10_InstrBack_2R) :=
  some (.inl (.h3m0 : law10_InstrBack_2X))

def law10_InstrBack_2_h2m1 (a0 : Int) (a1 : Int) (a2 : Int) (a3 : Int) (N : Nat) (v0 : List Int) (v1 : Nat) : Option (law10_InstrBack_2X ⊕ law10_InstrBack_2R) :=
  if ((v1 : Nat) : Int) < ((v0.length : Nat) : Int) then
    ((instr_Decode (v0) ((v1 - 0)) ((v0.length - 0)) N).bind fun r => match r with
    | .r0 y1_0 =>
      if ¬ (y1_0 = (6 : Int)) then
        some (.inr (.r0 (false) : law10_InstrBack_2R))
      else
      if (((v1 + 1) : Nat) : Int) ≤ (9223372036854775807 : Int) then
        some (.inl (.h2m1 (v0) ((v1 + 1)) : law10_InstrBack_2X))
      else
      none
    | .r1 y1_0 y1_1 y1_2 y1_3 =>
      some (.inr (.r0 (false) : law10_InstrBack_2R))
    )
  else
  some (.inl (.h3m0 : law10_InstrBack_2X))

def law10_InstrBack_2_h3m0 (a0 : Int) (a1 : Int) (a2 : Int) (a3 : Int) (N : Nat) : Option (law10_InstrBack_2X ⊕ law10_InstrBack_2R) :=
  ((instr_Decode_3 N).bind fun r => match r with
  | .r0 =>
    some (.inr (.r0 (true) : law10_InstrBack_2R))
  )

def law10_InstrBack_2Step (a0 : Int) (a1 : Int) (a2 : Int) (a3 : Int) (N : Nat) : law10_InstrBack_2X → Option (law10_InstrBack_2X ⊕ law10_InstrBack_2R)
  | .h1m0 => law10_InstrBack_2_h1m0 a0 a1 a2 a3 N
  | .h2m0 => law10_InstrBack_2_h2m0 a0 a1 a2 a3 N
  | .h2m1 v0 v1 => law10_InstrBack_2_h2m1 a0 a1 a2 a3 N v0 v1
  | .h3m0 => law10_InstrBack_2_h3m0 a0 a1 a2 a3 N

def law10_InstrBack_2In (a0 : Int) (a1 : Int) (a2 : Int) (a3 : Int) (N : Nat) : Option (law10_InstrBack_2X ⊕ law10_InstrBack_2R) :=
  some (.inl (.h1m0 : law10_InstrBack_2X))

def law10_InstrBack_2 (a0 : Int) (a1 : Int) (a2 : Int) (a3 : Int) (N : Nat) : Option law10_InstrBack_2R := goM (law10_InstrBack_2Step a0 a1 a2 a3 N) N (law10_InstrBack_2In a0 a1 a2 a3 N)
end Ev
end Go.Proofs.Ytcialenmjhiknaa
