/- Records, and the program's functions as plain ones. -/
import Derived.Test.YtjfmadhcbgdakaaFm
namespace Go.Proofs.Ytjfmadhcbgdakaa
open Go.RowKit
namespace Ev
set_option linter.unusedVariables false
structure R_iiii where
 a0 : Int
 a1 : Int
 a2 : Int
 a3 : Int
def R_iiii.z : R_iiii := ⟨0, 0, 0, 0⟩
inductive ZC where
 | r0
 | r1
 | r2
 | r3
 | r4
 | r5
 | r6
 | r7
 | r8
 | r9
 | r10
 | r11
 | r12
 | r13
 | r14
 | r15
 | r16
 | r17
 | r18
 | r19
 | r20

def Zay (a0 : Int) (N : Nat) : Option ZC :=
 if a0 < (0 : Int) then
  some (.r0 : ZC)
 else
 if (21 : Int) ≤ a0 then
  some (.r0 : ZC)
 else
 if a0 = (0 : Int) then
  some (.r0 : ZC)
 else
 if a0 = (1 : Int) then
  some (.r1 : ZC)
 else
 if a0 = (2 : Int) then
  some (.r2 : ZC)
 else
 if a0 = (3 : Int) then
  some (.r3 : ZC)
 else
 if a0 = (4 : Int) then
  some (.r4 : ZC)
 else
 if a0 = (5 : Int) then
  some (.r5 : ZC)
 else
 if a0 = (6 : Int) then
  some (.r6 : ZC)
 else
 if a0 = (7 : Int) then
  some (.r7 : ZC)
 else
 if a0 = (8 : Int) then
  some (.r8 : ZC)
 else
 if a0 = (9 : Int) then
  some (.r9 : ZC)
 else
 if a0 = (10 : Int) then
  some (.r10 : ZC)
 else
 if a0 = (11 : Int) then
  some (.r11 : ZC)
 else
 if a0 = (12 : Int) then
  some (.r12 : ZC)
 else
 if a0 = (13 : Int) then
  some (.r13 : ZC)
 else
 if a0 = (14 : Int) then
  some (.r14 : ZC)
 else
 if a0 = (15 : Int) then
  some (.r15 : ZC)
 else
 if a0 = (16 : Int) then
  some (.r16 : ZC)
 else
 if a0 = (17 : Int) then
  some (.r17 : ZC)
 else
 if a0 = (18 : Int) then
  some (.r18 : ZC)
 else
 if a0 = (19 : Int) then
  some (.r19 : ZC)
 else
 some (.r20 : ZC)

inductive Zt where
 | r0 (w0 : Bool)

def Zz (a0 : Int) (a1 : Int) (a2 : Int) (N : Nat) : Option Zt :=
 if a0 = (1 : Int) then
  if (0 : Int) ≤ a1 then
   if a1 ≤ (7 : Int) then
    some (.r0 (true) : Zt)
   else
   some (.r0 (false) : Zt)
  else
  some (.r0 (false) : Zt)
 else
 if a0 = (2 : Int) then
  if (0 : Int) ≤ a1 then
   if a1 ≤ (15 : Int) then
    some (.r0 (true) : Zt)
   else
   some (.r0 (false) : Zt)
  else
  some (.r0 (false) : Zt)
 else
 if a0 = (3 : Int) then
  if (1 : Int) ≤ a1 then
   if a1 ≤ (16 : Int) then
    some (.r0 (true) : Zt)
   else
   some (.r0 (false) : Zt)
  else
  some (.r0 (false) : Zt)
 else
 if a0 = (4 : Int) then
  if (0 : Int) ≤ a1 then
   if a1 ≤ (512 : Int) then
    some (.r0 (true) : Zt)
   else
   some (.r0 (false) : Zt)
  else
  some (.r0 (false) : Zt)
 else
 if a0 = (5 : Int) then
  if (0 : Int) ≤ a2 then
   if a2 ≤ (64 : Int) then
    if (0 : Int) ≤ a1 then
     if a1 ≤ (IntKind.i64.wrap ((IntKind.i64.wrap ((1 : Int) * (2 ^ (a2).toNat : Int))) - (1 : Int))) then
      some (.r0 (true) : Zt)
     else
     some (.r0 (false) : Zt)
    else
    some (.r0 (false) : Zt)
   else
   none
  else
  none
 else
 if a0 = (6 : Int) then
  if (-1099511627776 : Int) ≤ a1 then
   if a1 ≤ (1099511627776 : Int) then
    some (.r0 (true) : Zt)
   else
   some (.r0 (false) : Zt)
  else
  some (.r0 (false) : Zt)
 else
 if (0 : Int) ≤ a1 then
  if a1 ≤ (0 : Int) then
   some (.r0 (true) : Zt)
  else
  some (.r0 (false) : Zt)
 else
 some (.r0 (false) : Zt)

inductive Za9 where
 | r0 (w0 : Int)

inductive Zo where
 | h1m0 (v1 : Nat) (v2 : Nat) (v3 : Nat)
 | h1m1 (v1 : Nat) (v2 : Nat) (v3 : Nat)
 | h1m2 (v1 : Nat) (v2 : Nat) (v3 : Nat)
 | h1m3 (v1 : Nat) (v2 : Nat) (v3 : Nat)

def ZcO (a0 : Int) (a1 : Int) (a2 : Int) (a3 : Int) (N : Nat) (v1 : Nat) (v2 : Nat) (v3 : Nat) : Option (Zo ⊕ Za9) :=
 ((Zz ((v1 : Int)) (a1) ((0 : Int)) N).bind fun r => match r with
 | .r0 y0_0 =>
  if ¬ (y0_0 = true) then
   some (.inr (.r0 ((100 : Int)) : Za9))
  else
  some (.inl (.h1m1 (v1) (v2) (v3) : Zo))
 )

def ZcP (a0 : Int) (a1 : Int) (a2 : Int) (a3 : Int) (N : Nat) (v1 : Nat) (v2 : Nat) (v3 : Nat) : Option (Zo ⊕ Za9) :=
 ((Zz ((v2 : Int)) (a2) (a1) N).bind fun r => match r with
 | .r0 y0_0 =>
  if ¬ (y0_0 = true) then
   some (.inr (.r0 ((100 : Int)) : Za9))
  else
  some (.inl (.h1m2 (v1) (v2) (v3) : Zo))
 )

def ZcQ (a0 : Int) (a1 : Int) (a2 : Int) (a3 : Int) (N : Nat) (v1 : Nat) (v2 : Nat) (v3 : Nat) : Option (Zo ⊕ Za9) :=
 ((Zz ((v3 : Int)) (a3) (a2) N).bind fun r => match r with
 | .r0 y0_0 =>
  if ¬ (y0_0 = true) then
   some (.inr (.r0 ((100 : Int)) : Za9))
  else
  some (.inl (.h1m3 (v1) (v2) (v3) : Zo))
 )

def Zfg (a0 : Int) (a1 : Int) (a2 : Int) (a3 : Int) (N : Nat) (v1 : Nat) (v2 : Nat) (v3 : Nat) : Option (Zo ⊕ Za9) :=
 some (.inr (.r0 ((0 : Int)) : Za9))

def Zc1 (a0 : Int) (a1 : Int) (a2 : Int) (a3 : Int) (N : Nat) : Zo → Option (Zo ⊕ Za9)
 | .h1m0 v1 v2 v3 => ZcO a0 a1 a2 a3 N v1 v2 v3
 | .h1m1 v1 v2 v3 => ZcP a0 a1 a2 a3 N v1 v2 v3
 | .h1m2 v1 v2 v3 => ZcQ a0 a1 a2 a3 N v1 v2 v3
 | .h1m3 v1 v2 v3 => Zfg a0 a1 a2 a3 N v1 v2 v3

def Zam (a0 : Int) (a1 : Int) (a2 : Int) (a3 : Int) (N : Nat) : Option (Zo ⊕ Za9) :=
 ((Zay (a0) N).bind fun r => match r with
 | .r0 =>
  some (.inr (.r0 ((100 : Int)) : Za9))
 | .r1 =>
  some (.inl (.h1m0 (1) (6) (0) : Zo))
 | .r2 =>
  some (.inl (.h1m0 (1) (0) (0) : Zo))
 | .r3 =>
  some (.inl (.h1m0 (1) (1) (0) : Zo))
 | .r4 =>
  some (.inl (.h1m0 (1) (1) (1) : Zo))
 | .r5 =>
  some (.inl (.h1m0 (1) (1) (1) : Zo))
 | .r6 =>
  some (.inl (.h1m0 (1) (1) (1) : Zo))
 | .r7 =>
  some (.inl (.h1m0 (1) (1) (1) : Zo))
 | .r8 =>
  some (.inl (.h1m0 (4) (0) (0) : Zo))
 | .r9 =>
  some (.inl (.h1m0 (1) (4) (0) : Zo))
 | .r10 =>
  some (.inl (.h1m0 (1) (0) (0) : Zo))
 | .r11 =>
  some (.inl (.h1m0 (1) (3) (5) : Zo))
 | .r12 =>
  some (.inl (.h1m0 (1) (0) (0) : Zo))
 | .r13 =>
  some (.inl (.h1m0 (1) (1) (2) : Zo))
 | .r14 =>
  some (.inl (.h1m0 (1) (2) (1) : Zo))
 | .r15 =>
  some (.inl (.h1m0 (0) (0) (0) : Zo))
 | .r16 =>
  some (.inl (.h1m0 (0) (0) (0) : Zo))
 | .r17 =>
  some (.inl (.h1m0 (0) (0) (0) : Zo))
 | .r18 =>
  some (.inl (.h1m0 (0) (0) (0) : Zo))
 | .r19 =>
  some (.inl (.h1m0 (1) (0) (0) : Zo))
 | .r20 =>
  some (.inl (.h1m0 (0) (0) (0) : Zo))
 )

def Z6 (a0 : Int) (a1 : Int) (a2 : Int) (a3 : Int) (N : Nat) : Option Za9 := goM (Zc1 a0 a1 a2 a3 N) N (Zam a0 a1 a2 a3 N)

inductive Z0 where
 | r0 (w0 : List Int) (w1 : Int) (w2 : Int) (w3 : Int)

def ZbN (a0 : Int) (N : Nat) : Option Z0 :=
 if a0 < (0 : Int) then
  some (.r0 (([] : List Int)) ((0 : Int)) ((0 : Int)) ((0 : Int)) : Z0)
 else
 if (21 : Int) ≤ a0 then
  some (.r0 (([] : List Int)) ((0 : Int)) ((0 : Int)) ((0 : Int)) : Z0)
 else
 if a0 = (0 : Int) then
  some (.r0 (([] : List Int)) ((0 : Int)) ((0 : Int)) ((0 : Int)) : Z0)
 else
 if a0 = (1 : Int) then
  some (.r0 (([(99 : Int), (111 : Int), (110 : Int), (115 : Int), (116 : Int)] : List Int)) ((1 : Int)) ((6 : Int)) ((0 : Int)) : Z0)
 else
 if a0 = (2 : Int) then
  some (.r0 (([(110 : Int), (105 : Int), (108 : Int)] : List Int)) ((1 : Int)) ((0 : Int)) ((0 : Int)) : Z0)
 else
 if a0 = (3 : Int) then
  some (.r0 (([(109 : Int), (111 : Int), (118 : Int), (101 : Int)] : List Int)) ((1 : Int)) ((1 : Int)) ((0 : Int)) : Z0)
 else
 if a0 = (4 : Int) then
  some (.r0 (([(97 : Int), (100 : Int), (100 : Int)] : List Int)) ((1 : Int)) ((1 : Int)) ((1 : Int)) : Z0)
 else
 if a0 = (5 : Int) then
  some (.r0 (([(115 : Int), (117 : Int), (98 : Int)] : List Int)) ((1 : Int)) ((1 : Int)) ((1 : Int)) : Z0)
 else
 if a0 = (6 : Int) then
  some (.r0 (([(108 : Int), (101 : Int), (115 : Int), (115 : Int)] : List Int)) ((1 : Int)) ((1 : Int)) ((1 : Int)) : Z0)
 else
 if a0 = (7 : Int) then
  some (.r0 (([(101 : Int), (113 : Int)] : List Int)) ((1 : Int)) ((1 : Int)) ((1 : Int)) : Z0)
 else
 if a0 = (8 : Int) then
  some (.r0 (([(106 : Int), (117 : Int), (109 : Int), (112 : Int)] : List Int)) ((4 : Int)) ((0 : Int)) ((0 : Int)) : Z0)
 else
 if a0 = (9 : Int) then
  some (.r0 (([(106 : Int), (117 : Int), (109 : Int), (112 : Int), (122 : Int)] : List Int)) ((1 : Int)) ((4 : Int)) ((0 : Int)) : Z0)
 else
 if a0 = (10 : Int) then
  some (.r0 (([(114 : Int), (111 : Int), (111 : Int), (116 : Int)] : List Int)) ((1 : Int)) ((0 : Int)) ((0 : Int)) : Z0)
 else
 if a0 = (11 : Int) then
  some (.r0 (([(110 : Int), (101 : Int), (119 : Int)] : List Int)) ((1 : Int)) ((3 : Int)) ((5 : Int)) : Z0)
 else
 if a0 = (12 : Int) then
  some (.r0 (([(102 : Int), (114 : Int), (101 : Int), (101 : Int)] : List Int)) ((1 : Int)) ((0 : Int)) ((0 : Int)) : Z0)
 else
 if a0 = (13 : Int) then
  some (.r0 (([(103 : Int), (101 : Int), (116 : Int)] : List Int)) ((1 : Int)) ((1 : Int)) ((2 : Int)) : Z0)
 else
 if a0 = (14 : Int) then
  some (.r0 (([(115 : Int), (101 : Int), (116 : Int)] : List Int)) ((1 : Int)) ((2 : Int)) ((1 : Int)) : Z0)
 else
 if a0 = (15 : Int) then
  some (.r0 (([(98 : Int), (101 : Int), (103 : Int), (105 : Int), (110 : Int)] : List Int)) ((0 : Int)) ((0 : Int)) ((0 : Int)) : Z0)
 else
 if a0 = (16 : Int) then
  some (.r0 (([(101 : Int), (108 : Int), (115 : Int), (101 : Int)] : List Int)) ((0 : Int)) ((0 : Int)) ((0 : Int)) : Z0)
 else
 if a0 = (17 : Int) then
  some (.r0 (([(101 : Int), (110 : Int), (100 : Int)] : List Int)) ((0 : Int)) ((0 : Int)) ((0 : Int)) : Z0)
 else
 if a0 = (18 : Int) then
  some (.r0 (([(114 : Int), (101 : Int), (116 : Int), (114 : Int), (121 : Int)] : List Int)) ((0 : Int)) ((0 : Int)) ((0 : Int)) : Z0)
 else
 if a0 = (19 : Int) then
  some (.r0 (([(101 : Int), (109 : Int), (105 : Int), (116 : Int)] : List Int)) ((1 : Int)) ((0 : Int)) ((0 : Int)) : Z0)
 else
 some (.r0 (([(104 : Int), (97 : Int), (108 : Int), (116 : Int)] : List Int)) ((0 : Int)) ((0 : Int)) ((0 : Int)) : Z0)

inductive Zao where
 | r0 (w0 : Int)

def Zv (a0 : Int) (N : Nat) : Option Zao :=
 if a0 = (1 : Int) then
  some (.r0 ((1 : Int)) : Zao)
 else
 if a0 = (2 : Int) then
  some (.r0 ((1 : Int)) : Zao)
 else
 if a0 = (3 : Int) then
  some (.r0 ((1 : Int)) : Zao)
 else
 if a0 = (4 : Int) then
  some (.r0 ((2 : Int)) : Zao)
 else
 if a0 = (5 : Int) then
  some (.r0 ((3 : Int)) : Zao)
 else
 if a0 = (6 : Int) then
  some (.r0 ((8 : Int)) : Zao)
 else
 some (.r0 ((0 : Int)) : Zao)

inductive instr_EncodeR where
 | r0 (w0 : Int)
 | r1 (w0 : List Int)

inductive instr_EncodeX where
 | h1m0 (v1 : Int) (v2 : Int) (v3 : Int)
 | h1m1 (v0 : List Int) (v1 : Int) (v2 : Int) (v3 : Int)
 | h1m2 (v0 : List Int) (v1 : Int) (v2 : Int) (v3 : Int)
 | h1m3 (v0 : List Int) (v1 : Int) (v2 : Int) (v3 : Int)
 | h2m0 (v0 : List Int) (v1 : Int) (v2 : Int) (v3 : Int) (v4 : Int)
 | h2m1 (v0 : List Int) (v1 : Int) (v2 : Int) (v3 : Int) (v4 : Int)
 | h2m2 (v0 : List Int) (v1 : Int) (v2 : Int) (v3 : Int) (v4 : Int)

def ZdO (a0 : Int) (a1 : Int) (a2 : Int) (a3 : Int) (N : Nat) (v1 : Int) (v2 : Int) (v3 : Int) : Option (instr_EncodeX ⊕ instr_EncodeR) :=
 ((Zv (v1) N).bind fun r => match r with
 | .r0 y0_0 =>
  some (.inl (.h2m0 (([(IntKind.u8.wrap a0)] : List Int)) ((IntKind.i64.wrap ((8 : Int) * (IntKind.i64.wrap (y0_0 - (1 : Int)))))) (v1) (v2) (v3) : instr_EncodeX))
 )

def ZdP (a0 : Int) (a1 : Int) (a2 : Int) (a3 : Int) (N : Nat) (v0 : List Int) (v1 : Int) (v2 : Int) (v3 : Int) : Option (instr_EncodeX ⊕ instr_EncodeR) :=
 ((Zv (v2) N).bind fun r => match r with
 | .r0 y0_0 =>
  some (.inl (.h2m1 (v0) ((IntKind.i64.wrap ((8 : Int) * (IntKind.i64.wrap (y0_0 - (1 : Int)))))) (v1) (v2) (v3) : instr_EncodeX))
 )

def ZdQ (a0 : Int) (a1 : Int) (a2 : Int) (a3 : Int) (N : Nat) (v0 : List Int) (v1 : Int) (v2 : Int) (v3 : Int) : Option (instr_EncodeX ⊕ instr_EncodeR) :=
 ((Zv (v3) N).bind fun r => match r with
 | .r0 y0_0 =>
  some (.inl (.h2m2 (v0) ((IntKind.i64.wrap ((8 : Int) * (IntKind.i64.wrap (y0_0 - (1 : Int)))))) (v1) (v2) (v3) : instr_EncodeX))
 )

def Zgd (a0 : Int) (a1 : Int) (a2 : Int) (a3 : Int) (N : Nat) (v0 : List Int) (v1 : Int) (v2 : Int) (v3 : Int) : Option (instr_EncodeX ⊕ instr_EncodeR) :=
 some (.inr (.r1 (v0) : instr_EncodeR))

def Zcs (a0 : Int) (a1 : Int) (a2 : Int) (a3 : Int) (N : Nat) (v0 : List Int) (v1 : Int) (v2 : Int) (v3 : Int) (v4 : Int) : Option (instr_EncodeX ⊕ instr_EncodeR) :=
 if (0 : Int) ≤ v1 then
  if v1 ≤ (64 : Int) then
   if v0.length ≤ 100000 then
    some (.inl (.h2m0 ((v0 ++ ([(IntKind.u8.wrap ((IntKind.u64.wrap a1) / (2 ^ (v1).toNat : Int)))] : List Int))) ((v1 - (8 : Int))) (v2) (v3) (v4) : instr_EncodeX))
   else
   none
  else
  none
 else
 some (.inl (.h1m1 (v0) (v2) (v3) (v4) : instr_EncodeX))

def Zct (a0 : Int) (a1 : Int) (a2 : Int) (a3 : Int) (N : Nat) (v0 : List Int) (v1 : Int) (v2 : Int) (v3 : Int) (v4 : Int) : Option (instr_EncodeX ⊕ instr_EncodeR) :=
 if (0 : Int) ≤ v1 then
  if v1 ≤ (64 : Int) then
   if v0.length ≤ 100000 then
    some (.inl (.h2m1 ((v0 ++ ([(IntKind.u8.wrap ((IntKind.u64.wrap a2) / (2 ^ (v1).toNat : Int)))] : List Int))) ((v1 - (8 : Int))) (v2) (v3) (v4) : instr_EncodeX))
   else
   none
  else
  none
 else
 some (.inl (.h1m2 (v0) (v2) (v3) (v4) : instr_EncodeX))

def Zcu (a0 : Int) (a1 : Int) (a2 : Int) (a3 : Int) (N : Nat) (v0 : List Int) (v1 : Int) (v2 : Int) (v3 : Int) (v4 : Int) : Option (instr_EncodeX ⊕ instr_EncodeR) :=
 if (0 : Int) ≤ v1 then
  if v1 ≤ (64 : Int) then
   if v0.length ≤ 100000 then
    some (.inl (.h2m2 ((v0 ++ ([(IntKind.u8.wrap ((IntKind.u64.wrap a3) / (2 ^ (v1).toNat : Int)))] : List Int))) ((v1 - (8 : Int))) (v2) (v3) (v4) : instr_EncodeX))
   else
   none
  else
  none
 else
 some (.inl (.h1m3 (v0) (v2) (v3) (v4) : instr_EncodeX))

def Zaz (a0 : Int) (a1 : Int) (a2 : Int) (a3 : Int) (N : Nat) : instr_EncodeX → Option (instr_EncodeX ⊕ instr_EncodeR)
 | .h1m0 v1 v2 v3 => ZdO a0 a1 a2 a3 N v1 v2 v3
 | .h1m1 v0 v1 v2 v3 => ZdP a0 a1 a2 a3 N v0 v1 v2 v3
 | .h1m2 v0 v1 v2 v3 => ZdQ a0 a1 a2 a3 N v0 v1 v2 v3
 | .h1m3 v0 v1 v2 v3 => Zgd a0 a1 a2 a3 N v0 v1 v2 v3
 | .h2m0 v0 v1 v2 v3 v4 => Zcs a0 a1 a2 a3 N v0 v1 v2 v3 v4
 | .h2m1 v0 v1 v2 v3 v4 => Zct a0 a1 a2 a3 N v0 v1 v2 v3 v4
 | .h2m2 v0 v1 v2 v3 v4 => Zcu a0 a1 a2 a3 N v0 v1 v2 v3 v4

def ZfQ (a0 : Int) (a1 : Int) (a2 : Int) (a3 : Int) (N : Nat) : Option (instr_EncodeX ⊕ instr_EncodeR) :=
 ((Z6 (a0) (a1) (a2) (a3) N).bind fun r => match r with
 | .r0 y0_0 =>
  if ¬ (y0_0 = (0 : Int)) then
   some (.inr (.r0 (y0_0) : instr_EncodeR))
  else
  ((ZbN (a0) N).bind fun r => match r with
  | .r0 y2_0 y2_1 y2_2 y2_3 =>
   some (.inl (.h1m0 (y2_1) (y2_2) (y2_3) : instr_EncodeX))
  )
 )

def Zc8 (a0 : Int) (a1 : Int) (a2 : Int) (a3 : Int) (N : Nat) : Option instr_EncodeR := goM (Zaz a0 a1 a2 a3 N) N (ZfQ a0 a1 a2 a3 N)

inductive ZdT where
 | r0 (w1 : Int)

inductive Zcj where
 | h1m0 (v2 : Nat) (v3 : Int)

def ZdK (L0 : List Int) (N : Nat) (v2 : Nat) (v3 : Int) : Option (Zcj ⊕ ZdT) :=
 if (v2 : Int) < (L0.length : Int) then
  if (((v2 + 1) : Nat) : Int) ≤ (9223372036854775807 : Int) then
   some (.inl (.h1m0 ((v2 + 1)) ((IntKind.u8.wrap (v3 + (L0.getD v2 0)))) : Zcj))
  else
  none
 else
 some (.inr (.r0 (v3) : ZdT))

def ZfI (L0 : List Int) (N : Nat) : Zcj → Option (Zcj ⊕ ZdT)
 | .h1m0 v2 v3 => ZdK L0 N v2 v3

def Ziy (L0 : List Int) (N : Nat) : Option (Zcj ⊕ ZdT) :=
 some (.inl (.h1m0 (0) ((0 : Int)) : Zcj))

def ZiL (L0 : List Int) (N : Nat) : Option ZdT := goM (ZfI L0 N) N (Ziy L0 N)

inductive Zb0 where
 | r0 (w2 : Int)
 | r1 (w2 : List Int)

inductive ZaK where
 | h1m0 (v2 : List Int) (v6 : Nat)

def ZbK (L1 : List R_iiii) (n2 : Nat) (n3 : Nat) (N : Nat) (v2 : List Int) (v6 : Nat) : Option (ZaK ⊕ Zb0) :=
 if (v6 : Int) < (n2 : Int) then
  if v6 < L1.length then
   ((Zc8 ((L1.getD v6 R_iiii.z).a0) ((L1.getD v6 R_iiii.z).a1) ((L1.getD v6 R_iiii.z).a2) ((L1.getD v6 R_iiii.z).a3) N).bind fun r => match r with
   | .r0 y2_0 =>
    if ¬ (y2_0 = (0 : Int)) then
     some (.inr (.r0 ((110 : Int)) : Zb0))
    else
    if (((v6 + 1) : Nat) : Int) ≤ (9223372036854775807 : Int) then
     some (.inl (.h1m0 (v2) ((v6 + 1)) : ZaK))
    else
    none
   | .r1 y2_0 =>
    if y2_0.length = 0 then
     if (((v6 + 1) : Nat) : Int) ≤ (9223372036854775807 : Int) then
      some (.inl (.h1m0 (v2) ((v6 + 1)) : ZaK))
     else
     none
    else
    if y2_0.length ≤ 100000 then
     if v2.length ≤ 100000 then
      if (((v6 + 1) : Nat) : Int) ≤ (9223372036854775807 : Int) then
       some (.inl (.h1m0 ((v2 ++ y2_0)) ((v6 + 1)) : ZaK))
      else
      none
     else
     none
    else
    none
   )
  else
  none
 else
 ((ZiL (v2) N).bind fun r => match r with
 | .r0 y1_0 =>
  if v2.length ≤ 100000 then
   some (.inr (.r1 ((v2 ++ ([y1_0] : List Int))) : Zb0))
  else
  none
 )

def Zc2 (L1 : List R_iiii) (n2 : Nat) (n3 : Nat) (N : Nat) : ZaK → Option (ZaK ⊕ Zb0)
 | .h1m0 v2 v6 => ZbK L1 n2 n3 N v2 v6

def Zgp (L1 : List R_iiii) (n2 : Nat) (n3 : Nat) (N : Nat) : Option (ZaK ⊕ Zb0) :=
 if (512 : Int) < (n2 : Int) then
  some (.inr (.r0 ((3 : Int)) : Zb0))
 else
 some (.inl (.h1m0 (([(71 : Int), (78 : Int), (84 : Int), (1 : Int), ((n2 : Int) / (256 : Int)), (IntKind.u8.wrap (n2 : Int))] : List Int)) (0) : ZaK))

def Zc9 (L1 : List R_iiii) (n2 : Nat) (n3 : Nat) (N : Nat) : Option Zb0 := goM (Zc2 L1 n2 n3 N) N (Zgp L1 n2 n3 N)

inductive ZL where
 | r0 (w0 : Int) (w1 : Int) (w2 : Int) (w3 : Bool)

def Zc3 (a0 : Int) (N : Nat) : Option ZL :=
 if a0 = (1 : Int) then
  some (.r0 ((1 : Int)) ((2 : Int)) ((0 : Int)) (true) : ZL)
 else
 if a0 = (2 : Int) then
  some (.r0 ((1 : Int)) ((0 : Int)) ((0 : Int)) (true) : ZL)
 else
 if a0 = (10 : Int) then
  some (.r0 ((1 : Int)) ((0 : Int)) ((0 : Int)) (true) : ZL)
 else
 if a0 = (12 : Int) then
  some (.r0 ((1 : Int)) ((0 : Int)) ((0 : Int)) (true) : ZL)
 else
 if a0 = (19 : Int) then
  some (.r0 ((1 : Int)) ((0 : Int)) ((0 : Int)) (true) : ZL)
 else
 if a0 = (3 : Int) then
  some (.r0 ((1 : Int)) ((1 : Int)) ((0 : Int)) (true) : ZL)
 else
 if a0 = (4 : Int) then
  some (.r0 ((1 : Int)) ((1 : Int)) ((1 : Int)) (true) : ZL)
 else
 if a0 = (5 : Int) then
  some (.r0 ((1 : Int)) ((1 : Int)) ((1 : Int)) (true) : ZL)
 else
 if a0 = (6 : Int) then
  some (.r0 ((1 : Int)) ((1 : Int)) ((1 : Int)) (true) : ZL)
 else
 if a0 = (7 : Int) then
  some (.r0 ((1 : Int)) ((1 : Int)) ((1 : Int)) (true) : ZL)
 else
 if a0 = (8 : Int) then
  some (.r0 ((3 : Int)) ((0 : Int)) ((0 : Int)) (true) : ZL)
 else
 if a0 = (9 : Int) then
  some (.r0 ((1 : Int)) ((3 : Int)) ((0 : Int)) (true) : ZL)
 else
 if a0 = (11 : Int) then
  some (.r0 ((1 : Int)) ((5 : Int)) ((6 : Int)) (true) : ZL)
 else
 if a0 = (13 : Int) then
  some (.r0 ((1 : Int)) ((1 : Int)) ((4 : Int)) (true) : ZL)
 else
 if a0 = (14 : Int) then
  some (.r0 ((1 : Int)) ((4 : Int)) ((1 : Int)) (true) : ZL)
 else
 if a0 = (15 : Int) then
  some (.r0 ((0 : Int)) ((0 : Int)) ((0 : Int)) (true) : ZL)
 else
 if a0 = (16 : Int) then
  some (.r0 ((0 : Int)) ((0 : Int)) ((0 : Int)) (true) : ZL)
 else
 if a0 = (17 : Int) then
  some (.r0 ((0 : Int)) ((0 : Int)) ((0 : Int)) (true) : ZL)
 else
 if a0 = (18 : Int) then
  some (.r0 ((0 : Int)) ((0 : Int)) ((0 : Int)) (true) : ZL)
 else
 if a0 = (20 : Int) then
  some (.r0 ((0 : Int)) ((0 : Int)) ((0 : Int)) (true) : ZL)
 else
 some (.r0 ((0 : Int)) ((0 : Int)) ((0 : Int)) (false) : ZL)

inductive ZE where
 | r0 (w0 : Bool)

def Zax (a0 : Int) (a1 : Int) (a2 : Int) (N : Nat) : Option ZE :=
 if a0 = (1 : Int) then
  if (0 : Int) ≤ a1 then
   if a1 < (8 : Int) then
    some (.r0 (true) : ZE)
   else
   some (.r0 (false) : ZE)
  else
  some (.r0 (false) : ZE)
 else
 if a0 = (2 : Int) then
  if (-1099511627776 : Int) ≤ a1 then
   if a1 ≤ (1099511627776 : Int) then
    some (.r0 (true) : ZE)
   else
   some (.r0 (false) : ZE)
  else
  some (.r0 (false) : ZE)
 else
 if a0 = (3 : Int) then
  if (0 : Int) ≤ a1 then
   if a1 ≤ (512 : Int) then
    some (.r0 (true) : ZE)
   else
   some (.r0 (false) : ZE)
  else
  some (.r0 (false) : ZE)
 else
 if a0 = (4 : Int) then
  if (0 : Int) ≤ a1 then
   if a1 < (16 : Int) then
    some (.r0 (true) : ZE)
   else
   some (.r0 (false) : ZE)
  else
  some (.r0 (false) : ZE)
 else
 if a0 = (5 : Int) then
  if (1 : Int) ≤ a1 then
   if a1 ≤ (16 : Int) then
    some (.r0 (true) : ZE)
   else
   some (.r0 (false) : ZE)
  else
  some (.r0 (false) : ZE)
 else
 if a0 = (6 : Int) then
  if (1 : Int) ≤ a2 then
   if a2 ≤ (16 : Int) then
    if (0 : Int) ≤ a1 then
     if a1 < (IntKind.i64.wrap ((1 : Int) * (2 ^ (a2).toNat : Int))) then
      some (.r0 (true) : ZE)
     else
     some (.r0 (false) : ZE)
    else
    some (.r0 (false) : ZE)
   else
   some (.r0 (false) : ZE)
  else
  some (.r0 (false) : ZE)
 else
 if a1 = (0 : Int) then
  some (.r0 (true) : ZE)
 else
 some (.r0 (false) : ZE)

inductive Zc4 where
 | r0 (w0 : Bool)

def ZS (a0 : Int) (a1 : Int) (a2 : Int) (a3 : Int) (N : Nat) : Option Zc4 :=
 ((Zc3 (a0) N).bind fun r => match r with
 | .r0 y0_0 y0_1 y0_2 y0_3 =>
  if y0_3 = true then
   ((Zax (y0_0) (a1) ((0 : Int)) N).bind fun r => match r with
   | .r0 y2_0 =>
    if y2_0 = true then
     ((Zax (y0_1) (a2) ((0 : Int)) N).bind fun r => match r with
     | .r0 y4_0 =>
      if y4_0 = true then
       ((Zax (y0_2) (a3) (a2) N).bind fun r => match r with
       | .r0 y6_0 =>
        if y6_0 = true then
         some (.r0 (true) : Zc4)
        else
        some (.r0 (false) : Zc4)
       )
      else
      some (.r0 (false) : Zc4)
     )
    else
    some (.r0 (false) : Zc4)
   )
  else
  some (.r0 (false) : Zc4)
 )

inductive Z1 where
 | r0
 | r1 (w0 : List Int)

def Zm (a0 : Int) (a1 : Int) (a2 : Int) (a3 : Int) (N : Nat) : Option Z1 :=
 ((ZS (a0) (a1) (a2) (a3) N).bind fun r => match r with
 | .r0 y0_0 =>
  if ¬ (y0_0 = true) then
   some (.r0 : Z1)
  else
  if a0 = (1 : Int) then
   some (.r1 (([a0, ((IntKind.u64.wrap a1) % (256 : Int)), (((((((((IntKind.u64.wrap a2) / (256 : Int)) / (256 : Int)) / (256 : Int)) / (256 : Int)) / (256 : Int)) / (256 : Int)) / (256 : Int)) % (256 : Int)), ((((((((IntKind.u64.wrap a2) / (256 : Int)) / (256 : Int)) / (256 : Int)) / (256 : Int)) / (256 : Int)) / (256 : Int)) % (256 : Int)), (((((((IntKind.u64.wrap a2) / (256 : Int)) / (256 : Int)) / (256 : Int)) / (256 : Int)) / (256 : Int)) % (256 : Int)), ((((((IntKind.u64.wrap a2) / (256 : Int)) / (256 : Int)) / (256 : Int)) / (256 : Int)) % (256 : Int)), (((((IntKind.u64.wrap a2) / (256 : Int)) / (256 : Int)) / (256 : Int)) % (256 : Int)), ((((IntKind.u64.wrap a2) / (256 : Int)) / (256 : Int)) % (256 : Int)), (((IntKind.u64.wrap a2) / (256 : Int)) % (256 : Int)), ((IntKind.u64.wrap a2) % (256 : Int))] : List Int)) : Z1)
  else
  if a0 = (2 : Int) then
   some (.r1 (([a0, ((IntKind.u64.wrap a1) % (256 : Int))] : List Int)) : Z1)
  else
  if a0 = (10 : Int) then
   some (.r1 (([a0, ((IntKind.u64.wrap a1) % (256 : Int))] : List Int)) : Z1)
  else
  if a0 = (12 : Int) then
   some (.r1 (([a0, ((IntKind.u64.wrap a1) % (256 : Int))] : List Int)) : Z1)
  else
  if a0 = (19 : Int) then
   some (.r1 (([a0, ((IntKind.u64.wrap a1) % (256 : Int))] : List Int)) : Z1)
  else
  if a0 = (3 : Int) then
   some (.r1 (([a0, ((IntKind.u64.wrap a1) % (256 : Int)), ((IntKind.u64.wrap a2) % (256 : Int))] : List Int)) : Z1)
  else
  if a0 = (4 : Int) then
   some (.r1 (([a0, ((IntKind.u64.wrap a1) % (256 : Int)), ((IntKind.u64.wrap a2) % (256 : Int)), ((IntKind.u64.wrap a3) % (256 : Int))] : List Int)) : Z1)
  else
  if a0 = (5 : Int) then
   some (.r1 (([a0, ((IntKind.u64.wrap a1) % (256 : Int)), ((IntKind.u64.wrap a2) % (256 : Int)), ((IntKind.u64.wrap a3) % (256 : Int))] : List Int)) : Z1)
  else
  if a0 = (6 : Int) then
   some (.r1 (([a0, ((IntKind.u64.wrap a1) % (256 : Int)), ((IntKind.u64.wrap a2) % (256 : Int)), ((IntKind.u64.wrap a3) % (256 : Int))] : List Int)) : Z1)
  else
  if a0 = (7 : Int) then
   some (.r1 (([a0, ((IntKind.u64.wrap a1) % (256 : Int)), ((IntKind.u64.wrap a2) % (256 : Int)), ((IntKind.u64.wrap a3) % (256 : Int))] : List Int)) : Z1)
  else
  if a0 = (8 : Int) then
   some (.r1 (([a0, (((IntKind.u64.wrap a1) / (256 : Int)) % (256 : Int)), ((IntKind.u64.wrap a1) % (256 : Int))] : List Int)) : Z1)
  else
  if a0 = (9 : Int) then
   some (.r1 (([a0, ((IntKind.u64.wrap a1) % (256 : Int)), (((IntKind.u64.wrap a2) / (256 : Int)) % (256 : Int)), ((IntKind.u64.wrap a2) % (256 : Int))] : List Int)) : Z1)
  else
  if a0 = (11 : Int) then
   some (.r1 (([a0, ((IntKind.u64.wrap a1) % (256 : Int)), ((IntKind.u64.wrap a2) % (256 : Int)), ((((IntKind.u64.wrap a3) / (256 : Int)) / (256 : Int)) % (256 : Int)), (((IntKind.u64.wrap a3) / (256 : Int)) % (256 : Int)), ((IntKind.u64.wrap a3) % (256 : Int))] : List Int)) : Z1)
  else
  if a0 = (13 : Int) then
   some (.r1 (([a0, ((IntKind.u64.wrap a1) % (256 : Int)), ((IntKind.u64.wrap a2) % (256 : Int)), ((IntKind.u64.wrap a3) % (256 : Int))] : List Int)) : Z1)
  else
  if a0 = (14 : Int) then
   some (.r1 (([a0, ((IntKind.u64.wrap a1) % (256 : Int)), ((IntKind.u64.wrap a2) % (256 : Int)), ((IntKind.u64.wrap a3) % (256 : Int))] : List Int)) : Z1)
  else
  if a0 = (15 : Int) then
   some (.r1 (([a0] : List Int)) : Z1)
  else
  if a0 = (16 : Int) then
   some (.r1 (([a0] : List Int)) : Z1)
  else
  if a0 = (17 : Int) then
   some (.r1 (([a0] : List Int)) : Z1)
  else
  if a0 = (18 : Int) then
   some (.r1 (([a0] : List Int)) : Z1)
  else
  if a0 = (20 : Int) then
   some (.r1 (([a0] : List Int)) : Z1)
  else
  some (.r1 (([(IntKind.u8.wrap a0)] : List Int)) : Z1)
 )

inductive ZaV where
 | r0 (w2 : Int)
 | r1 (w2 : List Int)

inductive Zar where
 | h1m0 (v4 : List Int) (v5 : Nat)
 | h2m0 (v2 : List Int) (v3 : Int) (v4 : Nat)

def Zb9 (L1 : List R_iiii) (n2 : Nat) (n3 : Nat) (N : Nat) (v4 : List Int) (v5 : Nat) : Option (Zar ⊕ ZaV) :=
 if (v5 : Int) < (n2 : Int) then
  if v5 < L1.length then
   ((Zm ((L1.getD v5 R_iiii.z).a0) ((L1.getD v5 R_iiii.z).a1) ((L1.getD v5 R_iiii.z).a2) ((L1.getD v5 R_iiii.z).a3) N).bind fun r => match r with
   | .r0 =>
    some (.inr (.r0 ((110 : Int)) : ZaV))
   | .r1 y2_0 =>
    if y2_0.length = 0 then
     if (((v5 + 1) : Nat) : Int) ≤ (9223372036854775807 : Int) then
      some (.inl (.h1m0 (v4) ((v5 + 1)) : Zar))
     else
     none
    else
    if y2_0.length ≤ 100000 then
     if v4.length ≤ 100000 then
      if (((v5 + 1) : Nat) : Int) ≤ (9223372036854775807 : Int) then
       some (.inl (.h1m0 ((v4 ++ y2_0)) ((v5 + 1)) : Zar))
      else
      none
     else
     none
    else
    none
   )
  else
  none
 else
 some (.inl (.h2m0 (v4) ((0 : Int)) (0) : Zar))

def Zcv (L1 : List R_iiii) (n2 : Nat) (n3 : Nat) (N : Nat) (v2 : List Int) (v3 : Int) (v4 : Nat) : Option (Zar ⊕ ZaV) :=
 if (v4 : Int) < (v2.length : Int) then
  if (-9223372036854775808 : Int) ≤ (v2.getD v4 0) then
   if (v2.getD v4 0) ≤ (9223372036854775807 : Int) then
    if (((v4 + 1) : Nat) : Int) ≤ (9223372036854775807 : Int) then
     some (.inl (.h2m0 (v2) ((IntKind.i64.wrap (v3 + (v2.getD v4 0)))) ((v4 + 1)) : Zar))
    else
    none
   else
   none
  else
  none
 else
 if v2.length ≤ 100000 then
  some (.inr (.r1 ((v2 ++ ([(IntKind.u8.wrap (Int.tmod v3 (256 : Int)))] : List Int))) : ZaV))
 else
 none

def Zbn (L1 : List R_iiii) (n2 : Nat) (n3 : Nat) (N : Nat) : Zar → Option (Zar ⊕ ZaV)
 | .h1m0 v4 v5 => Zb9 L1 n2 n3 N v4 v5
 | .h2m0 v2 v3 v4 => Zcv L1 n2 n3 N v2 v3 v4

def ZfR (L1 : List R_iiii) (n2 : Nat) (n3 : Nat) (N : Nat) : Option (Zar ⊕ ZaV) :=
 if (512 : Int) < (n2 : Int) then
  some (.inr (.r0 ((3 : Int)) : ZaV))
 else
 some (.inl (.h1m0 (([(71 : Int), (78 : Int), (84 : Int), (1 : Int), ((n2 : Int) / (256 : Int)), ((n2 : Int) % (256 : Int))] : List Int)) (0) : Zar))

def ZbB (L1 : List R_iiii) (n2 : Nat) (n3 : Nat) (N : Nat) : Option ZaV := goM (Zbn L1 n2 n3 N) N (ZfR L1 n2 n3 N)

inductive ZcU where
 | r0 (w2 : Int)

inductive Zb5 where
 | h1m0 (v5 : Nat) (v6 : Int)

def Zda (L1 : List Int) (n2 : Nat) (n3 : Nat) (N : Nat) (v5 : Nat) (v6 : Int) : Option (Zb5 ⊕ ZcU) :=
 if (v5 : Int) < (n2 : Int) then
  if v5 < L1.length then
   if (((v5 + 1) : Nat) : Int) ≤ (9223372036854775807 : Int) then
    some (.inl (.h1m0 ((v5 + 1)) ((IntKind.u8.wrap (v6 + (L1.getD v5 0)))) : Zb5))
   else
   none
  else
  none
 else
 some (.inr (.r0 (v6) : ZcU))

def ZeO (L1 : List Int) (n2 : Nat) (n3 : Nat) (N : Nat) : Zb5 → Option (Zb5 ⊕ ZcU)
 | .h1m0 v5 v6 => Zda L1 n2 n3 N v5 v6

def ZgJ (L1 : List Int) (n2 : Nat) (n3 : Nat) (N : Nat) : Option (Zb5 ⊕ ZcU) :=
 some (.inl (.h1m0 (0) ((0 : Int)) : Zb5))

def Ziz (L1 : List Int) (n2 : Nat) (n3 : Nat) (N : Nat) : Option ZcU := goM (ZeO L1 n2 n3 N) N (ZgJ L1 n2 n3 N)

inductive ZcV where
 | r0 (w2 : Int)

inductive Zb6 where
 | h1m0 (v2 : Int) (v7 : Nat)

def Zdb (L1 : List Int) (n2 : Nat) (n3 : Nat) (n4 : Nat) (N : Nat) (v2 : Int) (v7 : Nat) : Option (Zb6 ⊕ ZcV) :=
 if (v7 : Int) < (n3 : Int) then
  if (v7 + n2) < L1.length then
   if (0 : Int) ≤ (L1.getD (v7 + n2) 0) then
    if (L1.getD (v7 + n2) 0) ≤ (18446744073709551615 : Int) then
     if (((v7 + 1) : Nat) : Int) ≤ (9223372036854775807 : Int) then
      some (.inl (.h1m0 ((IntKind.u64.wrap (((BitVec.ofInt IntKind.u64.bits (IntKind.u64.wrap (v2 * (2 ^ 8 : Int))) ||| BitVec.ofInt IntKind.u64.bits (L1.getD (v7 + n2) 0)).toNat : Nat) : Int))) ((v7 + 1)) : Zb6))
     else
     none
    else
    none
   else
   none
  else
  none
 else
 some (.inr (.r0 ((IntKind.i64.wrap v2)) : ZcV))

def ZeP (L1 : List Int) (n2 : Nat) (n3 : Nat) (n4 : Nat) (N : Nat) : Zb6 → Option (Zb6 ⊕ ZcV)
 | .h1m0 v2 v7 => Zdb L1 n2 n3 n4 N v2 v7

def ZiM (L1 : List Int) (n2 : Nat) (n3 : Nat) (n4 : Nat) (N : Nat) : Option (Zb6 ⊕ ZcV) :=
 some (.inl (.h1m0 ((0 : Int)) (0) : Zb6))

def Zd2 (L1 : List Int) (n2 : Nat) (n3 : Nat) (n4 : Nat) (N : Nat) : Option ZcV := goM (ZeP L1 n2 n3 n4 N) N (ZiM L1 n2 n3 n4 N)

inductive Zaf where
 | r0 (w6 : Int)
 | r1 (w3 : Int) (w4 : Int) (w5 : Int) (w6 : List Int)

inductive ZU where
 | h1m0 (v8 : Int) (v9 : Int) (v10 : Int)
 | h1m1 (v5 : Nat) (v6 : Nat) (v7 : Nat) (v8 : Int) (v9 : Int) (v10 : Int) (v15 : Int)
 | h1m2 (v5 : Nat) (v6 : Nat) (v7 : Nat) (v8 : Int) (v9 : Int) (v10 : Int) (v15 : Int) (v16 : Int)
 | h1m3 (v5 : Nat) (v6 : Nat) (v7 : Nat) (v8 : Int) (v9 : Int) (v10 : Int) (v15 : Int) (v16 : Int) (v17 : Int)

def Zcw (L1 : List Int) (n2 : Nat) (n3 : Nat) (n4 : Nat) (N : Nat) (v8 : Int) (v9 : Int) (v10 : Int) : Option (ZU ⊕ Zaf) :=
 ((Zv (v8) N).bind fun r => match r with
 | .r0 y0_0 =>
  if (((n3 - 1) : Nat) : Int) < y0_0 then
   some (.inr (.r0 ((6 : Int)) : Zaf))
  else
  ((Zv (v8) N).bind fun r => match r with
  | .r0 y2_0 =>
   if (0 : Int) ≤ y2_0 then
    if y2_0 ≤ (((n4 - 1) : Nat) : Int) then
     ((Zd2 (L1) ((n2 + 1)) (((y2_0).toNat - 0)) (((n4 - 1) - 0)) N).bind fun r => match r with
     | .r0 y5_0 =>
      ((Zv (v8) N).bind fun r => match r with
      | .r0 y6_0 =>
       if (0 : Int) ≤ y6_0 then
        if y6_0 ≤ (((n3 - 1) : Nat) : Int) then
         if (((n3 - 1) : Nat) : Int) ≤ (((n4 - 1) : Nat) : Int) then
          some (.inl (.h1m1 (((y6_0).toNat + (n2 + 1))) (((n3 - 1) - (y6_0).toNat)) (((n4 - 1) - (y6_0).toNat)) (v8) (v9) (v10) (y5_0) : ZU))
         else
         none
        else
        none
       else
       none
      )
     )
    else
    none
   else
   none
  )
 )

def Zcx (L1 : List Int) (n2 : Nat) (n3 : Nat) (n4 : Nat) (N : Nat) (v5 : Nat) (v6 : Nat) (v7 : Nat) (v8 : Int) (v9 : Int) (v10 : Int) (v15 : Int) : Option (ZU ⊕ Zaf) :=
 ((Zv (v9) N).bind fun r => match r with
 | .r0 y0_0 =>
  if (v6 : Int) < y0_0 then
   some (.inr (.r0 ((6 : Int)) : Zaf))
  else
  ((Zv (v9) N).bind fun r => match r with
  | .r0 y2_0 =>
   if (0 : Int) ≤ y2_0 then
    if y2_0 ≤ (v7 : Int) then
     ((Zd2 (L1) (v5) (((y2_0).toNat - 0)) ((v7 - 0)) N).bind fun r => match r with
     | .r0 y5_0 =>
      ((Zv (v9) N).bind fun r => match r with
      | .r0 y6_0 =>
       if (0 : Int) ≤ y6_0 then
        if y6_0 ≤ (v6 : Int) then
         if (v6 : Int) ≤ (v7 : Int) then
          some (.inl (.h1m2 (((y6_0).toNat + v5)) ((v6 - (y6_0).toNat)) ((v7 - (y6_0).toNat)) (v8) (v9) (v10) (v15) (y5_0) : ZU))
         else
         none
        else
        none
       else
       none
      )
     )
    else
    none
   else
   none
  )
 )

def Zcy (L1 : List Int) (n2 : Nat) (n3 : Nat) (n4 : Nat) (N : Nat) (v5 : Nat) (v6 : Nat) (v7 : Nat) (v8 : Int) (v9 : Int) (v10 : Int) (v15 : Int) (v16 : Int) : Option (ZU ⊕ Zaf) :=
 ((Zv (v10) N).bind fun r => match r with
 | .r0 y0_0 =>
  if (v6 : Int) < y0_0 then
   some (.inr (.r0 ((6 : Int)) : Zaf))
  else
  ((Zv (v10) N).bind fun r => match r with
  | .r0 y2_0 =>
   if (0 : Int) ≤ y2_0 then
    if y2_0 ≤ (v7 : Int) then
     ((Zd2 (L1) (v5) (((y2_0).toNat - 0)) ((v7 - 0)) N).bind fun r => match r with
     | .r0 y5_0 =>
      ((Zv (v10) N).bind fun r => match r with
      | .r0 y6_0 =>
       if (0 : Int) ≤ y6_0 then
        if y6_0 ≤ (v6 : Int) then
         if (v6 : Int) ≤ (v7 : Int) then
          some (.inl (.h1m3 (((y6_0).toNat + v5)) ((v6 - (y6_0).toNat)) ((v7 - (y6_0).toNat)) (v8) (v9) (v10) (v15) (v16) (y5_0) : ZU))
         else
         none
        else
        none
       else
       none
      )
     )
    else
    none
   else
   none
  )
 )

def Zdj (L1 : List Int) (n2 : Nat) (n3 : Nat) (n4 : Nat) (N : Nat) (v5 : Nat) (v6 : Nat) (v7 : Nat) (v8 : Int) (v9 : Int) (v10 : Int) (v15 : Int) (v16 : Int) (v17 : Int) : Option (ZU ⊕ Zaf) :=
 if 0 < n3 then
  if n2 < L1.length then
   if (-9223372036854775808 : Int) ≤ (L1.getD n2 0) then
    if (L1.getD n2 0) ≤ (9223372036854775807 : Int) then
     ((Z6 ((L1.getD n2 0)) (v15) (v16) (v17) N).bind fun r => match r with
     | .r0 y4_0 =>
      if ¬ (y4_0 = (0 : Int)) then
       some (.inr (.r0 (y4_0) : Zaf))
      else
      if v6 = 0 then
       some (.inr (.r1 (v15) (v16) (v17) (([] : List Int)) : Zaf))
      else
      if v6 ≤ 100000 then
       if (v5 + v6) ≤ L1.length then
        some (.inr (.r1 (v15) (v16) (v17) (((L1.drop v5).take v6)) : Zaf))
       else
       none
      else
      none
     )
    else
    none
   else
   none
  else
  none
 else
 none

def ZaL (L1 : List Int) (n2 : Nat) (n3 : Nat) (n4 : Nat) (N : Nat) : ZU → Option (ZU ⊕ Zaf)
 | .h1m0 v8 v9 v10 => Zcw L1 n2 n3 n4 N v8 v9 v10
 | .h1m1 v5 v6 v7 v8 v9 v10 v15 => Zcx L1 n2 n3 n4 N v5 v6 v7 v8 v9 v10 v15
 | .h1m2 v5 v6 v7 v8 v9 v10 v15 v16 => Zcy L1 n2 n3 n4 N v5 v6 v7 v8 v9 v10 v15 v16
 | .h1m3 v5 v6 v7 v8 v9 v10 v15 v16 v17 => Zdj L1 n2 n3 n4 N v5 v6 v7 v8 v9 v10 v15 v16 v17

def ZeQ (L1 : List Int) (n2 : Nat) (n3 : Nat) (n4 : Nat) (N : Nat) : Option (ZU ⊕ Zaf) :=
 if (n3 : Int) = (0 : Int) then
  some (.inr (.r0 ((6 : Int)) : Zaf))
 else
 if n2 < L1.length then
  if (-9223372036854775808 : Int) ≤ (L1.getD n2 0) then
   if (L1.getD n2 0) ≤ (9223372036854775807 : Int) then
    ((ZbN ((L1.getD n2 0)) N).bind fun r => match r with
    | .r0 y4_0 y4_1 y4_2 y4_3 =>
     if (ZcN y4_0 ([] : List Int)) = true then
      some (.inr (.r0 ((100 : Int)) : Zaf))
     else
     if (n3 : Int) ≤ (n4 : Int) then
      some (.inl (.h1m0 (y4_1) (y4_2) (y4_3) : ZU))
     else
     none
    )
   else
   none
  else
  none
 else
 none

def Zdc (L1 : List Int) (n2 : Nat) (n3 : Nat) (n4 : Nat) (N : Nat) : Option Zaf := goM (ZaL L1 n2 n3 n4 N) N (ZeQ L1 n2 n3 n4 N)

inductive ZdE where
 | r0

def ZeR  (N : Nat) : Option ZdE :=
 some (.r0 : ZdE)

inductive Zcn where
 | r0 (w1 : Int)

inductive ZaW where
 | h1m0 (v1 : Int) (v6 : Nat)

def Zcz (L0 : List Int) (n1 : Nat) (n2 : Nat) (n3 : Nat) (N : Nat) (v1 : Int) (v6 : Nat) : Option (ZaW ⊕ Zcn) :=
 if (v6 : Int) < (n2 : Int) then
  if (v6 + n1) < L0.length then
   if (0 : Int) ≤ (L0.getD (v6 + n1) 0) then
    if (L0.getD (v6 + n1) 0) ≤ (18446744073709551615 : Int) then
     if (((v6 + 1) : Nat) : Int) ≤ (9223372036854775807 : Int) then
      some (.inl (.h1m0 ((IntKind.u64.wrap (((BitVec.ofInt IntKind.u64.bits (IntKind.u64.wrap (v1 * (2 ^ 8 : Int))) ||| BitVec.ofInt IntKind.u64.bits (L0.getD (v6 + n1) 0)).toNat : Nat) : Int))) ((v6 + 1)) : ZaW))
     else
     none
    else
    none
   else
   none
  else
  none
 else
 some (.inr (.r0 ((IntKind.i64.wrap v1)) : Zcn))

def Zeg (L0 : List Int) (n1 : Nat) (n2 : Nat) (n3 : Nat) (N : Nat) : ZaW → Option (ZaW ⊕ Zcn)
 | .h1m0 v1 v6 => Zcz L0 n1 n2 n3 N v1 v6

def Zhk (L0 : List Int) (n1 : Nat) (n2 : Nat) (n3 : Nat) (N : Nat) : Option (ZaW ⊕ Zcn) :=
 some (.inl (.h1m0 ((0 : Int)) (0) : ZaW))

def ZcA (L0 : List Int) (n1 : Nat) (n2 : Nat) (n3 : Nat) (N : Nat) : Option Zcn := goM (Zeg L0 n1 n2 n3 N) N (Zhk L0 n1 n2 n3 N)

inductive ZR where
 | r0 (w5 : Int)
 | r1 (w2 : Int) (w3 : Int) (w4 : Int) (w5 : List Int)

inductive ZJ where
 | h1m0 (v6 : Int) (v7 : Int) (v8 : Int)
 | h1m1 (v3 : Nat) (v4 : Nat) (v5 : Nat) (v6 : Int) (v7 : Int) (v8 : Int) (v13 : Int)
 | h1m2 (v3 : Nat) (v4 : Nat) (v5 : Nat) (v6 : Int) (v7 : Int) (v8 : Int) (v13 : Int) (v14 : Int)
 | h1m3 (v3 : Nat) (v4 : Nat) (v5 : Nat) (v6 : Int) (v7 : Int) (v8 : Int) (v13 : Int) (v14 : Int) (v15 : Int)

def ZbV (L0 : List Int) (n1 : Nat) (n2 : Nat) (N : Nat) (v6 : Int) (v7 : Int) (v8 : Int) : Option (ZJ ⊕ ZR) :=
 ((Zv (v6) N).bind fun r => match r with
 | .r0 y0_0 =>
  if (((n1 - 1) : Nat) : Int) < y0_0 then
   some (.inr (.r0 ((6 : Int)) : ZR))
  else
  ((Zv (v6) N).bind fun r => match r with
  | .r0 y2_0 =>
   if (0 : Int) ≤ y2_0 then
    if y2_0 ≤ (((n2 - 1) : Nat) : Int) then
     ((ZcA (L0) (1) (((y2_0).toNat - 0)) (((n2 - 1) - 0)) N).bind fun r => match r with
     | .r0 y5_0 =>
      ((Zv (v6) N).bind fun r => match r with
      | .r0 y6_0 =>
       if (0 : Int) ≤ y6_0 then
        if y6_0 ≤ (((n1 - 1) : Nat) : Int) then
         if (((n1 - 1) : Nat) : Int) ≤ (((n2 - 1) : Nat) : Int) then
          some (.inl (.h1m1 (((y6_0).toNat + 1)) (((n1 - 1) - (y6_0).toNat)) (((n2 - 1) - (y6_0).toNat)) (v6) (v7) (v8) (y5_0) : ZJ))
         else
         none
        else
        none
       else
       none
      )
     )
    else
    none
   else
   none
  )
 )

def ZbW (L0 : List Int) (n1 : Nat) (n2 : Nat) (N : Nat) (v3 : Nat) (v4 : Nat) (v5 : Nat) (v6 : Int) (v7 : Int) (v8 : Int) (v13 : Int) : Option (ZJ ⊕ ZR) :=
 ((Zv (v7) N).bind fun r => match r with
 | .r0 y0_0 =>
  if (v4 : Int) < y0_0 then
   some (.inr (.r0 ((6 : Int)) : ZR))
  else
  ((Zv (v7) N).bind fun r => match r with
  | .r0 y2_0 =>
   if (0 : Int) ≤ y2_0 then
    if y2_0 ≤ (v5 : Int) then
     ((ZcA (L0) (v3) (((y2_0).toNat - 0)) ((v5 - 0)) N).bind fun r => match r with
     | .r0 y5_0 =>
      ((Zv (v7) N).bind fun r => match r with
      | .r0 y6_0 =>
       if (0 : Int) ≤ y6_0 then
        if y6_0 ≤ (v4 : Int) then
         if (v4 : Int) ≤ (v5 : Int) then
          some (.inl (.h1m2 (((y6_0).toNat + v3)) ((v4 - (y6_0).toNat)) ((v5 - (y6_0).toNat)) (v6) (v7) (v8) (v13) (y5_0) : ZJ))
         else
         none
        else
        none
       else
       none
      )
     )
    else
    none
   else
   none
  )
 )

def ZbX (L0 : List Int) (n1 : Nat) (n2 : Nat) (N : Nat) (v3 : Nat) (v4 : Nat) (v5 : Nat) (v6 : Int) (v7 : Int) (v8 : Int) (v13 : Int) (v14 : Int) : Option (ZJ ⊕ ZR) :=
 ((Zv (v8) N).bind fun r => match r with
 | .r0 y0_0 =>
  if (v4 : Int) < y0_0 then
   some (.inr (.r0 ((6 : Int)) : ZR))
  else
  ((Zv (v8) N).bind fun r => match r with
  | .r0 y2_0 =>
   if (0 : Int) ≤ y2_0 then
    if y2_0 ≤ (v5 : Int) then
     ((ZcA (L0) (v3) (((y2_0).toNat - 0)) ((v5 - 0)) N).bind fun r => match r with
     | .r0 y5_0 =>
      ((Zv (v8) N).bind fun r => match r with
      | .r0 y6_0 =>
       if (0 : Int) ≤ y6_0 then
        if y6_0 ≤ (v4 : Int) then
         if (v4 : Int) ≤ (v5 : Int) then
          some (.inl (.h1m3 (((y6_0).toNat + v3)) ((v4 - (y6_0).toNat)) ((v5 - (y6_0).toNat)) (v6) (v7) (v8) (v13) (v14) (y5_0) : ZJ))
         else
         none
        else
        none
       else
       none
      )
     )
    else
    none
   else
   none
  )
 )

def Zc6 (L0 : List Int) (n1 : Nat) (n2 : Nat) (N : Nat) (v3 : Nat) (v4 : Nat) (v5 : Nat) (v6 : Int) (v7 : Int) (v8 : Int) (v13 : Int) (v14 : Int) (v15 : Int) : Option (ZJ ⊕ ZR) :=
 if 0 < n1 then
  if 0 < L0.length then
   if (-9223372036854775808 : Int) ≤ (L0.getD 0 0) then
    if (L0.getD 0 0) ≤ (9223372036854775807 : Int) then
     ((Z6 ((L0.getD 0 0)) (v13) (v14) (v15) N).bind fun r => match r with
     | .r0 y4_0 =>
      if ¬ (y4_0 = (0 : Int)) then
       some (.inr (.r0 (y4_0) : ZR))
      else
      if v4 = 0 then
       some (.inr (.r1 (v13) (v14) (v15) (([] : List Int)) : ZR))
      else
      if v4 ≤ 100000 then
       if (v3 + v4) ≤ L0.length then
        some (.inr (.r1 (v13) (v14) (v15) (((L0.drop v3).take v4)) : ZR))
       else
       none
      else
      none
     )
    else
    none
   else
   none
  else
  none
 else
 none

def Za5 (L0 : List Int) (n1 : Nat) (n2 : Nat) (N : Nat) : ZJ → Option (ZJ ⊕ ZR)
 | .h1m0 v6 v7 v8 => ZbV L0 n1 n2 N v6 v7 v8
 | .h1m1 v3 v4 v5 v6 v7 v8 v13 => ZbW L0 n1 n2 N v3 v4 v5 v6 v7 v8 v13
 | .h1m2 v3 v4 v5 v6 v7 v8 v13 v14 => ZbX L0 n1 n2 N v3 v4 v5 v6 v7 v8 v13 v14
 | .h1m3 v3 v4 v5 v6 v7 v8 v13 v14 v15 => Zc6 L0 n1 n2 N v3 v4 v5 v6 v7 v8 v13 v14 v15

def Zeh (L0 : List Int) (n1 : Nat) (n2 : Nat) (N : Nat) : Option (ZJ ⊕ ZR) :=
 if (n1 : Int) = (0 : Int) then
  some (.inr (.r0 ((6 : Int)) : ZR))
 else
 if 0 < L0.length then
  if (-9223372036854775808 : Int) ≤ (L0.getD 0 0) then
   if (L0.getD 0 0) ≤ (9223372036854775807 : Int) then
    ((ZbN ((L0.getD 0 0)) N).bind fun r => match r with
    | .r0 y4_0 y4_1 y4_2 y4_3 =>
     if (ZcN y4_0 ([] : List Int)) = true then
      some (.inr (.r0 ((100 : Int)) : ZR))
     else
     if (n1 : Int) ≤ (n2 : Int) then
      some (.inl (.h1m0 (y4_1) (y4_2) (y4_3) : ZJ))
     else
     none
    )
   else
   none
  else
  none
 else
 none

def Zcp (L0 : List Int) (n1 : Nat) (n2 : Nat) (N : Nat) : Option ZR := goM (Za5 L0 n1 n2 N) N (Zeh L0 n1 n2 N)

inductive ZP where
 | r0 (w2 : Int)
 | r1 (w2 : List R_iiii)

inductive Zaj where
 | h1m0
 | h1m1 (v2 : List R_iiii) (v4 : Nat)
 | h1m2 (v2 : List Int) (v3 : List R_iiii) (v5 : Nat)

def Zbo (L1 : List Int) (n2 : Nat) (n3 : Nat) (N : Nat) : Option (Zaj ⊕ ZP) :=
 if (0 : Int) < (IntKind.i64.wrap (((BitVec.ofInt IntKind.i64.bits (IntKind.i64.wrap ((L1.getD 4 0) * (2 ^ 8 : Int))) ||| BitVec.ofInt IntKind.i64.bits (L1.getD 5 0)).toNat : Nat) : Int)) then
  ((Zdc (L1) (6) (((n2 - 1) - 6)) ((n3 - 6)) N).bind fun r => match r with
  | .r0 y1_0 =>
   if ¬ (y1_0 = (0 : Int)) then
    some (.inr (.r0 ((110 : Int)) : ZP))
   else
   some (.inl (.h1m1 (([(⟨(0 : Int), (0 : Int), (0 : Int), (0 : Int)⟩ : R_iiii)] : List R_iiii)) (1) : Zaj))
  | .r1 y1_0 y1_1 y1_2 y1_3 =>
   some (.inl (.h1m2 (y1_3) (([(⟨(L1.getD 6 0), y1_0, y1_1, y1_2⟩ : R_iiii)] : List R_iiii)) (1) : Zaj))
  )
 else
 if (0 : Int) < ((((n2 - 1) - 6) : Nat) : Int) then
  some (.inr (.r0 ((110 : Int)) : ZP))
 else
 some (.inr (.r0 ((0 : Int)) : ZP))

def Zgv (L1 : List Int) (n2 : Nat) (n3 : Nat) (N : Nat) (v2 : List R_iiii) (v4 : Nat) : Option (Zaj ⊕ ZP) :=
 if (v4 : Int) < (IntKind.i64.wrap (((BitVec.ofInt IntKind.i64.bits (IntKind.i64.wrap ((L1.getD 4 0) * (2 ^ 8 : Int))) ||| BitVec.ofInt IntKind.i64.bits (L1.getD 5 0)).toNat : Nat) : Int)) then
  ((ZeR N).bind fun r => match r with
  | .r0 =>
   some (.inr (.r0 ((110 : Int)) : ZP))
  )
 else
 some (.inr (.r1 (v2) : ZP))

def Zbp (L1 : List Int) (n2 : Nat) (n3 : Nat) (N : Nat) (v2 : List Int) (v3 : List R_iiii) (v5 : Nat) : Option (Zaj ⊕ ZP) :=
 if (v5 : Int) < (IntKind.i64.wrap (((BitVec.ofInt IntKind.i64.bits (IntKind.i64.wrap ((L1.getD 4 0) * (2 ^ 8 : Int))) ||| BitVec.ofInt IntKind.i64.bits (L1.getD 5 0)).toNat : Nat) : Int)) then
  ((Zcp (v2) (v2.length) (v2.length) N).bind fun r => match r with
  | .r0 y1_0 =>
   if ¬ (y1_0 = (0 : Int)) then
    some (.inr (.r0 ((110 : Int)) : ZP))
   else
   if v3.length ≤ 100000 then
    some (.inl (.h1m1 ((v3 ++ ([(⟨(0 : Int), (0 : Int), (0 : Int), (0 : Int)⟩ : R_iiii)] : List R_iiii))) ((v5 + 1)) : Zaj))
   else
   none
  | .r1 y1_0 y1_1 y1_2 y1_3 =>
   if v3.length ≤ 100000 then
    some (.inl (.h1m2 (y1_3) ((v3 ++ ([(⟨(v2.getD 0 0), y1_0, y1_1, y1_2⟩ : R_iiii)] : List R_iiii))) ((v5 + 1)) : Zaj))
   else
   none
  )
 else
 if (0 : Int) < (v2.length : Int) then
  some (.inr (.r0 ((110 : Int)) : ZP))
 else
 some (.inr (.r1 (v3) : ZP))

def Zbl (L1 : List Int) (n2 : Nat) (n3 : Nat) (N : Nat) : Zaj → Option (Zaj ⊕ ZP)
 | .h1m0 => Zbo L1 n2 n3 N
 | .h1m1 v2 v4 => Zgv L1 n2 n3 N v2 v4
 | .h1m2 v2 v3 v5 => Zbp L1 n2 n3 N v2 v3 v5

def ZbO (L1 : List Int) (n2 : Nat) (n3 : Nat) (N : Nat) : Option (Zaj ⊕ ZP) :=
 if (n2 : Int) < (7 : Int) then
  some (.inr (.r0 ((6 : Int)) : ZP))
 else
 if 4 < L1.length then
  if (-9223372036854775808 : Int) ≤ (L1.getD 4 0) then
   if (L1.getD 4 0) ≤ (9223372036854775807 : Int) then
    if 5 < L1.length then
     if (-9223372036854775808 : Int) ≤ (L1.getD 5 0) then
      if (L1.getD 5 0) ≤ (9223372036854775807 : Int) then
       if ((n2 : Int) - (1 : Int)) ≤ (9223372036854775807 : Int) then
        if (((n2 - 1) : Nat) : Int) ≤ (n3 : Int) then
         if (n2 - 1) < L1.length then
          if (ZcN (L1.take (4 - 0)) ([(71 : Int), (78 : Int), (84 : Int), (1 : Int)] : List Int)) = true then
           if (512 : Int) < (IntKind.i64.wrap (((BitVec.ofInt IntKind.i64.bits (IntKind.i64.wrap ((L1.getD 4 0) * (2 ^ 8 : Int))) ||| BitVec.ofInt IntKind.i64.bits (L1.getD 5 0)).toNat : Nat) : Int)) then
            some (.inr (.r0 ((110 : Int)) : ZP))
           else
           if (IntKind.i64.wrap ((IntKind.i64.wrap (((BitVec.ofInt IntKind.i64.bits (IntKind.i64.wrap ((L1.getD 4 0) * (2 ^ 8 : Int))) ||| BitVec.ofInt IntKind.i64.bits (L1.getD 5 0)).toNat : Nat) : Int)) * (10 : Int))) < ((((n2 - 1) - 6) : Nat) : Int) then
            some (.inr (.r0 ((110 : Int)) : ZP))
           else
           ((Ziz (L1) (((n2 - 1) - 0)) ((n3 - 0)) N).bind fun r => match r with
           | .r0 y13_0 =>
            if ¬ (y13_0 = (L1.getD (n2 - 1) 0)) then
             some (.inr (.r0 ((110 : Int)) : ZP))
            else
            some (.inl (.h1m0 : Zaj))
           )
          else
          some (.inr (.r0 ((110 : Int)) : ZP))
         else
         none
        else
        none
       else
       none
      else
      none
     else
     none
    else
    none
   else
   none
  else
  none
 else
 none

def Zb7 (L1 : List Int) (n2 : Nat) (n3 : Nat) (N : Nat) : Option ZP := goM (Zbl L1 n2 n3 N) N (ZbO L1 n2 n3 N)

inductive ZbF where
 | r0 (w0 : Int)

def Zdd (a0 : Int) (N : Nat) : Option ZbF :=
 if a0 = (2 : Int) then
  some (.r0 ((8 : Int)) : ZbF)
 else
 if a0 = (3 : Int) then
  some (.r0 ((2 : Int)) : ZbF)
 else
 if a0 = (6 : Int) then
  some (.r0 ((3 : Int)) : ZbF)
 else
 if a0 = (0 : Int) then
  some (.r0 ((0 : Int)) : ZbF)
 else
 some (.r0 ((1 : Int)) : ZbF)

inductive Zd3 where
 | r0 (w2 : Int)

inductive ZbL where
 | h1m0 (v5 : Int) (v6 : Nat)

def Zdx (L1 : List Int) (n2 : Nat) (n3 : Nat) (n4 : Nat) (N : Nat) (v5 : Int) (v6 : Nat) : Option (ZbL ⊕ Zd3) :=
 if (v6 : Int) < (n3 : Int) then
  if (v6 + n2) < L1.length then
   if (0 : Int) ≤ (L1.getD (v6 + n2) 0) then
    if (L1.getD (v6 + n2) 0) ≤ (18446744073709551615 : Int) then
     if (((v6 + 1) : Nat) : Int) ≤ (9223372036854775807 : Int) then
      some (.inl (.h1m0 ((IntKind.u64.wrap ((IntKind.u64.wrap ((256 : Int) * v5)) + (L1.getD (v6 + n2) 0)))) ((v6 + 1)) : ZbL))
     else
     none
    else
    none
   else
   none
  else
  none
 else
 some (.inr (.r0 ((IntKind.i64.wrap v5)) : Zd3))

def Zfx (L1 : List Int) (n2 : Nat) (n3 : Nat) (n4 : Nat) (N : Nat) : ZbL → Option (ZbL ⊕ Zd3)
 | .h1m0 v5 v6 => Zdx L1 n2 n3 n4 N v5 v6

def ZjT (L1 : List Int) (n2 : Nat) (n3 : Nat) (n4 : Nat) (N : Nat) : Option (ZbL ⊕ Zd3) :=
 some (.inl (.h1m0 ((0 : Int)) (0) : ZbL))

def ZfJ (L1 : List Int) (n2 : Nat) (n3 : Nat) (n4 : Nat) (N : Nat) : Option Zd3 := goM (Zfx L1 n2 n3 n4 N) N (ZjT L1 n2 n3 n4 N)

inductive ZaX where
 | r0 (w6 : Int)
 | r1 (w3 : Int) (w4 : Int) (w5 : Int) (w6 : Nat) (w7 : Nat) (w8 : Nat)

def Zb1 (L1 : List Int) (n2 : Nat) (n3 : Nat) (n4 : Nat) (N : Nat) : Option ZaX :=
 if (n3 : Int) = (0 : Int) then
  some (.r0 ((6 : Int)) : ZaX)
 else
 if n2 < L1.length then
  if (-9223372036854775808 : Int) ≤ (L1.getD n2 0) then
   if (L1.getD n2 0) ≤ (9223372036854775807 : Int) then
    ((Zc3 ((L1.getD n2 0)) N).bind fun r => match r with
    | .r0 y4_0 y4_1 y4_2 y4_3 =>
     if ¬ (y4_3 = true) then
      some (.r0 ((100 : Int)) : ZaX)
     else
     ((Zdd (y4_0) N).bind fun r => match r with
     | .r0 y6_0 =>
      ((Zdd (y4_0) N).bind fun r => match r with
      | .r0 y7_0 =>
       ((Zdd (y4_1) N).bind fun r => match r with
       | .r0 y8_0 =>
        ((Zdd (y4_2) N).bind fun r => match r with
        | .r0 y9_0 =>
         if (n3 : Int) < (IntKind.i64.wrap ((IntKind.i64.wrap ((IntKind.i64.wrap ((1 : Int) + y7_0)) + y8_0)) + y9_0)) then
          some (.r0 ((6 : Int)) : ZaX)
         else
         if (1 : Int) ≤ (IntKind.i64.wrap ((1 : Int) + y6_0)) then
          if (IntKind.i64.wrap ((1 : Int) + y6_0)) ≤ (n4 : Int) then
           ((ZfJ (L1) ((n2 + 1)) ((((IntKind.i64.wrap ((1 : Int) + y6_0))).toNat - 1)) ((n4 - 1)) N).bind fun r => match r with
           | .r0 y13_0 =>
            if (IntKind.i64.wrap ((1 : Int) + y6_0)) ≤ (IntKind.i64.wrap ((IntKind.i64.wrap ((1 : Int) + y7_0)) + y8_0)) then
             if (IntKind.i64.wrap ((IntKind.i64.wrap ((1 : Int) + y7_0)) + y8_0)) ≤ (n4 : Int) then
              ((ZfJ (L1) ((((IntKind.i64.wrap ((1 : Int) + y6_0))).toNat + n2)) ((((IntKind.i64.wrap ((IntKind.i64.wrap ((1 : Int) + y7_0)) + y8_0))).toNat - ((IntKind.i64.wrap ((1 : Int) + y6_0))).toNat)) ((n4 - ((IntKind.i64.wrap ((1 : Int) + y6_0))).toNat)) N).bind fun r => match r with
              | .r0 y16_0 =>
               if (IntKind.i64.wrap ((IntKind.i64.wrap ((1 : Int) + y7_0)) + y8_0)) ≤ (IntKind.i64.wrap ((IntKind.i64.wrap ((IntKind.i64.wrap ((1 : Int) + y7_0)) + y8_0)) + y9_0)) then
                if (IntKind.i64.wrap ((IntKind.i64.wrap ((IntKind.i64.wrap ((1 : Int) + y7_0)) + y8_0)) + y9_0)) ≤ (n4 : Int) then
                 ((ZfJ (L1) ((((IntKind.i64.wrap ((IntKind.i64.wrap ((1 : Int) + y7_0)) + y8_0))).toNat + n2)) ((((IntKind.i64.wrap ((IntKind.i64.wrap ((IntKind.i64.wrap ((1 : Int) + y7_0)) + y8_0)) + y9_0))).toNat - ((IntKind.i64.wrap ((IntKind.i64.wrap ((1 : Int) + y7_0)) + y8_0))).toNat)) ((n4 - ((IntKind.i64.wrap ((IntKind.i64.wrap ((1 : Int) + y7_0)) + y8_0))).toNat)) N).bind fun r => match r with
                 | .r0 y19_0 =>
                  ((ZS ((L1.getD n2 0)) (y13_0) (y16_0) (y19_0) N).bind fun r => match r with
                  | .r0 y20_0 =>
                   if ¬ (y20_0 = true) then
                    some (.r0 ((100 : Int)) : ZaX)
                   else
                   if (n3 : Int) ≤ (n4 : Int) then
                    some (.r1 (y13_0) (y16_0) (y19_0) ((((IntKind.i64.wrap ((IntKind.i64.wrap ((IntKind.i64.wrap ((1 : Int) + y7_0)) + y8_0)) + y9_0))).toNat + n2)) ((n3 - ((IntKind.i64.wrap ((IntKind.i64.wrap ((IntKind.i64.wrap ((1 : Int) + y7_0)) + y8_0)) + y9_0))).toNat)) ((n4 - ((IntKind.i64.wrap ((IntKind.i64.wrap ((IntKind.i64.wrap ((1 : Int) + y7_0)) + y8_0)) + y9_0))).toNat)) : ZaX)
                   else
                   none
                  )
                 )
                else
                none
               else
               none
              )
             else
             none
            else
            none
           )
          else
          none
         else
         none
        )
       )
      )
     )
    )
   else
   none
  else
  none
 else
 none

inductive Zb2 where
 | r0 (w0 : List Int)

inductive Zau where
 | h1m0
 | h2m0 (v1 : Int) (v2 : Nat)

def Zf7  (N : Nat) : Option (Zau ⊕ Zb2) :=
 some (.inl (.h2m0 ((0 : Int)) (0) : Zau))

def ZbY  (N : Nat) (v1 : Int) (v2 : Nat) : Option (Zau ⊕ Zb2) :=
 if (v2 : Int) < (6 : Int) then
  some (.inl (.h2m0 ((IntKind.i64.wrap (v1 + (([(71 : Int), (78 : Int), (84 : Int), (1 : Int), (0 : Int), (0 : Int)] : List Int).getD v2 0)))) ((v2 + 1)) : Zau))
 else
 some (.inr (.r0 (([(71 : Int), (78 : Int), (84 : Int), (1 : Int), (0 : Int), (0 : Int), (IntKind.u8.wrap (Int.tmod v1 (256 : Int)))] : List Int)) : Zb2))

def ZcR  (N : Nat) : Zau → Option (Zau ⊕ Zb2)
 | .h1m0 => Zf7  N
 | .h2m0 v1 v2 => ZbY  N v1 v2

def Zfh  (N : Nat) : Option (Zau ⊕ Zb2) :=
 some (.inl (.h1m0 : Zau))

def ZdY  (N : Nat) : Option Zb2 := goM (ZcR  N) N (Zfh  N)

inductive ZdF where
 | r0

def ZeS  (N : Nat) : Option ZdF :=
 some (.r0 : ZdF)

inductive ZaM where
 | r0 (w1 : Int)
 | r1 (w1 : List Int)

inductive Zab where
 | h1m0 (v1 : List Int) (v2 : Nat)
 | h2m0 (v1 : List Int) (v2 : Int) (v3 : Nat)

def Zbr (L0 : List R_iiii) (N : Nat) (v1 : List Int) (v2 : Nat) : Option (Zab ⊕ ZaM) :=
 if (v2 : Int) < (L0.length : Int) then
  ((Zm ((L0.getD v2 R_iiii.z).a0) ((L0.getD v2 R_iiii.z).a1) ((L0.getD v2 R_iiii.z).a2) ((L0.getD v2 R_iiii.z).a3) N).bind fun r => match r with
  | .r0 =>
   some (.inr (.r0 ((110 : Int)) : ZaM))
  | .r1 y1_0 =>
   if y1_0.length = 0 then
    if (((v2 + 1) : Nat) : Int) ≤ (9223372036854775807 : Int) then
     some (.inl (.h1m0 (v1) ((v2 + 1)) : Zab))
    else
    none
   else
   if y1_0.length ≤ 100000 then
    if v1.length ≤ 100000 then
     if (((v2 + 1) : Nat) : Int) ≤ (9223372036854775807 : Int) then
      some (.inl (.h1m0 ((v1 ++ y1_0)) ((v2 + 1)) : Zab))
     else
     none
    else
    none
   else
   none
  )
 else
 some (.inl (.h2m0 (v1) ((0 : Int)) (0) : Zab))

def ZbZ (L0 : List R_iiii) (N : Nat) (v1 : List Int) (v2 : Int) (v3 : Nat) : Option (Zab ⊕ ZaM) :=
 if (v3 : Int) < (v1.length : Int) then
  if (-9223372036854775808 : Int) ≤ (v1.getD v3 0) then
   if (v1.getD v3 0) ≤ (9223372036854775807 : Int) then
    if (((v3 + 1) : Nat) : Int) ≤ (9223372036854775807 : Int) then
     some (.inl (.h2m0 (v1) ((IntKind.i64.wrap (v2 + (v1.getD v3 0)))) ((v3 + 1)) : Zab))
    else
    none
   else
   none
  else
  none
 else
 if v1.length ≤ 100000 then
  some (.inr (.r1 ((v1 ++ ([(IntKind.u8.wrap (Int.tmod v2 (256 : Int)))] : List Int))) : ZaM))
 else
 none

def ZaT (L0 : List R_iiii) (N : Nat) : Zab → Option (Zab ⊕ ZaM)
 | .h1m0 v1 v2 => Zbr L0 N v1 v2
 | .h2m0 v1 v2 v3 => ZbZ L0 N v1 v2 v3

def Zfi (L0 : List R_iiii) (N : Nat) : Option (Zab ⊕ ZaM) :=
 if (512 : Int) < (L0.length : Int) then
  some (.inr (.r0 ((3 : Int)) : ZaM))
 else
 some (.inl (.h1m0 (([(71 : Int), (78 : Int), (84 : Int), (1 : Int), ((L0.length : Int) / (256 : Int)), ((L0.length : Int) % (256 : Int))] : List Int)) (0) : Zab))

def Zbi (L0 : List R_iiii) (N : Nat) : Option ZaM := goM (ZaT L0 N) N (Zfi L0 N)

inductive Zr where
 | r0 (w2 : Int)
 | r1 (w2 : List R_iiii)

inductive Zac where
 | h1m0
 | h1m1 (v5 : List R_iiii) (v6 : Nat)
 | h1m2 (v5 : Nat) (v6 : Nat) (v7 : Nat) (v8 : List R_iiii) (v9 : Nat)

def Zbe (L1 : List Int) (n2 : Nat) (n3 : Nat) (N : Nat) : Option (Zac ⊕ Zr) :=
 if (0 : Int) < (IntKind.i64.wrap ((IntKind.i64.wrap ((256 : Int) * (L1.getD 4 0))) + (L1.getD 5 0))) then
  ((Zb1 (L1) (6) ((n2 - 6)) ((n3 - 6)) N).bind fun r => match r with
  | .r0 y1_0 =>
   if ¬ (y1_0 = (0 : Int)) then
    some (.inr (.r0 ((110 : Int)) : Zr))
   else
   some (.inl (.h1m1 (([(⟨(0 : Int), (0 : Int), (0 : Int), (0 : Int)⟩ : R_iiii)] : List R_iiii)) (1) : Zac))
  | .r1 y1_0 y1_1 y1_2 y1_3 y1_4 y1_5 =>
   some (.inl (.h1m2 (y1_3) (y1_4) (y1_5) (([(⟨(L1.getD 6 0), y1_0, y1_1, y1_2⟩ : R_iiii)] : List R_iiii)) (1) : Zac))
  )
 else
 ((ZdY N).bind fun r => match r with
 | .r0 y1_0 =>
  if n2 ≤ L1.length then
   if ¬ ((ZcN y1_0 (L1.take n2)) = true) then
    some (.inr (.r0 ((110 : Int)) : Zr))
   else
   some (.inr (.r0 ((0 : Int)) : Zr))
  else
  none
 )

def Zge (L1 : List Int) (n2 : Nat) (n3 : Nat) (N : Nat) (v5 : List R_iiii) (v6 : Nat) : Option (Zac ⊕ Zr) :=
 if (v6 : Int) < (IntKind.i64.wrap ((IntKind.i64.wrap ((256 : Int) * (L1.getD 4 0))) + (L1.getD 5 0))) then
  if (v6 : Int) < (513 : Int) then
   ((ZeS N).bind fun r => match r with
   | .r0 =>
    some (.inr (.r0 ((110 : Int)) : Zr))
   )
  else
  ((Zbi (v5) N).bind fun r => match r with
  | .r0 y2_0 =>
   if ¬ (y2_0 = (0 : Int)) then
    some (.inr (.r0 ((110 : Int)) : Zr))
   else
   if n2 ≤ L1.length then
    if ¬ ((ZcN ([] : List Int) (L1.take n2)) = true) then
     some (.inr (.r0 ((110 : Int)) : Zr))
    else
    some (.inr (.r1 (v5) : Zr))
   else
   none
  | .r1 y2_0 =>
   if n2 ≤ L1.length then
    if ¬ ((ZcN y2_0 (L1.take n2)) = true) then
     some (.inr (.r0 ((110 : Int)) : Zr))
    else
    some (.inr (.r1 (v5) : Zr))
   else
   none
  )
 else
 ((Zbi (v5) N).bind fun r => match r with
 | .r0 y1_0 =>
  if ¬ (y1_0 = (0 : Int)) then
   some (.inr (.r0 ((110 : Int)) : Zr))
  else
  if n2 ≤ L1.length then
   if ¬ ((ZcN ([] : List Int) (L1.take n2)) = true) then
    some (.inr (.r0 ((110 : Int)) : Zr))
   else
   some (.inr (.r1 (v5) : Zr))
  else
  none
 | .r1 y1_0 =>
  if n2 ≤ L1.length then
   if ¬ ((ZcN y1_0 (L1.take n2)) = true) then
    some (.inr (.r0 ((110 : Int)) : Zr))
   else
   some (.inr (.r1 (v5) : Zr))
  else
  none
 )

def ZaS (L1 : List Int) (n2 : Nat) (n3 : Nat) (N : Nat) (v5 : Nat) (v6 : Nat) (v7 : Nat) (v8 : List R_iiii) (v9 : Nat) : Option (Zac ⊕ Zr) :=
 if (v9 : Int) < (IntKind.i64.wrap ((IntKind.i64.wrap ((256 : Int) * (L1.getD 4 0))) + (L1.getD 5 0))) then
  if (v9 : Int) < (513 : Int) then
   ((Zb1 (L1) (v5) (v6) (v7) N).bind fun r => match r with
   | .r0 y2_0 =>
    if ¬ (y2_0 = (0 : Int)) then
     some (.inr (.r0 ((110 : Int)) : Zr))
    else
    if v8.length ≤ 100000 then
     some (.inl (.h1m1 ((v8 ++ ([(⟨(0 : Int), (0 : Int), (0 : Int), (0 : Int)⟩ : R_iiii)] : List R_iiii))) ((v9 + 1)) : Zac))
    else
    none
   | .r1 y2_0 y2_1 y2_2 y2_3 y2_4 y2_5 =>
    if v8.length ≤ 100000 then
     some (.inl (.h1m2 (y2_3) (y2_4) (y2_5) ((v8 ++ ([(⟨(L1.getD v5 0), y2_0, y2_1, y2_2⟩ : R_iiii)] : List R_iiii))) ((v9 + 1)) : Zac))
    else
    none
   )
  else
  ((Zbi (v8) N).bind fun r => match r with
  | .r0 y2_0 =>
   if ¬ (y2_0 = (0 : Int)) then
    some (.inr (.r0 ((110 : Int)) : Zr))
   else
   if n2 ≤ L1.length then
    if ¬ ((ZcN ([] : List Int) (L1.take n2)) = true) then
     some (.inr (.r0 ((110 : Int)) : Zr))
    else
    some (.inr (.r1 (v8) : Zr))
   else
   none
  | .r1 y2_0 =>
   if n2 ≤ L1.length then
    if ¬ ((ZcN y2_0 (L1.take n2)) = true) then
     some (.inr (.r0 ((110 : Int)) : Zr))
    else
    some (.inr (.r1 (v8) : Zr))
   else
   none
  )
 else
 ((Zbi (v8) N).bind fun r => match r with
 | .r0 y1_0 =>
  if ¬ (y1_0 = (0 : Int)) then
   some (.inr (.r0 ((110 : Int)) : Zr))
  else
  if n2 ≤ L1.length then
   if ¬ ((ZcN ([] : List Int) (L1.take n2)) = true) then
    some (.inr (.r0 ((110 : Int)) : Zr))
   else
   some (.inr (.r1 (v8) : Zr))
  else
  none
 | .r1 y1_0 =>
  if n2 ≤ L1.length then
   if ¬ ((ZcN y1_0 (L1.take n2)) = true) then
    some (.inr (.r0 ((110 : Int)) : Zr))
   else
   some (.inr (.r1 (v8) : Zr))
  else
  none
 )

def ZaY (L1 : List Int) (n2 : Nat) (n3 : Nat) (N : Nat) : Zac → Option (Zac ⊕ Zr)
 | .h1m0 => Zbe L1 n2 n3 N
 | .h1m1 v5 v6 => Zge L1 n2 n3 N v5 v6
 | .h1m2 v5 v6 v7 v8 v9 => ZaS L1 n2 n3 N v5 v6 v7 v8 v9

def ZeT (L1 : List Int) (n2 : Nat) (n3 : Nat) (N : Nat) : Option (Zac ⊕ Zr) :=
 if (n2 : Int) < (7 : Int) then
  some (.inr (.r0 ((6 : Int)) : Zr))
 else
 if 4 < L1.length then
  if (-9223372036854775808 : Int) ≤ (L1.getD 4 0) then
   if (L1.getD 4 0) ≤ (9223372036854775807 : Int) then
    if 5 < L1.length then
     if (-9223372036854775808 : Int) ≤ (L1.getD 5 0) then
      if (L1.getD 5 0) ≤ (9223372036854775807 : Int) then
       if (n2 : Int) ≤ (n3 : Int) then
        some (.inl (.h1m0 : Zac))
       else
       none
      else
      none
     else
     none
    else
    none
   else
   none
  else
  none
 else
 none

def Zb3 (L1 : List Int) (n2 : Nat) (n3 : Nat) (N : Nat) : Option Zr := goM (ZaY L1 n2 n3 N) N (ZeT L1 n2 n3 N)

inductive ZcW where
 | r0

inductive ZbT where
 | h1m0

def ZgK  (N : Nat) : Option (ZbT ⊕ ZcW) :=
 some (.inr (.r0 : ZcW))

def ZfS  (N : Nat) : ZbT → Option (ZbT ⊕ ZcW)
 | .h1m0 => ZgK  N

def ZgL  (N : Nat) : Option (ZbT ⊕ ZcW) :=
 some (.inl (.h1m0 : ZbT))

def ZdR  (N : Nat) : Option ZcW := goM (ZfS  N) N (ZgL  N)

inductive Zbm where
 | r0 (w2 : Bool)

inductive ZaZ where
 | h1m0 (v2 : Nat)

def Zc0 (L0 : List R_iiii) (L1 : List R_iiii) (N : Nat) (v2 : Nat) : Option (ZaZ ⊕ Zbm) :=
 if (v2 : Int) < (L0.length : Int) then
  if v2 < L1.length then
   if ¬ (((L0.getD v2 R_iiii.z).a0 = (L1.getD v2 R_iiii.z).a0 ∧ (L0.getD v2 R_iiii.z).a1 = (L1.getD v2 R_iiii.z).a1 ∧ (L0.getD v2 R_iiii.z).a2 = (L1.getD v2 R_iiii.z).a2 ∧ (L0.getD v2 R_iiii.z).a3 = (L1.getD v2 R_iiii.z).a3)) then
    some (.inr (.r0 (false) : Zbm))
   else
   if (((v2 + 1) : Nat) : Int) ≤ (9223372036854775807 : Int) then
    some (.inl (.h1m0 ((v2 + 1)) : ZaZ))
   else
   none
  else
  none
 else
 some (.inr (.r0 (true) : Zbm))

def Zei (L0 : List R_iiii) (L1 : List R_iiii) (N : Nat) : ZaZ → Option (ZaZ ⊕ Zbm)
 | .h1m0 v2 => Zc0 L0 L1 N v2

def ZfT (L0 : List R_iiii) (L1 : List R_iiii) (N : Nat) : Option (ZaZ ⊕ Zbm) :=
 if ¬ ((L0.length : Int) = (L1.length : Int)) then
  some (.inr (.r0 (false) : Zbm))
 else
 some (.inl (.h1m0 (0) : ZaZ))

def ZeU (L0 : List R_iiii) (L1 : List R_iiii) (N : Nat) : Option Zbm := goM (Zei L0 L1 N) N (ZfT L0 L1 N)

inductive Z3 where
 | r0 (w4 : Bool)

inductive Zs where
 | h1m0
 | h2m0 (v6 : Int) (v7 : Int)
 | h2m1 (v6 : List Int) (v8 : List Int)
 | h3m0 (v4 : Int) (v5 : Int) (v6 : Int) (v7 : Int)
 | h3m1 (v4 : Int) (v5 : Int) (v6 : List R_iiii) (v8 : List R_iiii)
 | h3m2 (v4 : List Int) (v6 : List Int) (v8 : Int) (v9 : Int)
 | h3m3 (v4 : List Int) (v6 : List Int) (v8 : List R_iiii) (v10 : List R_iiii)

def Zfj (L1 : List R_iiii) (n2 : Nat) (n3 : Nat) (L5 : List Int) (n6 : Nat) (n7 : Nat) (N : Nat) : Option (Zs ⊕ Z3) :=
 ((Zc9 (L1) ((((if (520 : Int) < (n2 : Int) then (520 : Int) else (n2 : Int))).toNat - 0)) ((n3 - 0)) N).bind fun r => match r with
 | .r0 y0_0 =>
  ((ZbB (L1) ((((if (520 : Int) < (n2 : Int) then (520 : Int) else (n2 : Int))).toNat - 0)) ((n3 - 0)) N).bind fun r => match r with
  | .r0 y1_0 =>
   some (.inl (.h2m0 (y0_0) (y1_0) : Zs))
  | .r1 _ =>
   none
  )
 | .r1 y0_0 =>
  ((ZbB (L1) ((((if (520 : Int) < (n2 : Int) then (520 : Int) else (n2 : Int))).toNat - 0)) ((n3 - 0)) N).bind fun r => match r with
  | .r0 _ =>
   none
  | .r1 y1_0 =>
   some (.inl (.h2m1 (y0_0) (y1_0) : Zs))
  )
 )

def Zfk (L1 : List R_iiii) (n2 : Nat) (n3 : Nat) (L5 : List Int) (n6 : Nat) (n7 : Nat) (N : Nat) (v6 : Int) (v7 : Int) : Option (Zs ⊕ Z3) :=
 ((Zb7 (L5) ((((if (6000 : Int) < (n6 : Int) then (6000 : Int) else (n6 : Int))).toNat - 0)) ((n7 - 0)) N).bind fun r => match r with
 | .r0 y0_0 =>
  ((Zb3 (L5) ((((if (6000 : Int) < (n6 : Int) then (6000 : Int) else (n6 : Int))).toNat - 0)) ((n7 - 0)) N).bind fun r => match r with
  | .r0 y1_0 =>
   some (.inl (.h3m0 (v6) (v7) (y0_0) (y1_0) : Zs))
  | .r1 _ =>
   none
  )
 | .r1 y0_0 =>
  ((Zb3 (L5) ((((if (6000 : Int) < (n6 : Int) then (6000 : Int) else (n6 : Int))).toNat - 0)) ((n7 - 0)) N).bind fun r => match r with
  | .r0 _ =>
   none
  | .r1 y1_0 =>
   some (.inl (.h3m1 (v6) (v7) (y0_0) (y1_0) : Zs))
  )
 )

def Zfl (L1 : List R_iiii) (n2 : Nat) (n3 : Nat) (L5 : List Int) (n6 : Nat) (n7 : Nat) (N : Nat) (v6 : List Int) (v8 : List Int) : Option (Zs ⊕ Z3) :=
 ((Zb7 (L5) ((((if (6000 : Int) < (n6 : Int) then (6000 : Int) else (n6 : Int))).toNat - 0)) ((n7 - 0)) N).bind fun r => match r with
 | .r0 y0_0 =>
  ((Zb3 (L5) ((((if (6000 : Int) < (n6 : Int) then (6000 : Int) else (n6 : Int))).toNat - 0)) ((n7 - 0)) N).bind fun r => match r with
  | .r0 y1_0 =>
   some (.inl (.h3m2 (v6) (v8) (y0_0) (y1_0) : Zs))
  | .r1 _ =>
   none
  )
 | .r1 y0_0 =>
  ((Zb3 (L5) ((((if (6000 : Int) < (n6 : Int) then (6000 : Int) else (n6 : Int))).toNat - 0)) ((n7 - 0)) N).bind fun r => match r with
  | .r0 _ =>
   none
  | .r1 y1_0 =>
   some (.inl (.h3m3 (v6) (v8) (y0_0) (y1_0) : Zs))
  )
 )

def Zfm (L1 : List R_iiii) (n2 : Nat) (n3 : Nat) (L5 : List Int) (n6 : Nat) (n7 : Nat) (N : Nat) (v4 : Int) (v5 : Int) (v6 : Int) (v7 : Int) : Option (Zs ⊕ Z3) :=
 if v4 = v5 then
  ((ZdR N).bind fun r => match r with
  | .r0 =>
   if v6 = v7 then
    some (.inr (.r0 (true) : Z3))
   else
   some (.inr (.r0 (false) : Z3))
  )
 else
 some (.inr (.r0 (false) : Z3))

def Zfn (L1 : List R_iiii) (n2 : Nat) (n3 : Nat) (L5 : List Int) (n6 : Nat) (n7 : Nat) (N : Nat) (v4 : Int) (v5 : Int) (v6 : List R_iiii) (v8 : List R_iiii) : Option (Zs ⊕ Z3) :=
 if v4 = v5 then
  ((ZeU (v6) (v8) N).bind fun r => match r with
  | .r0 y1_0 =>
   if y1_0 = true then
    some (.inr (.r0 (true) : Z3))
   else
   some (.inr (.r0 (false) : Z3))
  )
 else
 some (.inr (.r0 (false) : Z3))

def Zfo (L1 : List R_iiii) (n2 : Nat) (n3 : Nat) (L5 : List Int) (n6 : Nat) (n7 : Nat) (N : Nat) (v4 : List Int) (v6 : List Int) (v8 : Int) (v9 : Int) : Option (Zs ⊕ Z3) :=
 if (ZcN v4 v6) = true then
  ((ZdR N).bind fun r => match r with
  | .r0 =>
   if v8 = v9 then
    some (.inr (.r0 (true) : Z3))
   else
   some (.inr (.r0 (false) : Z3))
  )
 else
 some (.inr (.r0 (false) : Z3))

def Zfp (L1 : List R_iiii) (n2 : Nat) (n3 : Nat) (L5 : List Int) (n6 : Nat) (n7 : Nat) (N : Nat) (v4 : List Int) (v6 : List Int) (v8 : List R_iiii) (v10 : List R_iiii) : Option (Zs ⊕ Z3) :=
 if (ZcN v4 v6) = true then
  ((ZeU (v8) (v10) N).bind fun r => match r with
  | .r0 y1_0 =>
   if y1_0 = true then
    some (.inr (.r0 (true) : Z3))
   else
   some (.inr (.r0 (false) : Z3))
  )
 else
 some (.inr (.r0 (false) : Z3))

def ZaU (L1 : List R_iiii) (n2 : Nat) (n3 : Nat) (L5 : List Int) (n6 : Nat) (n7 : Nat) (N : Nat) : Zs → Option (Zs ⊕ Z3)
 | .h1m0 => Zfj L1 n2 n3 L5 n6 n7 N
 | .h2m0 v6 v7 => Zfk L1 n2 n3 L5 n6 n7 N v6 v7
 | .h2m1 v6 v8 => Zfl L1 n2 n3 L5 n6 n7 N v6 v8
 | .h3m0 v4 v5 v6 v7 => Zfm L1 n2 n3 L5 n6 n7 N v4 v5 v6 v7
 | .h3m1 v4 v5 v6 v8 => Zfn L1 n2 n3 L5 n6 n7 N v4 v5 v6 v8
 | .h3m2 v4 v6 v8 v9 => Zfo L1 n2 n3 L5 n6 n7 N v4 v6 v8 v9
 | .h3m3 v4 v6 v8 v10 => Zfp L1 n2 n3 L5 n6 n7 N v4 v6 v8 v10

def ZeG (L1 : List R_iiii) (n2 : Nat) (n3 : Nat) (L5 : List Int) (n6 : Nat) (n7 : Nat) (N : Nat) : Option (Zs ⊕ Z3) :=
 if (if (520 : Int) < (n2 : Int) then (520 : Int) else (n2 : Int)) ≤ (n3 : Int) then
  if (if (6000 : Int) < (n6 : Int) then (6000 : Int) else (n6 : Int)) ≤ (n7 : Int) then
   some (.inl (.h1m0 : Zs))
  else
  none
 else
 none

def Zj9 (L1 : List R_iiii) (n2 : Nat) (n3 : Nat) (L5 : List Int) (n6 : Nat) (n7 : Nat) (N : Nat) : Option Z3 := goM (ZaU L1 n2 n3 L5 n6 n7 N) N (ZeG L1 n2 n3 L5 n6 n7 N)

inductive ZdZ where
 | r0

def ZdL  (N : Nat) : Option ZdZ :=
 some (.r0 : ZdZ)

inductive ZdG where
 | r0

def Zdy  (N : Nat) : Option ZdG :=
 some (.r0 : ZdG)

inductive Zae where
 | r0 (w2 : Bool)

inductive Zx where
 | h1m0
 | h2m0 (v2 : Int) (v3 : Int)
 | h2m1 (v2 : List Int) (v4 : List Int)
 | h3m0 (v2 : Int) (v3 : Int)
 | h3m1 (v2 : List Int) (v4 : List Int)

def Ze4 (L1 : List R_iiii) (n2 : Nat) (n3 : Nat) (N : Nat) : Option (Zx ⊕ Zae) :=
 ((Zc9 (L1) ((((if (520 : Int) < (n2 : Int) then (520 : Int) else (n2 : Int))).toNat - 0)) ((n3 - 0)) N).bind fun r => match r with
 | .r0 y0_0 =>
  ((ZbB (L1) ((((if (520 : Int) < (n2 : Int) then (520 : Int) else (n2 : Int))).toNat - 0)) ((n3 - 0)) N).bind fun r => match r with
  | .r0 y1_0 =>
   some (.inl (.h2m0 (y0_0) (y1_0) : Zx))
  | .r1 _ =>
   none
  )
 | .r1 y0_0 =>
  ((ZbB (L1) ((((if (520 : Int) < (n2 : Int) then (520 : Int) else (n2 : Int))).toNat - 0)) ((n3 - 0)) N).bind fun r => match r with
  | .r0 _ =>
   none
  | .r1 y1_0 =>
   some (.inl (.h2m1 (y0_0) (y1_0) : Zx))
  )
 )

def Ze5 (L1 : List R_iiii) (n2 : Nat) (n3 : Nat) (N : Nat) (v2 : Int) (v3 : Int) : Option (Zx ⊕ Zae) :=
 ((ZdL N).bind fun r => match r with
 | .r0 =>
  ((Zdy N).bind fun r => match r with
  | .r0 =>
   some (.inl (.h3m0 (v2) (v3) : Zx))
  )
 )

def Ze6 (L1 : List R_iiii) (n2 : Nat) (n3 : Nat) (N : Nat) (v2 : List Int) (v4 : List Int) : Option (Zx ⊕ Zae) :=
 ((ZdL N).bind fun r => match r with
 | .r0 =>
  ((Zdy N).bind fun r => match r with
  | .r0 =>
   some (.inl (.h3m1 (v2) (v4) : Zx))
  )
 )

def Ze7 (L1 : List R_iiii) (n2 : Nat) (n3 : Nat) (N : Nat) (v2 : Int) (v3 : Int) : Option (Zx ⊕ Zae) :=
 if v2 = v3 then
  ((ZdR N).bind fun r => match r with
  | .r0 =>
   some (.inr (.r0 (true) : Zae))
  )
 else
 some (.inr (.r0 (false) : Zae))

def Ze8 (L1 : List R_iiii) (n2 : Nat) (n3 : Nat) (N : Nat) (v2 : List Int) (v4 : List Int) : Option (Zx ⊕ Zae) :=
 if (ZcN v2 v4) = true then
  ((ZdR N).bind fun r => match r with
  | .r0 =>
   some (.inr (.r0 (true) : Zae))
  )
 else
 some (.inr (.r0 (false) : Zae))

def Zbu (L1 : List R_iiii) (n2 : Nat) (n3 : Nat) (N : Nat) : Zx → Option (Zx ⊕ Zae)
 | .h1m0 => Ze4 L1 n2 n3 N
 | .h2m0 v2 v3 => Ze5 L1 n2 n3 N v2 v3
 | .h2m1 v2 v4 => Ze6 L1 n2 n3 N v2 v4
 | .h3m0 v2 v3 => Ze7 L1 n2 n3 N v2 v3
 | .h3m1 v2 v4 => Ze8 L1 n2 n3 N v2 v4

def Zem (L1 : List R_iiii) (n2 : Nat) (n3 : Nat) (N : Nat) : Option (Zx ⊕ Zae) :=
 if (if (520 : Int) < (n2 : Int) then (520 : Int) else (n2 : Int)) ≤ (n3 : Int) then
  some (.inl (.h1m0 : Zx))
 else
 none

def ZhY (L1 : List R_iiii) (n2 : Nat) (n3 : Nat) (N : Nat) : Option Zae := goM (Zbu L1 n2 n3 N) N (Zem L1 n2 n3 N)

inductive ZbU where
 | r0 (w0 : List Int)

inductive Zbj where
 | h1m0

def Zd8  (N : Nat) : Option (Zbj ⊕ ZbU) :=
 ((ZiL (([(71 : Int), (78 : Int), (84 : Int), (1 : Int), (0 : Int), (0 : Int)] : List Int)) N).bind fun r => match r with
 | .r0 y0_0 =>
  some (.inr (.r0 (([(71 : Int), (78 : Int), (84 : Int), (1 : Int), (0 : Int), (0 : Int), y0_0] : List Int)) : ZbU))
 )

def ZeH  (N : Nat) : Zbj → Option (Zbj ⊕ ZbU)
 | .h1m0 => Zd8  N

def Zf9  (N : Nat) : Option (Zbj ⊕ ZbU) :=
 some (.inl (.h1m0 : Zbj))

def Zfy  (N : Nat) : Option ZbU := goM (ZeH  N) N (Zf9  N)

inductive ZT where
 | r0 (w2 : Bool)

inductive Z9 where
 | h1m0
 | h2m0 (v4 : List Int) (v6 : List Int)
 | h3m0 (v2 : List Int) (v4 : List Int) (v6 : Int) (v7 : Int)
 | h3m1 (v2 : List Int) (v4 : List Int) (v6 : List R_iiii) (v8 : List R_iiii)

def Ze9 (L1 : List Int) (n2 : Nat) (n3 : Nat) (N : Nat) : Option (Z9 ⊕ ZT) :=
 ((Zfy N).bind fun r => match r with
 | .r0 y0_0 =>
  ((ZdY N).bind fun r => match r with
  | .r0 y1_0 =>
   some (.inl (.h2m0 (y0_0) (y1_0) : Z9))
  )
 )

def ZeA (L1 : List Int) (n2 : Nat) (n3 : Nat) (N : Nat) (v4 : List Int) (v6 : List Int) : Option (Z9 ⊕ ZT) :=
 ((Zb7 (L1) ((((if (6000 : Int) < (n2 : Int) then (6000 : Int) else (n2 : Int))).toNat - 0)) ((n3 - 0)) N).bind fun r => match r with
 | .r0 y0_0 =>
  ((Zb3 (L1) ((((if (6000 : Int) < (n2 : Int) then (6000 : Int) else (n2 : Int))).toNat - 0)) ((n3 - 0)) N).bind fun r => match r with
  | .r0 y1_0 =>
   some (.inl (.h3m0 (v4) (v6) (y0_0) (y1_0) : Z9))
  | .r1 _ =>
   none
  )
 | .r1 y0_0 =>
  ((Zb3 (L1) ((((if (6000 : Int) < (n2 : Int) then (6000 : Int) else (n2 : Int))).toNat - 0)) ((n3 - 0)) N).bind fun r => match r with
  | .r0 _ =>
   none
  | .r1 y1_0 =>
   some (.inl (.h3m1 (v4) (v6) (y0_0) (y1_0) : Z9))
  )
 )

def ZcB (L1 : List Int) (n2 : Nat) (n3 : Nat) (N : Nat) (v2 : List Int) (v4 : List Int) (v6 : Int) (v7 : Int) : Option (Z9 ⊕ ZT) :=
 if (ZcN v2 v4) = true then
  ((ZdR N).bind fun r => match r with
  | .r0 =>
   if v6 = v7 then
    some (.inr (.r0 (true) : ZT))
   else
   some (.inr (.r0 (false) : ZT))
  )
 else
 some (.inr (.r0 (false) : ZT))

def ZcC (L1 : List Int) (n2 : Nat) (n3 : Nat) (N : Nat) (v2 : List Int) (v4 : List Int) (v6 : List R_iiii) (v8 : List R_iiii) : Option (Z9 ⊕ ZT) :=
 if (ZcN v2 v4) = true then
  ((ZeU (v6) (v8) N).bind fun r => match r with
  | .r0 y1_0 =>
   if y1_0 = true then
    some (.inr (.r0 (true) : ZT))
   else
   some (.inr (.r0 (false) : ZT))
  )
 else
 some (.inr (.r0 (false) : ZT))

def ZbC (L1 : List Int) (n2 : Nat) (n3 : Nat) (N : Nat) : Z9 → Option (Z9 ⊕ ZT)
 | .h1m0 => Ze9 L1 n2 n3 N
 | .h2m0 v4 v6 => ZeA L1 n2 n3 N v4 v6
 | .h3m0 v2 v4 v6 v7 => ZcB L1 n2 n3 N v2 v4 v6 v7
 | .h3m1 v2 v4 v6 v8 => ZcC L1 n2 n3 N v2 v4 v6 v8

def Zen (L1 : List Int) (n2 : Nat) (n3 : Nat) (N : Nat) : Option (Z9 ⊕ ZT) :=
 if (if (6000 : Int) < (n2 : Int) then (6000 : Int) else (n2 : Int)) ≤ (n3 : Int) then
  some (.inl (.h1m0 : Z9))
 else
 none

def ZhZ (L1 : List Int) (n2 : Nat) (n3 : Nat) (N : Nat) : Option ZT := goM (ZbC L1 n2 n3 N) N (Zen L1 n2 n3 N)

inductive Za6 where
 | r0 (w0 : Bool)

inductive ZN where
 | h1m0
 | h2m0 (v0 : List Int) (v2 : List Int)
 | h3m0 (v0 : List Int) (v2 : List Int)

def ZeB  (N : Nat) : Option (ZN ⊕ Za6) :=
 ((Zfy N).bind fun r => match r with
 | .r0 y0_0 =>
  ((ZdY N).bind fun r => match r with
  | .r0 y1_0 =>
   some (.inl (.h2m0 (y0_0) (y1_0) : ZN))
  )
 )

def ZeC  (N : Nat) (v0 : List Int) (v2 : List Int) : Option (ZN ⊕ Za6) :=
 ((ZdL N).bind fun r => match r with
 | .r0 =>
  ((Zdy N).bind fun r => match r with
  | .r0 =>
   some (.inl (.h3m0 (v0) (v2) : ZN))
  )
 )

def ZcD  (N : Nat) (v0 : List Int) (v2 : List Int) : Option (ZN ⊕ Za6) :=
 if (ZcN v0 v2) = true then
  ((ZdR N).bind fun r => match r with
  | .r0 =>
   some (.inr (.r0 (true) : Za6))
  )
 else
 some (.inr (.r0 (false) : Za6))

def Zcf  (N : Nat) : ZN → Option (ZN ⊕ Za6)
 | .h1m0 => ZeB  N
 | .h2m0 v0 v2 => ZeC  N v0 v2
 | .h3m0 v0 v2 => ZcD  N v0 v2

def Zeo  (N : Nat) : Option (ZN ⊕ Za6) :=
 some (.inl (.h1m0 : ZN))

def Zia  (N : Nat) : Option Za6 := goM (Zcf  N) N (Zeo  N)
end Ev
end Go.Proofs.Ytjfmadhcbgdakaa
