/- The document's functions, plain. -/
import Derived.Test.YtpgbennpiihajaaKjr
namespace Go.Proofs.Ytpgbennpiihajaa
open Go.RowKit
namespace Ev
set_option linter.unusedVariables false
inductive ZtP where
 | r0 (w2 : Int)

inductive Zuc where
 | r0
 | r1 (w0 : Bool)

inductive ZaQ where
 | r0 (w0 : Int) (w1 : Int) (w2 : Int) (w3 : Bool)

def ZhI (a0 : Int) (N : Nat) : Option ZaQ :=
 if a0 = (1 : Int) then
  some (.r0 ((1 : Int)) ((2 : Int)) ((0 : Int)) (true) : ZaQ)
 else
 if a0 = (2 : Int) then
  some (.r0 ((1 : Int)) ((0 : Int)) ((0 : Int)) (true) : ZaQ)
 else
 if a0 = (10 : Int) then
  some (.r0 ((1 : Int)) ((0 : Int)) ((0 : Int)) (true) : ZaQ)
 else
 if a0 = (12 : Int) then
  some (.r0 ((1 : Int)) ((0 : Int)) ((0 : Int)) (true) : ZaQ)
 else
 if a0 = (19 : Int) then
  some (.r0 ((1 : Int)) ((0 : Int)) ((0 : Int)) (true) : ZaQ)
 else
 if a0 = (3 : Int) then
  some (.r0 ((1 : Int)) ((1 : Int)) ((0 : Int)) (true) : ZaQ)
 else
 if a0 = (4 : Int) then
  some (.r0 ((1 : Int)) ((1 : Int)) ((1 : Int)) (true) : ZaQ)
 else
 if a0 = (5 : Int) then
  some (.r0 ((1 : Int)) ((1 : Int)) ((1 : Int)) (true) : ZaQ)
 else
 if a0 = (6 : Int) then
  some (.r0 ((1 : Int)) ((1 : Int)) ((1 : Int)) (true) : ZaQ)
 else
 if a0 = (7 : Int) then
  some (.r0 ((1 : Int)) ((1 : Int)) ((1 : Int)) (true) : ZaQ)
 else
 if a0 = (8 : Int) then
  some (.r0 ((3 : Int)) ((0 : Int)) ((0 : Int)) (true) : ZaQ)
 else
 if a0 = (9 : Int) then
  some (.r0 ((1 : Int)) ((3 : Int)) ((0 : Int)) (true) : ZaQ)
 else
 if a0 = (11 : Int) then
  some (.r0 ((1 : Int)) ((5 : Int)) ((6 : Int)) (true) : ZaQ)
 else
 if a0 = (13 : Int) then
  some (.r0 ((1 : Int)) ((1 : Int)) ((4 : Int)) (true) : ZaQ)
 else
 if a0 = (14 : Int) then
  some (.r0 ((1 : Int)) ((4 : Int)) ((1 : Int)) (true) : ZaQ)
 else
 if a0 = (15 : Int) then
  some (.r0 ((0 : Int)) ((0 : Int)) ((0 : Int)) (true) : ZaQ)
 else
 if a0 = (16 : Int) then
  some (.r0 ((0 : Int)) ((0 : Int)) ((0 : Int)) (true) : ZaQ)
 else
 if a0 = (17 : Int) then
  some (.r0 ((0 : Int)) ((0 : Int)) ((0 : Int)) (true) : ZaQ)
 else
 if a0 = (18 : Int) then
  some (.r0 ((0 : Int)) ((0 : Int)) ((0 : Int)) (true) : ZaQ)
 else
 if a0 = (20 : Int) then
  some (.r0 ((0 : Int)) ((0 : Int)) ((0 : Int)) (true) : ZaQ)
 else
 some (.r0 ((0 : Int)) ((0 : Int)) ((0 : Int)) (false) : ZaQ)

inductive Za9 where
 | r0 (w0 : Bool)

def Zar (a0 : Int) (a1 : Int) (a2 : Int) (N : Nat) : Option Za9 :=
 if a0 = (1 : Int) then
  if (0 : Int) ≤ a1 then
   if a1 < (8 : Int) then
    some (.r0 (true) : Za9)
   else
   some (.r0 (false) : Za9)
  else
  some (.r0 (false) : Za9)
 else
 if a0 = (2 : Int) then
  if (-1099511627776 : Int) ≤ a1 then
   if a1 ≤ (1099511627776 : Int) then
    some (.r0 (true) : Za9)
   else
   some (.r0 (false) : Za9)
  else
  some (.r0 (false) : Za9)
 else
 if a0 = (3 : Int) then
  if (0 : Int) ≤ a1 then
   if a1 ≤ (512 : Int) then
    some (.r0 (true) : Za9)
   else
   some (.r0 (false) : Za9)
  else
  some (.r0 (false) : Za9)
 else
 if a0 = (4 : Int) then
  if (0 : Int) ≤ a1 then
   if a1 < (16 : Int) then
    some (.r0 (true) : Za9)
   else
   some (.r0 (false) : Za9)
  else
  some (.r0 (false) : Za9)
 else
 if a0 = (5 : Int) then
  if (1 : Int) ≤ a1 then
   if a1 ≤ (16 : Int) then
    some (.r0 (true) : Za9)
   else
   some (.r0 (false) : Za9)
  else
  some (.r0 (false) : Za9)
 else
 if a0 = (6 : Int) then
  if (1 : Int) ≤ a2 then
   if a2 ≤ (16 : Int) then
    if (0 : Int) ≤ a1 then
     if a1 < (IntKind.i64.wrap ((1 : Int) * (2 ^ (a2).toNat : Int))) then
      some (.r0 (true) : Za9)
     else
     some (.r0 (false) : Za9)
    else
    some (.r0 (false) : Za9)
   else
   some (.r0 (false) : Za9)
  else
  some (.r0 (false) : Za9)
 else
 if a1 = (0 : Int) then
  some (.r0 (true) : Za9)
 else
 some (.r0 (false) : Za9)

inductive ZfY where
 | r0 (w0 : Bool)

def ZaM (a0 : Int) (a1 : Int) (a2 : Int) (a3 : Int) (N : Nat) : Option ZfY :=
 ((ZhI (a0) N).bind fun r => match r with
 | .r0 y0_0 y0_1 y0_2 y0_3 =>
  if y0_3 = true then
   ((Zar (y0_0) (a1) ((0 : Int)) N).bind fun r => match r with
   | .r0 y2_0 =>
    if y2_0 = true then
     ((Zar (y0_1) (a2) ((0 : Int)) N).bind fun r => match r with
     | .r0 y4_0 =>
      if y4_0 = true then
       ((Zar (y0_2) (a3) (a2) N).bind fun r => match r with
       | .r0 y6_0 =>
        if y6_0 = true then
         some (.r0 (true) : ZfY)
        else
        some (.r0 (false) : ZfY)
       )
      else
      some (.r0 (false) : ZfY)
     )
    else
    some (.r0 (false) : ZfY)
   )
  else
  some (.r0 (false) : ZfY)
 )

inductive ZtB where
 | r0 (w1 : Bool)
 | r1 (w1 : List R_ii)
 | r2

inductive ZtQ where
 | r0
 | r1 (w2 : List R_ii)

inductive ZtR where
 | h1m0 (v5 : Nat)
 | h1m1 (v5 : List R_ii) (v6 : Nat)

inductive ZtC where
 | r0 (w2 : Int) (w3 : Int)

inductive ZtS where
 | r0 (w2 : Int)

inductive ZtT where
 | h1m0 (v4 : Nat)
 | h1m1 (v4 : List R_ii) (v5 : Nat)
 | h2m0 (v4 : Nat)

inductive ZtU where
 | r0 (w2 : Int)

end Ev
end Go.Proofs.Ytpgbennpiihajaa
