/- Records, and the program's functions as plain ones. -/
import Derived.Test.YtfpfedjihepcbaaFm
namespace Go.Proofs.Ytfpfedjihepcbaa
open Go.RowKit
namespace Ev
set_option linter.unusedVariables false
structure R_ii where
  a0 : Int
  a1 : Int
def R_ii.z : R_ii := ⟨0, 0⟩
structure R_uii where
  a0 : Int
  a1 : Int
  a2 : Int
def R_uii.z : R_uii := ⟨0, 0, 0⟩
/-- (*gantlet/held.stack[gantlet/api.Seen]).top -/
inductive held_stack_api_Seen_topR where
  | r0

def held_stack_api_Seen_top (b0 : Bool) (N : Nat) : Option held_stack_api_Seen_topR :=
  some (.r0 : held_stack_api_Seen_topR)

/-- (*gantlet/held.stack[gantlet/api.Seen]).pop -/
inductive held_stack_api_Seen_popR where
  | r0

def held_stack_api_Seen_pop (b0 : Bool) (N : Nat) : Option held_stack_api_Seen_popR :=
  ((held_stack_api_Seen_top (b0) N).bind fun r => match r with
  | .r0 =>
    some (.r0 : held_stack_api_Seen_popR)
  )

/-- (*gantlet/held.Held).Take -/
inductive held_Held_TakeR where
  | r0

def held_Held_Take (b0 : Bool) (N : Nat) : Option held_Held_TakeR :=
  if b0 = true then
    ((held_stack_api_Seen_pop (b0) N).bind fun r => match r with
    | .r0 =>
      some (.r0 : held_Held_TakeR)
    )
  else
  some (.r0 : held_Held_TakeR)

/-- gantlet/gantletref08.Last -/
inductive ref08_LastR where
  | r0

def ref08_Last  (N : Nat) : Option ref08_LastR :=
  some (.r0 : ref08_LastR)

/-- gantlet/gantletref08.Take -/
inductive ref08_TakeR where
  | r0

def ref08_Take  (N : Nat) : Option ref08_TakeR :=
  ((ref08_Last N).bind fun r => match r with
  | .r0 =>
    some (.r0 : ref08_TakeR)
  )

/-- (*gantlet/held.Held).Has -/
inductive held_Held_HasR where
  | r0

inductive held_Held_HasX where
  | h1m0

def held_Held_Has_h1m0 (a0 : Int) (b1 : Bool) (N : Nat) : Option (held_Held_HasX ⊕ held_Held_HasR) :=
  some (.inr (.r0 : held_Held_HasR))

def held_Held_HasStep (a0 : Int) (b1 : Bool) (N : Nat) : held_Held_HasX → Option (held_Held_HasX ⊕ held_Held_HasR)
  | .h1m0 => held_Held_Has_h1m0 a0 b1 N

def held_Held_HasIn (a0 : Int) (b1 : Bool) (N : Nat) : Option (held_Held_HasX ⊕ held_Held_HasR) :=
  if b1 = true then
    some (.inl (.h1m0 : held_Held_HasX))
  else
  some (.inr (.r0 : held_Held_HasR))

def held_Held_Has (a0 : Int) (b1 : Bool) (N : Nat) : Option held_Held_HasR := goM (held_Held_HasStep a0 b1 N) N (held_Held_HasIn a0 b1 N)

/-- gantlet/gantletref08.Has -/
inductive ref08_HasR where
  | r0

inductive ref08_HasX where
  | h1m0

def ref08_Has_h1m0 (a0 : Int) (N : Nat) : Option (ref08_HasX ⊕ ref08_HasR) :=
  some (.inr (.r0 : ref08_HasR))

def ref08_HasStep (a0 : Int) (N : Nat) : ref08_HasX → Option (ref08_HasX ⊕ ref08_HasR)
  | .h1m0 => ref08_Has_h1m0 a0 N

def ref08_HasIn (a0 : Int) (N : Nat) : Option (ref08_HasX ⊕ ref08_HasR) :=
  some (.inl (.h1m0 : ref08_HasX))

def ref08_Has (a0 : Int) (N : Nat) : Option ref08_HasR := goM (ref08_HasStep a0 N) N (ref08_HasIn a0 N)

/-- (*gantlet/held.Held).Add -/
inductive held_Held_AddR where
  | r0 (w0 : Int)
  | r1

def held_Held_Add (a0 : Int) (a1 : Int) (b2 : Bool) (N : Nat) : Option held_Held_AddR :=
  if b2 = true then
    if a0 < (0 : Int) then
      some (.r0 ((1 : Int)) : held_Held_AddR)
    else
    if (1024 : Int) ≤ a0 then
      some (.r0 ((1 : Int)) : held_Held_AddR)
    else
    if a1 < (0 : Int) then
      some (.r0 ((1 : Int)) : held_Held_AddR)
    else
    if (2199023255552 : Int) < a1 then
      some (.r0 ((1 : Int)) : held_Held_AddR)
    else
    ((held_Held_Has (a0) (b2) N).bind fun r => match r with
    | .r0 =>
      some (.r1 : held_Held_AddR)
    )
  else
  some (.r0 ((4 : Int)) : held_Held_AddR)

/-- (*gantlet/held.stack[gantlet/api.Seen]).top -/
inductive held_stack_api_Seen_top_2R where
  | r0 (w1 : Int) (w2 : Int) (w3 : Bool)

def held_stack_api_Seen_top_2 (b0 : Bool) (L1 : List R_ii) (N : Nat) : Option held_stack_api_Seen_top_2R :=
  if ((L1.length : Nat) : Int) = (0 : Int) then
    some (.r0 ((0 : Int)) ((0 : Int)) (false) : held_stack_api_Seen_top_2R)
  else
  if (((L1.length : Nat) : Int) - (1 : Int)) ≤ (9223372036854775807 : Int) then
    some (.r0 ((L1.getD (L1.length - 1) R_ii.z).a0) ((L1.getD (L1.length - 1) R_ii.z).a1) (true) : held_stack_api_Seen_top_2R)
  else
  none

/-- (*gantlet/held.stack[gantlet/api.Seen]).pop -/
inductive held_stack_api_Seen_pop_2R where
  | r0 (w0 : Int) (w1 : Int)
  | r1 (w1 : Int) (w2 : Int)

def held_stack_api_Seen_pop_2 (b0 : Bool) (L1 : List R_ii) (N : Nat) : Option held_stack_api_Seen_pop_2R :=
  ((held_stack_api_Seen_top_2 (b0) (L1) N).bind fun r => match r with
  | .r0 y0_0 y0_1 y0_2 =>
    if y0_2 = true then
      if (((L1.length : Nat) : Int) - (1 : Int)) ≤ (9223372036854775807 : Int) then
        if (0 : Int) ≤ (((L1.length : Nat) : Int) - (1 : Int)) then
          some (.r0 (y0_0) (y0_1) : held_stack_api_Seen_pop_2R)
        else
        none
      else
      none
    else
    some (.r1 (y0_0) (y0_1) : held_stack_api_Seen_pop_2R)
  )

/-- (*gantlet/held.Held).Take -/
inductive held_Held_Take_2R where
  | r0 (w0 : Int) (w1 : Int)
  | r1 (w1 : Int) (w2 : Int)

def held_Held_Take_2 (b0 : Bool) (L1 : List R_ii) (N : Nat) : Option held_Held_Take_2R :=
  if b0 = true then
    ((held_stack_api_Seen_pop_2 (b0) (L1) N).bind fun r => match r with
    | .r0 y1_0 y1_1 =>
      some (.r0 (y1_0) (y1_1) : held_Held_Take_2R)
    | .r1 y1_0 y1_1 =>
      some (.r1 (y1_0) (y1_1) : held_Held_Take_2R)
    )
  else
  some (.r1 ((0 : Int)) ((0 : Int)) : held_Held_Take_2R)

/-- gantlet/gantletref08.Add -/
inductive ref08_AddR where
  | r0
  | r1

def ref08_Add (a0 : Int) (a1 : Int) (N : Nat) : Option ref08_AddR :=
  if a0 < (0 : Int) then
    some (.r0 : ref08_AddR)
  else
  if (1023 : Int) < a0 then
    some (.r0 : ref08_AddR)
  else
  if a1 < (0 : Int) then
    some (.r0 : ref08_AddR)
  else
  if (2199023255552 : Int) < a1 then
    some (.r0 : ref08_AddR)
  else
  ((ref08_Has (a0) N).bind fun r => match r with
  | .r0 =>
    some (.r1 : ref08_AddR)
  )

/-- gantlet/gantletref08.Has -/
inductive ref08_Has_2R where
  | r0 (w1 : Int) (w2 : Bool)

inductive ref08_Has_2X where
  | h1m0 (v2 : Nat)

def ref08_Has_2_h1m0 (L0 : List R_ii) (a1 : Int) (N : Nat) (v2 : Nat) : Option (ref08_Has_2X ⊕ ref08_Has_2R) :=
  if ((v2 : Nat) : Int) < ((L0.length : Nat) : Int) then
    if (L0.getD v2 R_ii.z).a0 = a1 then
      some (.inr (.r0 ((L0.getD v2 R_ii.z).a1) (true) : ref08_Has_2R))
    else
    if (((v2 + 1) : Nat) : Int) ≤ (9223372036854775807 : Int) then
      some (.inl (.h1m0 ((v2 + 1)) : ref08_Has_2X))
    else
    none
  else
  some (.inr (.r0 ((0 : Int)) (false) : ref08_Has_2R))

def ref08_Has_2Step (L0 : List R_ii) (a1 : Int) (N : Nat) : ref08_Has_2X → Option (ref08_Has_2X ⊕ ref08_Has_2R)
  | .h1m0 v2 => ref08_Has_2_h1m0 L0 a1 N v2

def ref08_Has_2In (L0 : List R_ii) (a1 : Int) (N : Nat) : Option (ref08_Has_2X ⊕ ref08_Has_2R) :=
  some (.inl (.h1m0 (0) : ref08_Has_2X))

def ref08_Has_2 (L0 : List R_ii) (a1 : Int) (N : Nat) : Option ref08_Has_2R := goM (ref08_Has_2Step L0 a1 N) N (ref08_Has_2In L0 a1 N)

/-- (*gantlet/held.Held).Has -/
inductive held_Held_Has_2R where
  | r0 (w1 : Int) (w2 : Bool)

inductive held_Held_Has_2X where
  | h1m0 (v4 : Int)

def held_Held_Has_2_h1m0 (a0 : Int) (b1 : Bool) (L2 : List R_ii) (N : Nat) (v4 : Int) : Option (held_Held_Has_2X ⊕ held_Held_Has_2R) :=
  if (0 : Int) ≤ v4 then
    if (v4).toNat < L2.length then
      if (L2.getD (v4).toNat R_ii.z).a0 = a0 then
        some (.inr (.r0 ((L2.getD (v4).toNat R_ii.z).a1) (true) : held_Held_Has_2R))
      else
      some (.inl (.h1m0 ((IntKind.i64.wrap (v4 - (1 : Int)))) : held_Held_Has_2X))
    else
    none
  else
  some (.inr (.r0 ((0 : Int)) (false) : held_Held_Has_2R))

def held_Held_Has_2Step (a0 : Int) (b1 : Bool) (L2 : List R_ii) (N : Nat) : held_Held_Has_2X → Option (held_Held_Has_2X ⊕ held_Held_Has_2R)
  | .h1m0 v4 => held_Held_Has_2_h1m0 a0 b1 L2 N v4

def held_Held_Has_2In (a0 : Int) (b1 : Bool) (L2 : List R_ii) (N : Nat) : Option (held_Held_Has_2X ⊕ held_Held_Has_2R) :=
  if b1 = true then
    if (((L2.length : Nat) : Int) - (1 : Int)) ≤ (9223372036854775807 : Int) then
      some (.inl (.h1m0 ((((L2.length : Nat) : Int) - (1 : Int))) : held_Held_Has_2X))
    else
    none
  else
  some (.inr (.r0 ((0 : Int)) (false) : held_Held_Has_2R))

def held_Held_Has_2 (a0 : Int) (b1 : Bool) (L2 : List R_ii) (N : Nat) : Option held_Held_Has_2R := goM (held_Held_Has_2Step a0 b1 L2 N) N (held_Held_Has_2In a0 b1 L2 N)

/-- (*gantlet/held.Held).Last -/
inductive held_Held_LastR where
  | r0

def held_Held_Last (b0 : Bool) (N : Nat) : Option held_Held_LastR :=
  if b0 = true then
    ((held_stack_api_Seen_top (b0) N).bind fun r => match r with
    | .r0 =>
      some (.r0 : held_Held_LastR)
    )
  else
  some (.r0 : held_Held_LastR)

/-- (*gantlet/held.Held).Last -/
inductive held_Held_Last_2R where
  | r0 (w1 : Int) (w2 : Int) (w3 : Bool)

def held_Held_Last_2 (b0 : Bool) (L1 : List R_ii) (N : Nat) : Option held_Held_Last_2R :=
  if b0 = true then
    ((held_stack_api_Seen_top_2 (b0) (L1) N).bind fun r => match r with
    | .r0 y1_0 y1_1 y1_2 =>
      some (.r0 (y1_0) (y1_1) (y1_2) : held_Held_Last_2R)
    )
  else
  some (.r0 ((0 : Int)) ((0 : Int)) (false) : held_Held_Last_2R)

/-- gantlet/gantletref06.Same -/
inductive ref06_SameR where
  | r0

inductive ref06_SameX where
  | h1m0

def ref06_Same_h1m0  (N : Nat) : Option (ref06_SameX ⊕ ref06_SameR) :=
  some (.inr (.r0 : ref06_SameR))

def ref06_SameStep  (N : Nat) : ref06_SameX → Option (ref06_SameX ⊕ ref06_SameR)
  | .h1m0 => ref06_Same_h1m0  N

def ref06_SameIn  (N : Nat) : Option (ref06_SameX ⊕ ref06_SameR) :=
  some (.inl (.h1m0 : ref06_SameX))

def ref06_Same  (N : Nat) : Option ref06_SameR := goM (ref06_SameStep  N) N (ref06_SameIn  N)

/-- gantlet/gantletref08.Last -/
inductive ref08_Last_2R where
  | r0 (w1 : Int) (w2 : Int) (w3 : Bool)

def ref08_Last_2 (L0 : List R_ii) (N : Nat) : Option ref08_Last_2R :=
  if ((L0.length : Nat) : Int) = (0 : Int) then
    some (.r0 ((0 : Int)) ((0 : Int)) (false) : ref08_Last_2R)
  else
  if (((L0.length : Nat) : Int) - (1 : Int)) ≤ (9223372036854775807 : Int) then
    some (.r0 ((L0.getD (L0.length - 1) R_ii.z).a0) ((L0.getD (L0.length - 1) R_ii.z).a1) (true) : ref08_Last_2R)
  else
  none

/-- gantlet/gantletref06.Same -/
inductive ref06_Same_2R where
  | r0 (w2 : Bool)

inductive ref06_Same_2X where
  | h1m0 (v2 : Nat)

def ref06_Same_2_h1m0 (L0 : List R_ii) (L1 : List R_ii) (N : Nat) (v2 : Nat) : Option (ref06_Same_2X ⊕ ref06_Same_2R) :=
  if ((v2 : Nat) : Int) < ((L0.length : Nat) : Int) then
    if v2 < L1.length then
      if ¬ (((L0.getD v2 R_ii.z).a0 = (L1.getD v2 R_ii.z).a0 ∧ (L0.getD v2 R_ii.z).a1 = (L1.getD v2 R_ii.z).a1)) then
        some (.inr (.r0 (false) : ref06_Same_2R))
      else
      if (((v2 + 1) : Nat) : Int) ≤ (9223372036854775807 : Int) then
        some (.inl (.h1m0 ((v2 + 1)) : ref06_Same_2X))
      else
      none
    else
    none
  else
  some (.inr (.r0 (true) : ref06_Same_2R))

def ref06_Same_2Step (L0 : List R_ii) (L1 : List R_ii) (N : Nat) : ref06_Same_2X → Option (ref06_Same_2X ⊕ ref06_Same_2R)
  | .h1m0 v2 => ref06_Same_2_h1m0 L0 L1 N v2

def ref06_Same_2In (L0 : List R_ii) (L1 : List R_ii) (N : Nat) : Option (ref06_Same_2X ⊕ ref06_Same_2R) :=
  if ¬ (((L0.length : Nat) : Int) = ((L1.length : Nat) : Int)) then
    some (.inr (.r0 (false) : ref06_Same_2R))
  else
  some (.inl (.h1m0 (0) : ref06_Same_2X))

def ref06_Same_2 (L0 : List R_ii) (L1 : List R_ii) (N : Nat) : Option ref06_Same_2R := goM (ref06_Same_2Step L0 L1 N) N (ref06_Same_2In L0 L1 N)

/-- gantlet/gantletref08.Take -/
inductive ref08_Take_2R where
  | r0 (w1 : Int) (w2 : Int)
  | r1 (w1 : Int) (w2 : Int)

def ref08_Take_2 (L0 : List R_ii) (N : Nat) : Option ref08_Take_2R :=
  ((ref08_Last_2 (L0) N).bind fun r => match r with
  | .r0 y0_0 y0_1 y0_2 =>
    if y0_2 = true then
      if (((L0.length : Nat) : Int) - (1 : Int)) ≤ (9223372036854775807 : Int) then
        if (0 : Int) ≤ (((L0.length : Nat) : Int) - (1 : Int)) then
          some (.r0 (y0_0) (y0_1) : ref08_Take_2R)
        else
        none
      else
      none
    else
    some (.r1 (y0_0) (y0_1) : ref08_Take_2R)
  )

/-- (*gantlet/held.Held).Add -/
inductive held_Held_Add_2R where
  | r0 (w1 : Int)
  | r1

def held_Held_Add_2 (a0 : Int) (a1 : Int) (b2 : Bool) (L3 : List R_ii) (N : Nat) : Option held_Held_Add_2R :=
  if b2 = true then
    if a0 < (0 : Int) then
      some (.r0 ((1 : Int)) : held_Held_Add_2R)
    else
    if (1024 : Int) ≤ a0 then
      some (.r0 ((1 : Int)) : held_Held_Add_2R)
    else
    if a1 < (0 : Int) then
      some (.r0 ((1 : Int)) : held_Held_Add_2R)
    else
    if (2199023255552 : Int) < a1 then
      some (.r0 ((1 : Int)) : held_Held_Add_2R)
    else
    ((held_Held_Has_2 (a0) (b2) (L3) N).bind fun r => match r with
    | .r0 y5_0 y5_1 =>
      if y5_1 = true then
        some (.r0 ((80 : Int)) : held_Held_Add_2R)
      else
      if L3.length ≤ 100000 then
        some (.r1 : held_Held_Add_2R)
      else
      none
    )
  else
  some (.r0 ((4 : Int)) : held_Held_Add_2R)

/-- gantlet/gantletref08.Add -/
inductive ref08_Add_2R where
  | r0 (w1 : Int)
  | r1 (w1 : List R_ii)

def ref08_Add_2 (L0 : List R_ii) (a1 : Int) (a2 : Int) (N : Nat) : Option ref08_Add_2R :=
  if a1 < (0 : Int) then
    some (.r0 ((1 : Int)) : ref08_Add_2R)
  else
  if (1023 : Int) < a1 then
    some (.r0 ((1 : Int)) : ref08_Add_2R)
  else
  if a2 < (0 : Int) then
    some (.r0 ((1 : Int)) : ref08_Add_2R)
  else
  if (2199023255552 : Int) < a2 then
    some (.r0 ((1 : Int)) : ref08_Add_2R)
  else
  ((ref08_Has_2 (L0) (a1) N).bind fun r => match r with
  | .r0 y4_0 y4_1 =>
    if y4_1 = true then
      some (.r0 ((80 : Int)) : ref08_Add_2R)
    else
    if L0.length = 0 then
      some (.r1 (([(⟨a1, a2⟩ : R_ii)] : List R_ii)) : ref08_Add_2R)
    else
    if L0.length ≤ 100000 then
      some (.r1 ((L0 ++ ([(⟨a1, a2⟩ : R_ii)] : List R_ii))) : ref08_Add_2R)
    else
    none
  )

/-- gantlet/gantletref06.Same -/
inductive ref06_Same_3R where
  | r0 (w1 : Bool)

inductive ref06_Same_3X where
  | h1m0

def ref06_Same_3_h1m0 (L0 : List R_ii) (N : Nat) : Option (ref06_Same_3X ⊕ ref06_Same_3R) :=
  some (.inr (.r0 (true) : ref06_Same_3R))

def ref06_Same_3Step (L0 : List R_ii) (N : Nat) : ref06_Same_3X → Option (ref06_Same_3X ⊕ ref06_Same_3R)
  | .h1m0 => ref06_Same_3_h1m0 L0 N

def ref06_Same_3In (L0 : List R_ii) (N : Nat) : Option (ref06_Same_3X ⊕ ref06_Same_3R) :=
  if ¬ ((0 : Int) = ((L0.length : Nat) : Int)) then
    some (.inr (.r0 (false) : ref06_Same_3R))
  else
  some (.inl (.h1m0 : ref06_Same_3X))

def ref06_Same_3 (L0 : List R_ii) (N : Nat) : Option ref06_Same_3R := goM (ref06_Same_3Step L0 N) N (ref06_Same_3In L0 N)

/-- gantlet/gantletlaw08.HeldRuns -/
inductive law08_HeldRunsR where
  | r0 (w2 : Bool)

inductive law08_HeldRunsX where
  | h1m0 (v3 : Nat)
  | h1m1 (v3 : Nat) (v5 : List R_ii) (v6 : List R_ii)
  | h1m2 (v3 : Nat) (v5 : List R_ii)
  | h2m0 (v3 : Nat) (v4 : Int) (v5 : Nat)
  | h2m1 (v3 : Nat) (v4 : Int) (v5 : Int) (v7 : Bool) (v10 : Int) (v11 : Bool) (v13 : List R_ii) (v16 : Int) (v17 : Int)
  | h2m2 (v3 : Nat) (v8 : Int) (v9 : Bool) (v13 : List R_ii)
  | h2m3 (v3 : Nat) (v4 : Int) (v5 : Int) (v6 : Bool) (v7 : Bool) (v8 : Int) (v9 : Bool) (v10 : Int) (v11 : Bool) (v13 : List R_ii) (v14 : List R_ii) (v15 : Int) (v16 : Int) (v17 : Int) (v18 : Int)
  | h3m0 (v3 : Nat) (v4 : Int) (v5 : Nat)
  | h3m1 (v3 : Nat) (v4 : Int) (v5 : Int) (v7 : Bool) (v10 : Int) (v11 : Bool) (v14 : List R_ii) (v17 : Int) (v18 : Int)
  | h3m2 (v3 : Nat) (v8 : Int) (v9 : Bool) (v12 : Bool) (v14 : List R_ii) (v19 : Int) (v20 : Int)
  | h3m3 (v3 : Nat) (v4 : Int) (v5 : Int) (v6 : Bool) (v7 : Bool) (v8 : Int) (v9 : Bool) (v10 : Int) (v11 : Bool) (v12 : Bool) (v14 : List R_ii) (v15 : List R_ii) (v16 : Int) (v17 : Int) (v18 : Int) (v19 : Int) (v20 : Int) (v21 : Int)

def law08_HeldRuns_h1m0 (L1 : List R_uii) (n2 : Nat) (N : Nat) (v3 : Nat) : Option (law08_HeldRunsX ⊕ law08_HeldRunsR) :=
  if ((v3 : Nat) : Int) < ((L1.length : Nat) : Int) then
    if ((v3 : Nat) : Int) < (80 : Int) then
      if (Int.tmod (L1.getD v3 R_uii.z).a0 (9 : Int)) = (5 : Int) then
        ((held_Held_Take (true) N).bind fun r => match r with
        | .r0 =>
          ((ref08_Take N).bind fun r => match r with
          | .r0 =>
            ((held_Held_Has ((L1.getD v3 R_uii.z).a1) (true) N).bind fun r => match r with
            | .r0 =>
              ((ref08_Has ((L1.getD v3 R_uii.z).a1) N).bind fun r => match r with
              | .r0 =>
                some (.inl (.h2m0 (v3) ((0 : Int)) (0) : law08_HeldRunsX))
              )
            )
          )
        )
      else
      if (Int.tmod (L1.getD v3 R_uii.z).a0 (9 : Int)) = (6 : Int) then
        ((held_Held_Take (true) N).bind fun r => match r with
        | .r0 =>
          ((ref08_Take N).bind fun r => match r with
          | .r0 =>
            ((held_Held_Has ((L1.getD v3 R_uii.z).a1) (true) N).bind fun r => match r with
            | .r0 =>
              ((ref08_Has ((L1.getD v3 R_uii.z).a1) N).bind fun r => match r with
              | .r0 =>
                some (.inl (.h2m0 (v3) ((0 : Int)) (0) : law08_HeldRunsX))
              )
            )
          )
        )
      else
      if (Int.tmod (L1.getD v3 R_uii.z).a0 (9 : Int)) = (7 : Int) then
        ((held_Held_Has ((L1.getD v3 R_uii.z).a1) (true) N).bind fun r => match r with
        | .r0 =>
          ((ref08_Has ((L1.getD v3 R_uii.z).a1) N).bind fun r => match r with
          | .r0 =>
            some (.inl (.h2m0 (v3) ((0 : Int)) (0) : law08_HeldRunsX))
          )
        )
      else
      if (Int.tmod (L1.getD v3 R_uii.z).a0 (9 : Int)) = (8 : Int) then
        ((held_Held_Add ((7 : Int)) ((7 : Int)) (true) N).bind fun r => match r with
        | .r0 y6_0 =>
          ((held_Held_Take (true) N).bind fun r => match r with
          | .r0 =>
            ((held_Held_Has ((L1.getD v3 R_uii.z).a1) (true) N).bind fun r => match r with
            | .r0 =>
              ((ref08_Has ((L1.getD v3 R_uii.z).a1) N).bind fun r => match r with
              | .r0 =>
                some (.inl (.h2m0 (v3) ((0 : Int)) (0) : law08_HeldRunsX))
              )
            )
          )
        | .r1 =>
          ((held_Held_Take_2 (true) (([(⟨(7 : Int), (7 : Int)⟩ : R_ii)] : List R_ii)) N).bind fun r => match r with
          | .r0 y7_0 y7_1 =>
            ((held_Held_Has ((L1.getD v3 R_uii.z).a1) (true) N).bind fun r => match r with
            | .r0 =>
              ((ref08_Has ((L1.getD v3 R_uii.z).a1) N).bind fun r => match r with
              | .r0 =>
                some (.inl (.h2m0 (v3) ((0 : Int)) (0) : law08_HeldRunsX))
              )
            )
          | .r1 y7_0 y7_1 =>
            ((held_Held_Has ((L1.getD v3 R_uii.z).a1) (true) N).bind fun r => match r with
            | .r0 =>
              ((ref08_Has ((L1.getD v3 R_uii.z).a1) N).bind fun r => match r with
              | .r0 =>
                some (.inl (.h2m0 (v3) ((0 : Int)) (0) : law08_HeldRunsX))
              )
            )
          )
        )
      else
      ((held_Held_Add ((L1.getD v3 R_uii.z).a1) ((L1.getD v3 R_uii.z).a2) (true) N).bind fun r => match r with
      | .r0 y6_0 =>
        ((ref08_Add ((L1.getD v3 R_uii.z).a1) ((L1.getD v3 R_uii.z).a2) N).bind fun r => match r with
        | .r0 =>
          ((held_Held_Has ((L1.getD v3 R_uii.z).a1) (true) N).bind fun r => match r with
          | .r0 =>
            ((ref08_Has ((L1.getD v3 R_uii.z).a1) N).bind fun r => match r with
            | .r0 =>
              some (.inl (.h2m0 (v3) (y6_0) (1) : law08_HeldRunsX))
            )
          )
        | .r1 =>
          ((held_Held_Has ((L1.getD v3 R_uii.z).a1) (true) N).bind fun r => match r with
          | .r0 =>
            ((ref08_Has_2 (([(⟨(L1.getD v3 R_uii.z).a1, (L1.getD v3 R_uii.z).a2⟩ : R_ii)] : List R_ii)) ((L1.getD v3 R_uii.z).a1) N).bind fun r => match r with
            | .r0 y9_0 y9_1 =>
              some (.inl (.h2m1 (v3) (y6_0) ((0 : Int)) (false) (y9_0) (y9_1) (([(⟨(L1.getD v3 R_uii.z).a1, (L1.getD v3 R_uii.z).a2⟩ : R_ii)] : List R_ii)) ((0 : Int)) ((0 : Int)) : law08_HeldRunsX))
            )
          )
        )
      | .r1 =>
        ((ref08_Add ((L1.getD v3 R_uii.z).a1) ((L1.getD v3 R_uii.z).a2) N).bind fun r => match r with
        | .r0 =>
          ((held_Held_Has_2 ((L1.getD v3 R_uii.z).a1) (true) (([(⟨(L1.getD v3 R_uii.z).a1, (L1.getD v3 R_uii.z).a2⟩ : R_ii)] : List R_ii)) N).bind fun r => match r with
          | .r0 y8_0 y8_1 =>
            ((ref08_Has ((L1.getD v3 R_uii.z).a1) N).bind fun r => match r with
            | .r0 =>
              some (.inl (.h2m2 (v3) (y8_0) (y8_1) (([(⟨(L1.getD v3 R_uii.z).a1, (L1.getD v3 R_uii.z).a2⟩ : R_ii)] : List R_ii)) : law08_HeldRunsX))
            )
          )
        | .r1 =>
          ((held_Held_Has_2 ((L1.getD v3 R_uii.z).a1) (true) (([(⟨(L1.getD v3 R_uii.z).a1, (L1.getD v3 R_uii.z).a2⟩ : R_ii)] : List R_ii)) N).bind fun r => match r with
          | .r0 y8_0 y8_1 =>
            ((ref08_Has_2 (([(⟨(L1.getD v3 R_uii.z).a1, (L1.getD v3 R_uii.z).a2⟩ : R_ii)] : List R_ii)) ((L1.getD v3 R_uii.z).a1) N).bind fun r => match r with
            | .r0 y9_0 y9_1 =>
              some (.inl (.h2m3 (v3) ((0 : Int)) ((0 : Int)) (false) (false) (y8_0) (y8_1) (y9_0) (y9_1) (([(⟨(L1.getD v3 R_uii.z).a1, (L1.getD v3 R_uii.z).a2⟩ : R_ii)] : List R_ii)) (([(⟨(L1.getD v3 R_uii.z).a1, (L1.getD v3 R_uii.z).a2⟩ : R_ii)] : List R_ii)) ((0 : Int)) ((0 : Int)) ((0 : Int)) ((0 : Int)) : law08_HeldRunsX))
            )
          )
        )
      )
    else
    some (.inr (.r0 (true) : law08_HeldRunsR))
  else
  some (.inr (.r0 (true) : law08_HeldRunsR))

def law08_HeldRuns_h1m1 (L1 : List R_uii) (n2 : Nat) (N : Nat) (v3 : Nat) (v5 : List R_ii) (v6 : List R_ii) : Option (law08_HeldRunsX ⊕ law08_HeldRunsR) :=
  if ((v3 : Nat) : Int) < ((L1.length : Nat) : Int) then
    if ((v3 : Nat) : Int) < (80 : Int) then
      if (Int.tmod (L1.getD v3 R_uii.z).a0 (9 : Int)) = (5 : Int) then
        ((held_Held_Take_2 (true) (v5) N).bind fun r => match r with
        | .r0 y3_0 y3_1 =>
          ((ref08_Take_2 (v6) N).bind fun r => match r with
          | .r0 y4_0 y4_1 =>
            ((held_Held_Has_2 ((L1.getD v3 R_uii.z).a1) (true) ((v5.take ((((v5.length : Nat) : Int) - (1 : Int))).toNat)) N).bind fun r => match r with
            | .r0 y5_0 y5_1 =>
              ((ref08_Has_2 ((v6.take ((((v6.length : Nat) : Int) - (1 : Int))).toNat)) ((L1.getD v3 R_uii.z).a1) N).bind fun r => match r with
              | .r0 y6_0 y6_1 =>
                some (.inl (.h2m3 (v3) ((0 : Int)) ((0 : Int)) (true) (true) (y5_0) (y5_1) (y6_0) (y6_1) ((v5.take ((((v5.length : Nat) : Int) - (1 : Int))).toNat)) ((v6.take ((((v6.length : Nat) : Int) - (1 : Int))).toNat)) (y3_0) (y3_1) (y4_0) (y4_1) : law08_HeldRunsX))
              )
            )
          | .r1 y4_0 y4_1 =>
            ((held_Held_Has_2 ((L1.getD v3 R_uii.z).a1) (true) ((v5.take ((((v5.length : Nat) : Int) - (1 : Int))).toNat)) N).bind fun r => match r with
            | .r0 y5_0 y5_1 =>
              ((ref08_Has_2 (v6) ((L1.getD v3 R_uii.z).a1) N).bind fun r => match r with
              | .r0 y6_0 y6_1 =>
                some (.inl (.h2m3 (v3) ((0 : Int)) ((0 : Int)) (true) (false) (y5_0) (y5_1) (y6_0) (y6_1) ((v5.take ((((v5.length : Nat) : Int) - (1 : Int))).toNat)) (v6) (y3_0) (y3_1) (y4_0) (y4_1) : law08_HeldRunsX))
              )
            )
          )
        | .r1 y3_0 y3_1 =>
          ((ref08_Take_2 (v6) N).bind fun r => match r with
          | .r0 y4_0 y4_1 =>
            ((held_Held_Has_2 ((L1.getD v3 R_uii.z).a1) (true) (v5) N).bind fun r => match r with
            | .r0 y5_0 y5_1 =>
              ((ref08_Has_2 ((v6.take ((((v6.length : Nat) : Int) - (1 : Int))).toNat)) ((L1.getD v3 R_uii.z).a1) N).bind fun r => match r with
              | .r0 y6_0 y6_1 =>
                some (.inl (.h2m3 (v3) ((0 : Int)) ((0 : Int)) (false) (true) (y5_0) (y5_1) (y6_0) (y6_1) (v5) ((v6.take ((((v6.length : Nat) : Int) - (1 : Int))).toNat)) (y3_0) (y3_1) (y4_0) (y4_1) : law08_HeldRunsX))
              )
            )
          | .r1 y4_0 y4_1 =>
            ((held_Held_Has_2 ((L1.getD v3 R_uii.z).a1) (true) (v5) N).bind fun r => match r with
            | .r0 y5_0 y5_1 =>
              ((ref08_Has_2 (v6) ((L1.getD v3 R_uii.z).a1) N).bind fun r => match r with
              | .r0 y6_0 y6_1 =>
                some (.inl (.h2m3 (v3) ((0 : Int)) ((0 : Int)) (false) (false) (y5_0) (y5_1) (y6_0) (y6_1) (v5) (v6) (y3_0) (y3_1) (y4_0) (y4_1) : law08_HeldRunsX))
              )
            )
          )
        )
      else
      if (Int.tmod (L1.getD v3 R_uii.z).a0 (9 : Int)) = (6 : Int) then
        ((held_Held_Take_2 (true) (v5) N).bind fun r => match r with
        | .r0 y4_0 y4_1 =>
          ((ref08_Take_2 (v6) N).bind fun r => match r with
          | .r0 y5_0 y5_1 =>
            ((held_Held_Has_2 ((L1.getD v3 R_uii.z).a1) (true) ((v5.take ((((v5.length : Nat) : Int) - (1 : Int))).toNat)) N).bind fun r => match r with
            | .r0 y6_0 y6_1 =>
              ((ref08_Has_2 ((v6.take ((((v6.length : Nat) : Int) - (1 : Int))).toNat)) ((L1.getD v3 R_uii.z).a1) N).bind fun r => match r with
              | .r0 y7_0 y7_1 =>
                some (.inl (.h2m3 (v3) ((0 : Int)) ((0 : Int)) (true) (true) (y6_0) (y6_1) (y7_0) (y7_1) ((v5.take ((((v5.length : Nat) : Int) - (1 : Int))).toNat)) ((v6.take ((((v6.length : Nat) : Int) - (1 : Int))).toNat)) (y4_0) (y4_1) (y5_0) (y5_1) : law08_HeldRunsX))
              )
            )
          | .r1 y5_0 y5_1 =>
            ((held_Held_Has_2 ((L1.getD v3 R_uii.z).a1) (true) ((v5.take ((((v5.length : Nat) : Int) - (1 : Int))).toNat)) N).bind fun r => match r with
            | .r0 y6_0 y6_1 =>
              ((ref08_Has_2 (v6) ((L1.getD v3 R_uii.z).a1) N).bind fun r => match r with
              | .r0 y7_0 y7_1 =>
                some (.inl (.h2m3 (v3) ((0 : Int)) ((0 : Int)) (true) (false) (y6_0) (y6_1) (y7_0) (y7_1) ((v5.take ((((v5.length : Nat) : Int) - (1 : Int))).toNat)) (v6) (y4_0) (y4_1) (y5_0) (y5_1) : law08_HeldRunsX))
              )
            )
          )
        | .r1 y4_0 y4_1 =>
          ((ref08_Take_2 (v6) N).bind fun r => match r with
          | .r0 y5_0 y5_1 =>
            ((held_Held_Has_2 ((L1.getD v3 R_uii.z).a1) (true) (v5) N).bind fun r => match r with
            | .r0 y6_0 y6_1 =>
              ((ref08_Has_2 ((v6.take ((((v6.length : Nat) : Int) - (1 : Int))).toNat)) ((L1.getD v3 R_uii.z).a1) N).bind fun r => match r with
              | .r0 y7_0 y7_1 =>
                some (.inl (.h2m3 (v3) ((0 : Int)) ((0 : Int)) (false) (true) (y6_0) (y6_1) (y7_0) (y7_1) (v5) ((v6.take ((((v6.length : Nat) : Int) - (1 : Int))).toNat)) (y4_0) (y4_1) (y5_0) (y5_1) : law08_HeldRunsX))
              )
            )
          | .r1 y5_0 y5_1 =>
            ((held_Held_Has_2 ((L1.getD v3 R_uii.z).a1) (true) (v5) N).bind fun r => match r with
            | .r0 y6_0 y6_1 =>
              ((ref08_Has_2 (v6) ((L1.getD v3 R_uii.z).a1) N).bind fun r => match r with
              | .r0 y7_0 y7_1 =>
                some (.inl (.h2m3 (v3) ((0 : Int)) ((0 : Int)) (false) (false) (y6_0) (y6_1) (y7_0) (y7_1) (v5) (v6) (y4_0) (y4_1) (y5_0) (y5_1) : law08_HeldRunsX))
              )
            )
          )
        )
      else
      if (Int.tmod (L1.getD v3 R_uii.z).a0 (9 : Int)) = (7 : Int) then
        ((held_Held_Has ((L1.getD v3 R_uii.z).a1) (true) N).bind fun r => match r with
        | .r0 =>
          ((ref08_Has ((L1.getD v3 R_uii.z).a1) N).bind fun r => match r with
          | .r0 =>
            some (.inl (.h2m0 (v3) ((0 : Int)) (0) : law08_HeldRunsX))
          )
        )
      else
      if (Int.tmod (L1.getD v3 R_uii.z).a0 (9 : Int)) = (8 : Int) then
        if v5.length = 0 then
          ((held_Held_Add_2 ((7 : Int)) ((7 : Int)) (true) (v5) N).bind fun r => match r with
          | .r0 y7_0 =>
            ((held_Held_Take_2 (true) (v5) N).bind fun r => match r with
            | .r0 y8_0 y8_1 =>
              ((held_Held_Has_2 ((L1.getD v3 R_uii.z).a1) (true) (([] : List R_ii)) N).bind fun r => match r with
              | .r0 y9_0 y9_1 =>
                ((ref08_Has_2 (v6) ((L1.getD v3 R_uii.z).a1) N).bind fun r => match r with
                | .r0 y10_0 y10_1 =>
                  some (.inl (.h2m3 (v3) ((0 : Int)) ((0 : Int)) (false) (false) (y9_0) (y9_1) (y10_0) (y10_1) (([] : List R_ii)) (v6) ((0 : Int)) ((0 : Int)) ((0 : Int)) ((0 : Int)) : law08_HeldRunsX))
                )
              )
            | .r1 y8_0 y8_1 =>
              ((held_Held_Has_2 ((L1.getD v3 R_uii.z).a1) (true) (([] : List R_ii)) N).bind fun r => match r with
              | .r0 y9_0 y9_1 =>
                ((ref08_Has_2 (v6) ((L1.getD v3 R_uii.z).a1) N).bind fun r => match r with
                | .r0 y10_0 y10_1 =>
                  some (.inl (.h2m3 (v3) ((0 : Int)) ((0 : Int)) (false) (false) (y9_0) (y9_1) (y10_0) (y10_1) (([] : List R_ii)) (v6) ((0 : Int)) ((0 : Int)) ((0 : Int)) ((0 : Int)) : law08_HeldRunsX))
                )
              )
            )
          | .r1 =>
            ((held_Held_Take_2 (true) ((v5 ++ ([(⟨(7 : Int), (7 : Int)⟩ : R_ii)] : List R_ii))) N).bind fun r => match r with
            | .r0 y8_0 y8_1 =>
              ((held_Held_Has_2 ((L1.getD v3 R_uii.z).a1) (true) (([] : List R_ii)) N).bind fun r => match r with
              | .r0 y9_0 y9_1 =>
                ((ref08_Has_2 (v6) ((L1.getD v3 R_uii.z).a1) N).bind fun r => match r with
                | .r0 y10_0 y10_1 =>
                  some (.inl (.h2m3 (v3) ((0 : Int)) ((0 : Int)) (false) (false) (y9_0) (y9_1) (y10_0) (y10_1) (([] : List R_ii)) (v6) ((0 : Int)) ((0 : Int)) ((0 : Int)) ((0 : Int)) : law08_HeldRunsX))
                )
              )
            | .r1 y8_0 y8_1 =>
              ((held_Held_Has_2 ((L1.getD v3 R_uii.z).a1) (true) (([] : List R_ii)) N).bind fun r => match r with
              | .r0 y9_0 y9_1 =>
                ((ref08_Has_2 (v6) ((L1.getD v3 R_uii.z).a1) N).bind fun r => match r with
                | .r0 y10_0 y10_1 =>
                  some (.inl (.h2m3 (v3) ((0 : Int)) ((0 : Int)) (false) (false) (y9_0) (y9_1) (y10_0) (y10_1) (([] : List R_ii)) (v6) ((0 : Int)) ((0 : Int)) ((0 : Int)) ((0 : Int)) : law08_HeldRunsX))
                )
              )
            )
          )
        else
        if v5.length ≤ 100000 then
          ((held_Held_Add_2 ((7 : Int)) ((7 : Int)) (true) (v5) N).bind fun r => match r with
          | .r0 y8_0 =>
            ((held_Held_Take_2 (true) (v5) N).bind fun r => match r with
            | .r0 y9_0 y9_1 =>
              ((held_Held_Has_2 ((L1.getD v3 R_uii.z).a1) (true) (v5) N).bind fun r => match r with
              | .r0 y10_0 y10_1 =>
                ((ref08_Has_2 (v6) ((L1.getD v3 R_uii.z).a1) N).bind fun r => match r with
                | .r0 y11_0 y11_1 =>
                  some (.inl (.h2m3 (v3) ((0 : Int)) ((0 : Int)) (false) (false) (y10_0) (y10_1) (y11_0) (y11_1) (v5) (v6) ((0 : Int)) ((0 : Int)) ((0 : Int)) ((0 : Int)) : law08_HeldRunsX))
                )
              )
            | .r1 y9_0 y9_1 =>
              ((held_Held_Has_2 ((L1.getD v3 R_uii.z).a1) (true) (v5) N).bind fun r => match r with
              | .r0 y10_0 y10_1 =>
                ((ref08_Has_2 (v6) ((L1.getD v3 R_uii.z).a1) N).bind fun r => match r with
                | .r0 y11_0 y11_1 =>
                  some (.inl (.h2m3 (v3) ((0 : Int)) ((0 : Int)) (false) (false) (y10_0) (y10_1) (y11_0) (y11_1) (v5) (v6) ((0 : Int)) ((0 : Int)) ((0 : Int)) ((0 : Int)) : law08_HeldRunsX))
                )
              )
            )
          | .r1 =>
            ((held_Held_Take_2 (true) ((v5 ++ ([(⟨(7 : Int), (7 : Int)⟩ : R_ii)] : List R_ii))) N).bind fun r => match r with
            | .r0 y9_0 y9_1 =>
              ((held_Held_Has_2 ((L1.getD v3 R_uii.z).a1) (true) (v5) N).bind fun r => match r with
              | .r0 y10_0 y10_1 =>
                ((ref08_Has_2 (v6) ((L1.getD v3 R_uii.z).a1) N).bind fun r => match r with
                | .r0 y11_0 y11_1 =>
                  some (.inl (.h2m3 (v3) ((0 : Int)) ((0 : Int)) (false) (false) (y10_0) (y10_1) (y11_0) (y11_1) (v5) (v6) ((0 : Int)) ((0 : Int)) ((0 : Int)) ((0 : Int)) : law08_HeldRunsX))
                )
              )
            | .r1 y9_0 y9_1 =>
              ((held_Held_Has_2 ((L1.getD v3 R_uii.z).a1) (true) (v5) N).bind fun r => match r with
              | .r0 y10_0 y10_1 =>
                ((ref08_Has_2 (v6) ((L1.getD v3 R_uii.z).a1) N).bind fun r => match r with
                | .r0 y11_0 y11_1 =>
                  some (.inl (.h2m3 (v3) ((0 : Int)) ((0 : Int)) (false) (false) (y10_0) (y10_1) (y11_0) (y11_1) (v5) (v6) ((0 : Int)) ((0 : Int)) ((0 : Int)) ((0 : Int)) : law08_HeldRunsX))
                )
              )
            )
          )
        else
        none
      else
      ((held_Held_Add_2 ((L1.getD v3 R_uii.z).a1) ((L1.getD v3 R_uii.z).a2) (true) (v5) N).bind fun r => match r with
      | .r0 y6_0 =>
        ((ref08_Add_2 (v6) ((L1.getD v3 R_uii.z).a1) ((L1.getD v3 R_uii.z).a2) N).bind fun r => match r with
        | .r0 y7_0 =>
          ((held_Held_Has_2 ((L1.getD v3 R_uii.z).a1) (true) (v5) N).bind fun r => match r with
          | .r0 y8_0 y8_1 =>
            ((ref08_Has_2 (v6) ((L1.getD v3 R_uii.z).a1) N).bind fun r => match r with
            | .r0 y9_0 y9_1 =>
              some (.inl (.h2m3 (v3) (y6_0) (y7_0) (false) (false) (y8_0) (y8_1) (y9_0) (y9_1) (v5) (v6) ((0 : Int)) ((0 : Int)) ((0 : Int)) ((0 : Int)) : law08_HeldRunsX))
            )
          )
        | .r1 y7_0 =>
          ((held_Held_Has_2 ((L1.getD v3 R_uii.z).a1) (true) (v5) N).bind fun r => match r with
          | .r0 y8_0 y8_1 =>
            ((ref08_Has_2 (y7_0) ((L1.getD v3 R_uii.z).a1) N).bind fun r => match r with
            | .r0 y9_0 y9_1 =>
              some (.inl (.h2m3 (v3) (y6_0) ((0 : Int)) (false) (false) (y8_0) (y8_1) (y9_0) (y9_1) (v5) (y7_0) ((0 : Int)) ((0 : Int)) ((0 : Int)) ((0 : Int)) : law08_HeldRunsX))
            )
          )
        )
      | .r1 =>
        ((ref08_Add_2 (v6) ((L1.getD v3 R_uii.z).a1) ((L1.getD v3 R_uii.z).a2) N).bind fun r => match r with
        | .r0 y7_0 =>
          ((held_Held_Has_2 ((L1.getD v3 R_uii.z).a1) (true) ((v5 ++ ([(⟨(L1.getD v3 R_uii.z).a1, (L1.getD v3 R_uii.z).a2⟩ : R_ii)] : List R_ii))) N).bind fun r => match r with
          | .r0 y8_0 y8_1 =>
            ((ref08_Has_2 (v6) ((L1.getD v3 R_uii.z).a1) N).bind fun r => match r with
            | .r0 y9_0 y9_1 =>
              some (.inl (.h2m3 (v3) ((0 : Int)) (y7_0) (false) (false) (y8_0) (y8_1) (y9_0) (y9_1) ((v5 ++ ([(⟨(L1.getD v3 R_uii.z).a1, (L1.getD v3 R_uii.z).a2⟩ : R_ii)] : List R_ii))) (v6) ((0 : Int)) ((0 : Int)) ((0 : Int)) ((0 : Int)) : law08_HeldRunsX))
            )
          )
        | .r1 y7_0 =>
          ((held_Held_Has_2 ((L1.getD v3 R_uii.z).a1) (true) ((v5 ++ ([(⟨(L1.getD v3 R_uii.z).a1, (L1.getD v3 R_uii.z).a2⟩ : R_ii)] : List R_ii))) N).bind fun r => match r with
          | .r0 y8_0 y8_1 =>
            ((ref08_Has_2 (y7_0) ((L1.getD v3 R_uii.z).a1) N).bind fun r => match r with
            | .r0 y9_0 y9_1 =>
              some (.inl (.h2m3 (v3) ((0 : Int)) ((0 : Int)) (false) (false) (y8_0) (y8_1) (y9_0) (y9_1) ((v5 ++ ([(⟨(L1.getD v3 R_uii.z).a1, (L1.getD v3 R_uii.z).a2⟩ : R_ii)] : List R_ii))) (y7_0) ((0 : Int)) ((0 : Int)) ((0 : Int)) ((0 : Int)) : law08_HeldRunsX))
            )
          )
        )
      )
    else
    some (.inr (.r0 (true) : law08_HeldRunsR))
  else
  some (.inr (.r0 (true) : law08_HeldRunsR))

def law08_HeldRuns_h1m2 (L1 : List R_uii) (n2 : Nat) (N : Nat) (v3 : Nat) (v5 : List R_ii) : Option (law08_HeldRunsX ⊕ law08_HeldRunsR) :=
  if ((v3 : Nat) : Int) < ((L1.length : Nat) : Int) then
    if ((v3 : Nat) : Int) < (80 : Int) then
      if (Int.tmod (L1.getD v3 R_uii.z).a0 (9 : Int)) = (5 : Int) then
        ((held_Held_Take (true) N).bind fun r => match r with
        | .r0 =>
          ((ref08_Take_2 (v5) N).bind fun r => match r with
          | .r0 y4_0 y4_1 =>
            ((held_Held_Has ((L1.getD v3 R_uii.z).a1) (true) N).bind fun r => match r with
            | .r0 =>
              ((ref08_Has_2 ((v5.take ((((v5.length : Nat) : Int) - (1 : Int))).toNat)) ((L1.getD v3 R_uii.z).a1) N).bind fun r => match r with
              | .r0 y6_0 y6_1 =>
                some (.inl (.h2m1 (v3) ((0 : Int)) ((0 : Int)) (true) (y6_0) (y6_1) ((v5.take ((((v5.length : Nat) : Int) - (1 : Int))).toNat)) (y4_0) (y4_1) : law08_HeldRunsX))
              )
            )
          | .r1 y4_0 y4_1 =>
            ((held_Held_Has ((L1.getD v3 R_uii.z).a1) (true) N).bind fun r => match r with
            | .r0 =>
              ((ref08_Has_2 (v5) ((L1.getD v3 R_uii.z).a1) N).bind fun r => match r with
              | .r0 y6_0 y6_1 =>
                some (.inl (.h2m1 (v3) ((0 : Int)) ((0 : Int)) (false) (y6_0) (y6_1) (v5) (y4_0) (y4_1) : law08_HeldRunsX))
              )
            )
          )
        )
      else
      if (Int.tmod (L1.getD v3 R_uii.z).a0 (9 : Int)) = (6 : Int) then
        ((held_Held_Take (true) N).bind fun r => match r with
        | .r0 =>
          ((ref08_Take_2 (v5) N).bind fun r => match r with
          | .r0 y5_0 y5_1 =>
            ((held_Held_Has ((L1.getD v3 R_uii.z).a1) (true) N).bind fun r => match r with
            | .r0 =>
              ((ref08_Has_2 ((v5.take ((((v5.length : Nat) : Int) - (1 : Int))).toNat)) ((L1.getD v3 R_uii.z).a1) N).bind fun r => match r with
              | .r0 y7_0 y7_1 =>
                some (.inl (.h2m1 (v3) ((0 : Int)) ((0 : Int)) (true) (y7_0) (y7_1) ((v5.take ((((v5.length : Nat) : Int) - (1 : Int))).toNat)) (y5_0) (y5_1) : law08_HeldRunsX))
              )
            )
          | .r1 y5_0 y5_1 =>
            ((held_Held_Has ((L1.getD v3 R_uii.z).a1) (true) N).bind fun r => match r with
            | .r0 =>
              ((ref08_Has_2 (v5) ((L1.getD v3 R_uii.z).a1) N).bind fun r => match r with
              | .r0 y7_0 y7_1 =>
                some (.inl (.h2m1 (v3) ((0 : Int)) ((0 : Int)) (false) (y7_0) (y7_1) (v5) (y5_0) (y5_1) : law08_HeldRunsX))
              )
            )
          )
        )
      else
      if (Int.tmod (L1.getD v3 R_uii.z).a0 (9 : Int)) = (7 : Int) then
        ((held_Held_Has ((L1.getD v3 R_uii.z).a1) (true) N).bind fun r => match r with
        | .r0 =>
          ((ref08_Has ((L1.getD v3 R_uii.z).a1) N).bind fun r => match r with
          | .r0 =>
            some (.inl (.h2m0 (v3) ((0 : Int)) (0) : law08_HeldRunsX))
          )
        )
      else
      if (Int.tmod (L1.getD v3 R_uii.z).a0 (9 : Int)) = (8 : Int) then
        ((held_Held_Add ((7 : Int)) ((7 : Int)) (true) N).bind fun r => match r with
        | .r0 y6_0 =>
          ((held_Held_Take (true) N).bind fun r => match r with
          | .r0 =>
            ((held_Held_Has ((L1.getD v3 R_uii.z).a1) (true) N).bind fun r => match r with
            | .r0 =>
              ((ref08_Has_2 (v5) ((L1.getD v3 R_uii.z).a1) N).bind fun r => match r with
              | .r0 y9_0 y9_1 =>
                some (.inl (.h2m1 (v3) ((0 : Int)) ((0 : Int)) (false) (y9_0) (y9_1) (v5) ((0 : Int)) ((0 : Int)) : law08_HeldRunsX))
              )
            )
          )
        | .r1 =>
          ((held_Held_Take_2 (true) (([(⟨(7 : Int), (7 : Int)⟩ : R_ii)] : List R_ii)) N).bind fun r => match r with
          | .r0 y7_0 y7_1 =>
            ((held_Held_Has ((L1.getD v3 R_uii.z).a1) (true) N).bind fun r => match r with
            | .r0 =>
              ((ref08_Has_2 (v5) ((L1.getD v3 R_uii.z).a1) N).bind fun r => match r with
              | .r0 y9_0 y9_1 =>
                some (.inl (.h2m1 (v3) ((0 : Int)) ((0 : Int)) (false) (y9_0) (y9_1) (v5) ((0 : Int)) ((0 : Int)) : law08_HeldRunsX))
              )
            )
          | .r1 y7_0 y7_1 =>
            ((held_Held_Has ((L1.getD v3 R_uii.z).a1) (true) N).bind fun r => match r with
            | .r0 =>
              ((ref08_Has_2 (v5) ((L1.getD v3 R_uii.z).a1) N).bind fun r => match r with
              | .r0 y9_0 y9_1 =>
                some (.inl (.h2m1 (v3) ((0 : Int)) ((0 : Int)) (false) (y9_0) (y9_1) (v5) ((0 : Int)) ((0 : Int)) : law08_HeldRunsX))
              )
            )
          )
        )
      else
      ((held_Held_Add ((L1.getD v3 R_uii.z).a1) ((L1.getD v3 R_uii.z).a2) (true) N).bind fun r => match r with
      | .r0 y6_0 =>
        ((ref08_Add_2 (v5) ((L1.getD v3 R_uii.z).a1) ((L1.getD v3 R_uii.z).a2) N).bind fun r => match r with
        | .r0 y7_0 =>
          ((held_Held_Has ((L1.getD v3 R_uii.z).a1) (true) N).bind fun r => match r with
          | .r0 =>
            ((ref08_Has_2 (v5) ((L1.getD v3 R_uii.z).a1) N).bind fun r => match r with
            | .r0 y9_0 y9_1 =>
              some (.inl (.h2m1 (v3) (y6_0) (y7_0) (false) (y9_0) (y9_1) (v5) ((0 : Int)) ((0 : Int)) : law08_HeldRunsX))
            )
          )
        | .r1 y7_0 =>
          ((held_Held_Has ((L1.getD v3 R_uii.z).a1) (true) N).bind fun r => match r with
          | .r0 =>
            ((ref08_Has_2 (y7_0) ((L1.getD v3 R_uii.z).a1) N).bind fun r => match r with
            | .r0 y9_0 y9_1 =>
              some (.inl (.h2m1 (v3) (y6_0) ((0 : Int)) (false) (y9_0) (y9_1) (y7_0) ((0 : Int)) ((0 : Int)) : law08_HeldRunsX))
            )
          )
        )
      | .r1 =>
        ((ref08_Add_2 (v5) ((L1.getD v3 R_uii.z).a1) ((L1.getD v3 R_uii.z).a2) N).bind fun r => match r with
        | .r0 y7_0 =>
          ((held_Held_Has_2 ((L1.getD v3 R_uii.z).a1) (true) (([(⟨(L1.getD v3 R_uii.z).a1, (L1.getD v3 R_uii.z).a2⟩ : R_ii)] : List R_ii)) N).bind fun r => match r with
          | .r0 y8_0 y8_1 =>
            ((ref08_Has_2 (v5) ((L1.getD v3 R_uii.z).a1) N).bind fun r => match r with
            | .r0 y9_0 y9_1 =>
              some (.inl (.h2m3 (v3) ((0 : Int)) (y7_0) (false) (false) (y8_0) (y8_1) (y9_0) (y9_1) (([(⟨(L1.getD v3 R_uii.z).a1, (L1.getD v3 R_uii.z).a2⟩ : R_ii)] : List R_ii)) (v5) ((0 : Int)) ((0 : Int)) ((0 : Int)) ((0 : Int)) : law08_HeldRunsX))
            )
          )
        | .r1 y7_0 =>
          ((held_Held_Has_2 ((L1.getD v3 R_uii.z).a1) (true) (([(⟨(L1.getD v3 R_uii.z).a1, (L1.getD v3 R_uii.z).a2⟩ : R_ii)] : List R_ii)) N).bind fun r => match r with
          | .r0 y8_0 y8_1 =>
            ((ref08_Has_2 (y7_0) ((L1.getD v3 R_uii.z).a1) N).bind fun r => match r with
            | .r0 y9_0 y9_1 =>
              some (.inl (.h2m3 (v3) ((0 : Int)) ((0 : Int)) (false) (false) (y8_0) (y8_1) (y9_0) (y9_1) (([(⟨(L1.getD v3 R_uii.z).a1, (L1.getD v3 R_uii.z).a2⟩ : R_ii)] : List R_ii)) (y7_0) ((0 : Int)) ((0 : Int)) ((0 : Int)) ((0 : Int)) : law08_HeldRunsX))
            )
          )
        )
      )
    else
    some (.inr (.r0 (true) : law08_HeldRunsR))
  else
  some (.inr (.r0 (true) : law08_HeldRunsR))

def law08_HeldRuns_h2m0 (L1 : List R_uii) (n2 : Nat) (N : Nat) (v3 : Nat) (v4 : Int) (v5 : Nat) : Option (law08_HeldRunsX ⊕ law08_HeldRunsR) :=
  ((held_Held_Last (true) N).bind fun r => match r with
  | .r0 =>
    some (.inl (.h3m0 (v3) (v4) (v5) : law08_HeldRunsX))
  )

def law08_HeldRuns_h2m1 (L1 : List R_uii) (n2 : Nat) (N : Nat) (v3 : Nat) (v4 : Int) (v5 : Int) (v7 : Bool) (v10 : Int) (v11 : Bool) (v13 : List R_ii) (v16 : Int) (v17 : Int) : Option (law08_HeldRunsX ⊕ law08_HeldRunsR) :=
  ((held_Held_Last (true) N).bind fun r => match r with
  | .r0 =>
    some (.inl (.h3m1 (v3) (v4) (v5) (v7) (v10) (v11) (v13) (v16) (v17) : law08_HeldRunsX))
  )

def law08_HeldRuns_h2m2 (L1 : List R_uii) (n2 : Nat) (N : Nat) (v3 : Nat) (v8 : Int) (v9 : Bool) (v13 : List R_ii) : Option (law08_HeldRunsX ⊕ law08_HeldRunsR) :=
  ((held_Held_Last_2 (true) (v13) N).bind fun r => match r with
  | .r0 y0_0 y0_1 y0_2 =>
    some (.inl (.h3m2 (v3) (v8) (v9) (y0_2) (v13) (y0_0) (y0_1) : law08_HeldRunsX))
  )

def law08_HeldRuns_h2m3 (L1 : List R_uii) (n2 : Nat) (N : Nat) (v3 : Nat) (v4 : Int) (v5 : Int) (v6 : Bool) (v7 : Bool) (v8 : Int) (v9 : Bool) (v10 : Int) (v11 : Bool) (v13 : List R_ii) (v14 : List R_ii) (v15 : Int) (v16 : Int) (v17 : Int) (v18 : Int) : Option (law08_HeldRunsX ⊕ law08_HeldRunsR) :=
  ((held_Held_Last_2 (true) (v13) N).bind fun r => match r with
  | .r0 y0_0 y0_1 y0_2 =>
    some (.inl (.h3m3 (v3) (v4) (v5) (v6) (v7) (v8) (v9) (v10) (v11) (y0_2) (v13) (v14) (v15) (v16) (v17) (v18) (y0_0) (y0_1) : law08_HeldRunsX))
  )

def law08_HeldRuns_h3m0 (L1 : List R_uii) (n2 : Nat) (N : Nat) (v3 : Nat) (v4 : Int) (v5 : Nat) : Option (law08_HeldRunsX ⊕ law08_HeldRunsR) :=
  ((ref08_Last N).bind fun r => match r with
  | .r0 =>
    if ¬ (v4 = ((v5 : Nat) : Int)) then
      some (.inr (.r0 (false) : law08_HeldRunsR))
    else
    ((ref06_Same N).bind fun r => match r with
    | .r0 =>
      if (((v3 + 1) : Nat) : Int) ≤ (9223372036854775807 : Int) then
        some (.inl (.h1m0 ((v3 + 1)) : law08_HeldRunsX))
      else
      none
    )
  )

def law08_HeldRuns_h3m1 (L1 : List R_uii) (n2 : Nat) (N : Nat) (v3 : Nat) (v4 : Int) (v5 : Int) (v7 : Bool) (v10 : Int) (v11 : Bool) (v14 : List R_ii) (v17 : Int) (v18 : Int) : Option (law08_HeldRunsX ⊕ law08_HeldRunsR) :=
  ((ref08_Last_2 (v14) N).bind fun r => match r with
  | .r0 y0_0 y0_1 y0_2 =>
    if ¬ (((0 : Int) = v17 ∧ (0 : Int) = v18)) then
      some (.inr (.r0 (false) : law08_HeldRunsR))
    else
    if ¬ (v4 = v5) then
      some (.inr (.r0 (false) : law08_HeldRunsR))
    else
    if ¬ (false = v7) then
      some (.inr (.r0 (false) : law08_HeldRunsR))
    else
    if ¬ ((0 : Int) = v10) then
      some (.inr (.r0 (false) : law08_HeldRunsR))
    else
    if ¬ (false = v11) then
      some (.inr (.r0 (false) : law08_HeldRunsR))
    else
    if ¬ (((0 : Int) = y0_0 ∧ (0 : Int) = y0_1)) then
      some (.inr (.r0 (false) : law08_HeldRunsR))
    else
    if ¬ (false = y0_2) then
      some (.inr (.r0 (false) : law08_HeldRunsR))
    else
    if ¬ ((0 : Int) = ((v14.length : Nat) : Int)) then
      some (.inr (.r0 (false) : law08_HeldRunsR))
    else
    ((ref06_Same_3 (v14) N).bind fun r => match r with
    | .r0 y9_0 =>
      if ¬ (y9_0 = true) then
        some (.inr (.r0 (false) : law08_HeldRunsR))
      else
      if (((v3 + 1) : Nat) : Int) ≤ (9223372036854775807 : Int) then
        some (.inl (.h1m2 ((v3 + 1)) (v14) : law08_HeldRunsX))
      else
      none
    )
  )

def law08_HeldRuns_h3m2 (L1 : List R_uii) (n2 : Nat) (N : Nat) (v3 : Nat) (v8 : Int) (v9 : Bool) (v12 : Bool) (v14 : List R_ii) (v19 : Int) (v20 : Int) : Option (law08_HeldRunsX ⊕ law08_HeldRunsR) :=
  ((ref08_Last N).bind fun r => match r with
  | .r0 =>
    some (.inr (.r0 (false) : law08_HeldRunsR))
  )

def law08_HeldRuns_h3m3 (L1 : List R_uii) (n2 : Nat) (N : Nat) (v3 : Nat) (v4 : Int) (v5 : Int) (v6 : Bool) (v7 : Bool) (v8 : Int) (v9 : Bool) (v10 : Int) (v11 : Bool) (v12 : Bool) (v14 : List R_ii) (v15 : List R_ii) (v16 : Int) (v17 : Int) (v18 : Int) (v19 : Int) (v20 : Int) (v21 : Int) : Option (law08_HeldRunsX ⊕ law08_HeldRunsR) :=
  ((ref08_Last_2 (v15) N).bind fun r => match r with
  | .r0 y0_0 y0_1 y0_2 =>
    if ¬ ((v16 = v18 ∧ v17 = v19)) then
      some (.inr (.r0 (false) : law08_HeldRunsR))
    else
    if ¬ (v4 = v5) then
      some (.inr (.r0 (false) : law08_HeldRunsR))
    else
    if ¬ (v6 = v7) then
      some (.inr (.r0 (false) : law08_HeldRunsR))
    else
    if ¬ (v8 = v10) then
      some (.inr (.r0 (false) : law08_HeldRunsR))
    else
    if ¬ (v9 = v11) then
      some (.inr (.r0 (false) : law08_HeldRunsR))
    else
    if ¬ ((v20 = y0_0 ∧ v21 = y0_1)) then
      some (.inr (.r0 (false) : law08_HeldRunsR))
    else
    if ¬ (v12 = y0_2) then
      some (.inr (.r0 (false) : law08_HeldRunsR))
    else
    if ¬ (((v14.length : Nat) : Int) = ((v15.length : Nat) : Int)) then
      some (.inr (.r0 (false) : law08_HeldRunsR))
    else
    if v14.length = 0 then
      ((ref06_Same_2 (([] : List R_ii)) (v15) N).bind fun r => match r with
      | .r0 y10_0 =>
        if ¬ (y10_0 = true) then
          some (.inr (.r0 (false) : law08_HeldRunsR))
        else
        if (((v3 + 1) : Nat) : Int) ≤ (9223372036854775807 : Int) then
          some (.inl (.h1m1 ((v3 + 1)) (v14) (v15) : law08_HeldRunsX))
        else
        none
      )
    else
    if v14.length ≤ 100000 then
      ((ref06_Same_2 (v14) (v15) N).bind fun r => match r with
      | .r0 y11_0 =>
        if ¬ (y11_0 = true) then
          some (.inr (.r0 (false) : law08_HeldRunsR))
        else
        if (((v3 + 1) : Nat) : Int) ≤ (9223372036854775807 : Int) then
          some (.inl (.h1m1 ((v3 + 1)) (v14) (v15) : law08_HeldRunsX))
        else
        none
      )
    else
    none
  )

def law08_HeldRunsStep (L1 : List R_uii) (n2 : Nat) (N : Nat) : law08_HeldRunsX → Option (law08_HeldRunsX ⊕ law08_HeldRunsR)
  | .h1m0 v3 => law08_HeldRuns_h1m0 L1 n2 N v3
  | .h1m1 v3 v5 v6 => law08_HeldRuns_h1m1 L1 n2 N v3 v5 v6
  | .h1m2 v3 v5 => law08_HeldRuns_h1m2 L1 n2 N v3 v5
  | .h2m0 v3 v4 v5 => law08_HeldRuns_h2m0 L1 n2 N v3 v4 v5
  | .h2m1 v3 v4 v5 v7 v10 v11 v13 v16 v17 => law08_HeldRuns_h2m1 L1 n2 N v3 v4 v5 v7 v10 v11 v13 v16 v17
  | .h2m2 v3 v8 v9 v13 => law08_HeldRuns_h2m2 L1 n2 N v3 v8 v9 v13
  | .h2m3 v3 v4 v5 v6 v7 v8 v9 v10 v11 v13 v14 v15 v16 v17 v18 => law08_HeldRuns_h2m3 L1 n2 N v3 v4 v5 v6 v7 v8 v9 v10 v11 v13 v14 v15 v16 v17 v18
  | .h3m0 v3 v4 v5 => law08_HeldRuns_h3m0 L1 n2 N v3 v4 v5
  | .h3m1 v3 v4 v5 v7 v10 v11 v14 v17 v18 => law08_HeldRuns_h3m1 L1 n2 N v3 v4 v5 v7 v10 v11 v14 v17 v18
  | .h3m2 v3 v8 v9 v12 v14 v19 v20 => law08_HeldRuns_h3m2 L1 n2 N v3 v8 v9 v12 v14 v19 v20
  | .h3m3 v3 v4 v5 v6 v7 v8 v9 v10 v11 v12 v14 v15 v16 v17 v18 v19 v20 v21 => law08_HeldRuns_h3m3 L1 n2 N v3 v4 v5 v6 v7 v8 v9 v10 v11 v12 v14 v15 v16 v17 v18 v19 v20 v21

def law08_HeldRunsIn (L1 : List R_uii) (n2 : Nat) (N : Nat) : Option (law08_HeldRunsX ⊕ law08_HeldRunsR) :=
  some (.inl (.h1m0 (0) : law08_HeldRunsX))

def law08_HeldRuns (L1 : List R_uii) (n2 : Nat) (N : Nat) : Option law08_HeldRunsR := goM (law08_HeldRunsStep L1 n2 N) N (law08_HeldRunsIn L1 n2 N)

/-- gantlet/gantletlaw08.HeldRuns -/
inductive law08_HeldRuns_2R where
  | r0

inductive law08_HeldRuns_2X where
  | h1m0

def law08_HeldRuns_2_h1m0  (N : Nat) : Option (law08_HeldRuns_2X ⊕ law08_HeldRuns_2R) :=
  some (.inr (.r0 : law08_HeldRuns_2R))

def law08_HeldRuns_2Step  (N : Nat) : law08_HeldRuns_2X → Option (law08_HeldRuns_2X ⊕ law08_HeldRuns_2R)
  | .h1m0 => law08_HeldRuns_2_h1m0  N

def law08_HeldRuns_2In  (N : Nat) : Option (law08_HeldRuns_2X ⊕ law08_HeldRuns_2R) :=
  some (.inl (.h1m0 : law08_HeldRuns_2X))

def law08_HeldRuns_2  (N : Nat) : Option law08_HeldRuns_2R := goM (law08_HeldRuns_2Step  N) N (law08_HeldRuns_2In  N)
end Ev
end Go.Proofs.Ytfpfedjihepcbaa
