/- Part 4. -/
import Derived.Test.YtgpekgedjmhmeaaGreatZac
/- Records, and the program's functions as plain ones. -/
namespace Go.Proofs.YtgpekgedjmhmeaaGreat
open Go.RowKit
namespace Ev
set_option linter.unusedVariables false
inductive Zel where
 | r0

def ZaT  (N : Nat) : Option Zel :=
 some (.r0 : Zel)

inductive ZaJ where
 | r0
 | r1

def Zbc (a0 : Int) (N : Nat) : Option ZaJ :=
 if (-1099511627776 : Int) ≤ a0 then
  if a0 ≤ (1099511627776 : Int) then
   some (.r0 : ZaJ)
  else
  some (.r1 : ZaJ)
 else
 some (.r1 : ZaJ)

inductive Zdh where
 | r0

def Za3  (N : Nat) : Option Zdh :=
 some (.r0 : Zdh)

inductive ZaK where
 | r0
 | r1

def Zaf (a0 : Int) (N : Nat) : Option ZaK :=
 if (0 : Int) ≤ a0 then
  if a0 ≤ (15 : Int) then
   some (.r0 : ZaK)
  else
  some (.r1 : ZaK)
 else
 some (.r1 : ZaK)

inductive Zdi where
 | r0

def ZdQ  (N : Nat) : Option Zdi :=
 some (.r0 : Zdi)

inductive Zdj where
 | r0

def Zcb  (N : Nat) : Option Zdj :=
 some (.r0 : Zdj)

inductive Zdk where
 | r0

def ZdR  (N : Nat) : Option Zdk :=
 some (.r0 : Zdk)

inductive Zdl where
 | r0

def ZdS  (N : Nat) : Option Zdl :=
 some (.r0 : Zdl)

inductive Zdm where
 | r0

def Zbd  (N : Nat) : Option Zdm :=
 some (.r0 : Zdm)

inductive Zc0 where
 | r0

def Zb7  (N : Nat) : Option Zc0 :=
 some (.r0 : Zc0)

inductive Zc1 where
 | r0

def Zdn  (N : Nat) : Option Zc1 :=
 some (.r0 : Zc1)

inductive Zc2 where
 | r0

def Zb8  (N : Nat) : Option Zc2 :=
 some (.r0 : Zc2)

inductive Zc3 where
 | r0

def Zdo  (N : Nat) : Option Zc3 :=
 some (.r0 : Zc3)

inductive Zc4 where
 | r0

def ZaL  (N : Nat) : Option Zc4 :=
 some (.r0 : Zc4)

inductive Zc5 where
 | r0

def ZaM  (N : Nat) : Option Zc5 :=
 some (.r0 : Zc5)

inductive Zc6 where
 | r0

def ZaN  (N : Nat) : Option Zc6 :=
 some (.r0 : Zc6)

inductive Zc7 where
 | r0

def ZaO  (N : Nat) : Option Zc7 :=
 some (.r0 : Zc7)

inductive Zc8 where
 | r0

def Zdp  (N : Nat) : Option Zc8 :=
 some (.r0 : Zc8)

inductive Zc9 where
 | r0

def Zb9  (N : Nat) : Option Zc9 :=
 some (.r0 : Zc9)

inductive ZcA where
 | r0

def Zdq  (N : Nat) : Option ZcA :=
 some (.r0 : ZcA)

inductive ZcB where
 | r0

def Zdr  (N : Nat) : Option ZcB :=
 some (.r0 : ZcB)

inductive Za9 where
 | r0
 | r1

def ZbA (a0 : Int) (N : Nat) : Option Za9 :=
 if (0 : Int) ≤ a0 then
  if a0 ≤ (15 : Int) then
   some (.r0 : Za9)
  else
  some (.r1 : Za9)
 else
 some (.r1 : Za9)

inductive ZcC where
 | r0

def Zau  (N : Nat) : Option ZcC :=
 some (.r0 : ZcC)

inductive ZB where
 | r0
 | r1
 | r2

def Zb4 (a0 : Int) (a1 : Int) (N : Nat) : Option ZB :=
 if (0 : Int) ≤ a0 then
  if a0 ≤ (7 : Int) then
   if (-1099511627776 : Int) ≤ a1 then
    if a1 ≤ (1099511627776 : Int) then
     ((ZaT N).bind fun r => match r with
     | .r0 =>
      ((Zbc (a1) N).bind fun r => match r with
      | .r0 =>
       ((Za3 N).bind fun r => match r with
       | .r0 =>
        ((Zaf (a0) N).bind fun r => match r with
        | .r0 =>
         ((ZdQ N).bind fun r => match r with
         | .r0 =>
          ((Zcb N).bind fun r => match r with
          | .r0 =>
           ((ZdR N).bind fun r => match r with
           | .r0 =>
            ((ZdS N).bind fun r => match r with
            | .r0 =>
             ((Zbd N).bind fun r => match r with
             | .r0 =>
              ((Zb7 N).bind fun r => match r with
              | .r0 =>
               ((Zdn N).bind fun r => match r with
               | .r0 =>
                ((Zb8 N).bind fun r => match r with
                | .r0 =>
                 ((Zdo N).bind fun r => match r with
                 | .r0 =>
                  ((ZaL N).bind fun r => match r with
                  | .r0 =>
                   ((ZaM N).bind fun r => match r with
                   | .r0 =>
                    ((ZaN N).bind fun r => match r with
                    | .r0 =>
                     ((ZaO N).bind fun r => match r with
                     | .r0 =>
                      ((Zdp N).bind fun r => match r with
                      | .r0 =>
                       ((Zbd N).bind fun r => match r with
                       | .r0 =>
                        ((Zb9 N).bind fun r => match r with
                        | .r0 =>
                         ((Zdq N).bind fun r => match r with
                         | .r0 =>
                          ((ZaL N).bind fun r => match r with
                          | .r0 =>
                           ((ZaM N).bind fun r => match r with
                           | .r0 =>
                            ((ZaN N).bind fun r => match r with
                            | .r0 =>
                             ((ZaO N).bind fun r => match r with
                             | .r0 =>
                              ((Zdr N).bind fun r => match r with
                              | .r0 =>
                               ((Zbd N).bind fun r => match r with
                               | .r0 =>
                                ((ZaN N).bind fun r => match r with
                                | .r0 =>
                                 ((ZaO N).bind fun r => match r with
                                 | .r0 =>
                                  ((ZbA (a0) N).bind fun r => match r with
                                  | .r0 =>
                                   ((Zau N).bind fun r => match r with
                                   | .r0 =>
                                    ((ZaT N).bind fun r => match r with
                                    | .r0 =>
                                     ((Zbc (a1) N).bind fun r => match r with
                                     | .r0 =>
                                      ((Za3 N).bind fun r => match r with
                                      | .r0 =>
                                       ((Zaf (a0) N).bind fun r => match r with
                                       | .r0 =>
                                        ((ZdQ N).bind fun r => match r with
                                        | .r0 =>
                                         ((Zcb N).bind fun r => match r with
                                         | .r0 =>
                                          ((ZdR N).bind fun r => match r with
                                          | .r0 =>
                                           ((ZdS N).bind fun r => match r with
                                           | .r0 =>
                                            ((Zbd N).bind fun r => match r with
                                            | .r0 =>
                                             ((Zb7 N).bind fun r => match r with
                                             | .r0 =>
                                              ((Zdn N).bind fun r => match r with
                                              | .r0 =>
                                               ((Zb8 N).bind fun r => match r with
                                               | .r0 =>
                                                ((Zdo N).bind fun r => match r with
                                                | .r0 =>
                                                 ((ZaL N).bind fun r => match r with
                                                 | .r0 =>
                                                  ((ZaM N).bind fun r => match r with
                                                  | .r0 =>
                                                   ((ZaN N).bind fun r => match r with
                                                   | .r0 =>
                                                    ((ZaO N).bind fun r => match r with
                                                    | .r0 =>
                                                     ((Zdp N).bind fun r => match r with
                                                     | .r0 =>
                                                      ((Zbd N).bind fun r => match r with
                                                      | .r0 =>
                                                       ((Zb9 N).bind fun r => match r with
                                                       | .r0 =>
                                                        ((Zdq N).bind fun r => match r with
                                                        | .r0 =>
                                                         ((ZaL N).bind fun r => match r with
                                                         | .r0 =>
                                                          ((ZaM N).bind fun r => match r with
                                                          | .r0 =>
                                                           ((ZaN N).bind fun r => match r with
                                                           | .r0 =>
                                                            ((ZaO N).bind fun r => match r with
                                                            | .r0 =>
                                                             ((Zdr N).bind fun r => match r with
                                                             | .r0 =>
                                                              ((Zbd N).bind fun r => match r with
                                                              | .r0 =>
                                                               ((ZaN N).bind fun r => match r with
                                                               | .r0 =>
                                                                ((ZaO N).bind fun r => match r with
                                                                | .r0 =>
                                                                 ((ZbA (a0) N).bind fun r => match r with
                                                                 | .r0 =>
                                                                  ((Zau N).bind fun r => match r with
                                                                  | .r0 =>
                                                                   some (.r0 : ZB)
                                                                  )
                                                                 | .r1 =>
                                                                  some (.r1 : ZB)
                                                                 )
                                                                )
                                                               )
                                                              )
                                                             )
                                                            )
                                                           )
                                                          )
                                                         )
                                                        )
                                                       )
                                                      )
                                                     )
                                                    )
                                                   )
                                                  )
                                                 )
                                                )
                                               )
                                              )
                                             )
                                            )
                                           )
                                          )
                                         )
                                        )
                                       | .r1 =>
                                        some (.r1 : ZB)
                                       )
                                      )
                                     | .r1 =>
                                      some (.r1 : ZB)
                                     )
                                    )
                                   )
                                  | .r1 =>
                                   some (.r1 : ZB)
                                  )
                                 )
                                )
                               )
                              )
                             )
                            )
                           )
                          )
                         )
                        )
                       )
                      )
                     )
                    )
                   )
                  )
                 )
                )
               )
              )
             )
            )
           )
          )
         )
        | .r1 =>
         some (.r1 : ZB)
        )
       )
      | .r1 =>
       some (.r1 : ZB)
      )
     )
    else
    some (.r2 : ZB)
   else
   some (.r2 : ZB)
  else
  some (.r2 : ZB)
 else
 some (.r2 : ZB)

inductive Zag where
 | r0
 | r1

def Zbq (a0 : Int) (a1 : Int) (N : Nat) : Option Zag :=
 if (0 : Int) ≤ a0 then
  if a0 ≤ (7 : Int) then
   if (-1099511627776 : Int) ≤ a1 then
    if a1 ≤ (1099511627776 : Int) then
     some (.r0 : Zag)
    else
    some (.r1 : Zag)
   else
   some (.r1 : Zag)
  else
  some (.r1 : Zag)
 else
 some (.r1 : Zag)

inductive ZcD where
 | r0

def Zds  (N : Nat) : Option ZcD :=
 some (.r0 : ZcD)

inductive ZcE where
 | r0

def Zdt  (N : Nat) : Option ZcE :=
 some (.r0 : ZcE)

inductive ZcF where
 | r0

def Zdu  (N : Nat) : Option ZcF :=
 some (.r0 : ZcF)

inductive ZcG where
 | r0

def Zdv  (N : Nat) : Option ZcG :=
 some (.r0 : ZcG)

inductive ZcH where
 | r0

def Zdw  (N : Nat) : Option ZcH :=
 some (.r0 : ZcH)

inductive ZcI where
 | r0

def Zdx  (N : Nat) : Option ZcI :=
 some (.r0 : ZcI)

inductive ZcJ where
 | r0

def Zdy  (N : Nat) : Option ZcJ :=
 some (.r0 : ZcJ)

inductive ZcK where
 | r0

def ZbB  (N : Nat) : Option ZcK :=
 some (.r0 : ZcK)

inductive ZcL where
 | r0

def ZbC  (N : Nat) : Option ZcL :=
 some (.r0 : ZcL)

inductive ZV where
 | r0
 | r1
 | r2

def Zcc (a0 : Int) (a1 : Int) (N : Nat) : Option ZV :=
 if (0 : Int) ≤ a0 then
  if a0 ≤ (7 : Int) then
   if (-1099511627776 : Int) ≤ a1 then
    if a1 ≤ (1099511627776 : Int) then
     ((ZaT N).bind fun r => match r with
     | .r0 =>
      ((Zbc (a1) N).bind fun r => match r with
      | .r0 =>
       ((Zds N).bind fun r => match r with
       | .r0 =>
        ((Za3 N).bind fun r => match r with
        | .r0 =>
         ((Zaf (a0) N).bind fun r => match r with
         | .r0 =>
          ((Zdt N).bind fun r => match r with
          | .r0 =>
           ((Zcb N).bind fun r => match r with
           | .r0 =>
            ((Zdu N).bind fun r => match r with
            | .r0 =>
             ((Zdv N).bind fun r => match r with
             | .r0 =>
              ((Zdw N).bind fun r => match r with
              | .r0 =>
               ((Zb7 N).bind fun r => match r with
               | .r0 =>
                ((Zb9 N).bind fun r => match r with
                | .r0 =>
                 ((Zdx N).bind fun r => match r with
                 | .r0 =>
                  ((Zb8 N).bind fun r => match r with
                  | .r0 =>
                   ((Zdy N).bind fun r => match r with
                   | .r0 =>
                    ((ZbB N).bind fun r => match r with
                    | .r0 =>
                     ((ZbB N).bind fun r => match r with
                     | .r0 =>
                      ((ZaL N).bind fun r => match r with
                      | .r0 =>
                       ((ZaM N).bind fun r => match r with
                       | .r0 =>
                        ((Zau N).bind fun r => match r with
                        | .r0 =>
                         ((ZbC N).bind fun r => match r with
                         | .r0 =>
                          ((ZaT N).bind fun r => match r with
                          | .r0 =>
                           ((Zbc (a1) N).bind fun r => match r with
                           | .r0 =>
                            ((Zds N).bind fun r => match r with
                            | .r0 =>
                             ((Za3 N).bind fun r => match r with
                             | .r0 =>
                              ((Zaf (a0) N).bind fun r => match r with
                              | .r0 =>
                               ((Zdt N).bind fun r => match r with
                               | .r0 =>
                                ((Zcb N).bind fun r => match r with
                                | .r0 =>
                                 ((Zdu N).bind fun r => match r with
                                 | .r0 =>
                                  ((Zdv N).bind fun r => match r with
                                  | .r0 =>
                                   ((Zdw N).bind fun r => match r with
                                   | .r0 =>
                                    ((Zb7 N).bind fun r => match r with
                                    | .r0 =>
                                     ((Zb9 N).bind fun r => match r with
                                     | .r0 =>
                                      ((Zdx N).bind fun r => match r with
                                      | .r0 =>
                                       ((Zb8 N).bind fun r => match r with
                                       | .r0 =>
                                        ((Zdy N).bind fun r => match r with
                                        | .r0 =>
                                         ((ZbB N).bind fun r => match r with
                                         | .r0 =>
                                          ((ZbB N).bind fun r => match r with
                                          | .r0 =>
                                           ((ZaL N).bind fun r => match r with
                                           | .r0 =>
                                            ((ZaM N).bind fun r => match r with
                                            | .r0 =>
                                             ((Zau N).bind fun r => match r with
                                             | .r0 =>
                                              ((ZbC N).bind fun r => match r with
                                              | .r0 =>
                                               some (.r0 : ZV)
                                              )
                                             )
                                            )
                                           )
                                          )
                                         )
                                        )
                                       )
                                      )
                                     )
                                    )
                                   )
                                  )
                                 )
                                )
                               )
                              | .r1 =>
                               some (.r1 : ZV)
                              )
                             )
                            )
                           | .r1 =>
                            some (.r1 : ZV)
                           )
                          )
                         )
                        )
                       )
                      )
                     )
                    )
                   )
                  )
                 )
                )
               )
              )
             )
            )
           )
          )
         | .r1 =>
          some (.r1 : ZV)
         )
        )
       )
      | .r1 =>
       some (.r1 : ZV)
      )
     )
    else
    some (.r2 : ZV)
   else
   some (.r2 : ZV)
  else
  some (.r2 : ZV)
 else
 some (.r2 : ZV)

inductive Za0 where
 | r0
 | r1

def Zcm (a0 : Int) (a1 : Int) (N : Nat) : Option Za0 :=
 if (0 : Int) ≤ a0 then
  if a0 ≤ (7 : Int) then
   if (-1099511627776 : Int) ≤ a1 then
    if a1 ≤ (1099511627776 : Int) then
     some (.r0 : Za0)
    else
    some (.r1 : Za0)
   else
   some (.r1 : Za0)
  else
  some (.r1 : Za0)
 else
 some (.r1 : Za0)

inductive ZcM where
 | r0

def Zdz  (N : Nat) : Option ZcM :=
 some (.r0 : ZcM)

inductive ZcN where
 | r0

def Zd0  (N : Nat) : Option ZcN :=
 some (.r0 : ZcN)

inductive ZcO where
 | r0

def Zd1  (N : Nat) : Option ZcO :=
 some (.r0 : ZcO)

inductive ZcP where
 | r0

def Zd2  (N : Nat) : Option ZcP :=
 some (.r0 : ZcP)

inductive ZcQ where
 | r0

def Zd3  (N : Nat) : Option ZcQ :=
 some (.r0 : ZcQ)

inductive ZcR where
 | r0

def Zd4  (N : Nat) : Option ZcR :=
 some (.r0 : ZcR)

inductive ZcS where
 | r0

def Zd5  (N : Nat) : Option ZcS :=
 some (.r0 : ZcS)

inductive Za1 where
 | r0
 | r1
 | r2

def Zb1 (a0 : Int) (N : Nat) : Option Za1 :=
 if (0 : Int) ≤ a0 then
  if a0 ≤ (7 : Int) then
   ((ZaT N).bind fun r => match r with
   | .r0 =>
    ((Za3 N).bind fun r => match r with
    | .r0 =>
     ((Zaf (a0) N).bind fun r => match r with
     | .r0 =>
      ((Zdz N).bind fun r => match r with
      | .r0 =>
       ((Zd0 N).bind fun r => match r with
       | .r0 =>
        ((Zd1 N).bind fun r => match r with
        | .r0 =>
         ((Zd2 N).bind fun r => match r with
         | .r0 =>
          ((Zd3 N).bind fun r => match r with
          | .r0 =>
           ((Zau N).bind fun r => match r with
           | .r0 =>
            ((Zd4 N).bind fun r => match r with
            | .r0 =>
             ((Zd5 N).bind fun r => match r with
             | .r0 =>
              ((ZbC N).bind fun r => match r with
              | .r0 =>
               ((ZaT N).bind fun r => match r with
               | .r0 =>
                ((Za3 N).bind fun r => match r with
                | .r0 =>
                 ((Zaf (a0) N).bind fun r => match r with
                 | .r0 =>
                  ((Zdz N).bind fun r => match r with
                  | .r0 =>
                   ((Zd0 N).bind fun r => match r with
                   | .r0 =>
                    ((Zd1 N).bind fun r => match r with
                    | .r0 =>
                     ((Zd2 N).bind fun r => match r with
                     | .r0 =>
                      ((Zd3 N).bind fun r => match r with
                      | .r0 =>
                       ((Zau N).bind fun r => match r with
                       | .r0 =>
                        ((Zd4 N).bind fun r => match r with
                        | .r0 =>
                         ((Zd5 N).bind fun r => match r with
                         | .r0 =>
                          ((ZbC N).bind fun r => match r with
                          | .r0 =>
                           some (.r0 : Za1)
                          )
                         )
                        )
                       )
                      )
                     )
                    )
                   )
                  )
                 | .r1 =>
                  some (.r1 : Za1)
                 )
                )
               )
              )
             )
            )
           )
          )
         )
        )
       )
      )
     | .r1 =>
      some (.r1 : Za1)
     )
    )
   )
  else
  some (.r2 : Za1)
 else
 some (.r2 : Za1)

inductive Zbr where
 | r0
 | r1

def Zbp (a0 : Int) (N : Nat) : Option Zbr :=
 if (0 : Int) ≤ a0 then
  if a0 ≤ (7 : Int) then
   some (.r0 : Zbr)
  else
  some (.r1 : Zbr)
 else
 some (.r1 : Zbr)

inductive ZcT where
 | r0

def Zd6  (N : Nat) : Option ZcT :=
 some (.r0 : ZcT)

inductive ZaA where
 | r0
 | r1

def ZbD (a0 : Int) (N : Nat) : Option ZaA :=
 if (0 : Int) ≤ a0 then
  if a0 ≤ (15 : Int) then
   some (.r0 : ZaA)
  else
  some (.r1 : ZaA)
 else
 some (.r1 : ZaA)

inductive ZaB where
 | r0
 | r1

def ZbE (a0 : Int) (N : Nat) : Option ZaB :=
 if (0 : Int) ≤ a0 then
  if a0 ≤ (15 : Int) then
   some (.r0 : ZaB)
  else
  some (.r1 : ZaB)
 else
 some (.r1 : ZaB)

inductive ZM where
 | r0
 | r1
 | r2

def Zb2 (a0 : Int) (a1 : Int) (N : Nat) : Option ZM :=
 if (0 : Int) ≤ a0 then
  if a0 ≤ (7 : Int) then
   if (0 : Int) ≤ a1 then
    if a1 ≤ (7 : Int) then
     ((ZaT N).bind fun r => match r with
     | .r0 =>
      ((Zd6 N).bind fun r => match r with
      | .r0 =>
       ((Za3 N).bind fun r => match r with
       | .r0 =>
        ((Zaf (a0) N).bind fun r => match r with
        | .r0 =>
         ((ZbD (a0) N).bind fun r => match r with
         | .r0 =>
          ((ZbE (a1) N).bind fun r => match r with
          | .r0 =>
           ((Zau N).bind fun r => match r with
           | .r0 =>
            ((ZaT N).bind fun r => match r with
            | .r0 =>
             ((Zd6 N).bind fun r => match r with
             | .r0 =>
              ((Za3 N).bind fun r => match r with
              | .r0 =>
               ((Zaf (a0) N).bind fun r => match r with
               | .r0 =>
                ((ZbD (a0) N).bind fun r => match r with
                | .r0 =>
                 ((ZbE (a1) N).bind fun r => match r with
                 | .r0 =>
                  ((Zau N).bind fun r => match r with
                  | .r0 =>
                   some (.r0 : ZM)
                  )
                 | .r1 =>
                  some (.r1 : ZM)
                 )
                | .r1 =>
                 some (.r1 : ZM)
                )
               | .r1 =>
                some (.r1 : ZM)
               )
              )
             )
            )
           )
          | .r1 =>
           some (.r1 : ZM)
          )
         | .r1 =>
          some (.r1 : ZM)
         )
        | .r1 =>
         some (.r1 : ZM)
        )
       )
      )
     )
    else
    some (.r2 : ZM)
   else
   some (.r2 : ZM)
  else
  some (.r2 : ZM)
 else
 some (.r2 : ZM)

inductive Za2 where
 | r0
 | r1

def ZaU (a0 : Int) (a1 : Int) (N : Nat) : Option Za2 :=
 if (0 : Int) ≤ a0 then
  if a0 ≤ (7 : Int) then
   if (0 : Int) ≤ a1 then
    if a1 ≤ (7 : Int) then
     some (.r0 : Za2)
    else
    some (.r1 : Za2)
   else
   some (.r1 : Za2)
  else
  some (.r1 : Za2)
 else
 some (.r1 : Za2)

inductive ZaV where
 | r0
 | r1

def ZeK (a0 : Int) (a1 : Int) (a2 : Int) (a3 : Int) (a4 : Int) (a5 : Int) (N : Nat) : Option ZaV :=
 if ¬ (a0 = a3) then
  some (.r0 : ZaV)
 else
 if ¬ (a1 = a4) then
  some (.r0 : ZaV)
 else
 if ¬ (a2 = a5) then
  some (.r0 : ZaV)
 else
 some (.r1 : ZaV)

inductive Zbe where
 | r0
 | r1

def Zdb (a0 : Int) (a1 : Int) (a2 : Int) (a3 : Int) (N : Nat) : Option Zbe :=
 if ¬ (a0 = a2) then
  some (.r0 : Zbe)
 else
 if ¬ (a1 = a3) then
  some (.r0 : Zbe)
 else
 some (.r1 : Zbe)

inductive Zcd where
 | r0
 | r1

def ZbW (a0 : Int) (a1 : Int) (N : Nat) : Option Zcd :=
 if ¬ (a0 = a1) then
  some (.r0 : Zcd)
 else
 some (.r1 : Zcd)

inductive Za4 where
 | r0
 | r1

def Zdc (a0 : Int) (a1 : Int) (a2 : Int) (a3 : Int) (a4 : Int) (a5 : Int) (N : Nat) : Option Za4 :=
 if ¬ (a0 = a3) then
  some (.r0 : Za4)
 else
 if ¬ (a1 = a4) then
  some (.r0 : Za4)
 else
 if ¬ (a2 = a5) then
  some (.r0 : Za4)
 else
 some (.r1 : Za4)

inductive Zga where
 | r0

def ZeQ  (N : Nat) : Option Zga :=
 some (.r0 : Zga)

inductive Zb5 where
 | r0
 | r1

def ZdA (a0 : Int) (N : Nat) : Option Zb5 :=
 if (-1099511627776 : Int) ≤ a0 then
  if a0 ≤ (1099511627776 : Int) then
   some (.r0 : Zb5)
  else
  some (.r1 : Zb5)
 else
 some (.r1 : Zb5)

inductive ZeT where
 | r0

def ZdB  (N : Nat) : Option ZeT :=
 some (.r0 : ZeT)

inductive Zb6 where
 | r0
 | r1

def Zcn (a0 : Int) (N : Nat) : Option Zb6 :=
 if (0 : Int) ≤ a0 then
  if a0 < (16 : Int) then
   some (.r0 : Zb6)
  else
  some (.r1 : Zb6)
 else
 some (.r1 : Zb6)

inductive ZeU where
 | r0

def Zg9  (N : Nat) : Option ZeU :=
 some (.r0 : ZeU)

inductive ZeV where
 | r0

def Zf8  (N : Nat) : Option ZeV :=
 some (.r0 : ZeV)

inductive ZeW where
 | r0

def ZgA  (N : Nat) : Option ZeW :=
 some (.r0 : ZeW)

inductive ZeX where
 | r0

def ZgB  (N : Nat) : Option ZeX :=
 some (.r0 : ZeX)

inductive ZeY where
 | r0

def ZeL  (N : Nat) : Option ZeY :=
 some (.r0 : ZeY)

inductive Zem where
 | r0

def ZeZ  (N : Nat) : Option Zem :=
 some (.r0 : Zem)

inductive Zen where
 | r0

def Zgb  (N : Nat) : Option Zen :=
 some (.r0 : Zen)

inductive Zeo where
 | r0

def Zfa  (N : Nat) : Option Zeo :=
 some (.r0 : Zeo)

inductive Zep where
 | r0

def Zgc  (N : Nat) : Option Zep :=
 some (.r0 : Zep)

inductive Zeq where
 | r0

def ZdT  (N : Nat) : Option Zeq :=
 some (.r0 : Zeq)

inductive Zer where
 | r0

def ZdU  (N : Nat) : Option Zer :=
 some (.r0 : Zer)

inductive Zes where
 | r0

def ZdV  (N : Nat) : Option Zes :=
 some (.r0 : Zes)

inductive Zet where
 | r0

def ZdW  (N : Nat) : Option Zet :=
 some (.r0 : Zet)

inductive Zeu where
 | r0

def Zgd  (N : Nat) : Option Zeu :=
 some (.r0 : Zeu)

inductive Zev where
 | r0

def Zfb  (N : Nat) : Option Zev :=
 some (.r0 : Zev)

inductive Zew where
 | r0

def Zge  (N : Nat) : Option Zew :=
 some (.r0 : Zew)

inductive Zex where
 | r0

def Zgf  (N : Nat) : Option Zex :=
 some (.r0 : Zex)

inductive Zbs where
 | r0
 | r1

def ZdX (a0 : Int) (N : Nat) : Option Zbs :=
 if (0 : Int) ≤ a0 then
  if a0 < (16 : Int) then
   some (.r0 : Zbs)
  else
  some (.r1 : Zbs)
 else
 some (.r1 : Zbs)

inductive Zey where
 | r0

def ZcU  (N : Nat) : Option Zey :=
 some (.r0 : Zey)

inductive ZaC where
 | r0
 | r1

def ZcV (a0 : Int) (a1 : Int) (a2 : Int) (N : Nat) : Option ZaC :=
 ((ZeQ N).bind fun r => match r with
 | .r0 =>
  ((ZdA (a0) N).bind fun r => match r with
  | .r0 =>
   ((ZdB N).bind fun r => match r with
   | .r0 =>
    ((Zcn (a1) N).bind fun r => match r with
    | .r0 =>
     ((Zg9 N).bind fun r => match r with
     | .r0 =>
      ((Zf8 N).bind fun r => match r with
      | .r0 =>
       ((ZgA N).bind fun r => match r with
       | .r0 =>
        ((ZgB N).bind fun r => match r with
        | .r0 =>
         ((ZeL N).bind fun r => match r with
         | .r0 =>
          ((ZeZ N).bind fun r => match r with
          | .r0 =>
           ((Zgb N).bind fun r => match r with
           | .r0 =>
            ((Zfa N).bind fun r => match r with
            | .r0 =>
             ((Zgc N).bind fun r => match r with
             | .r0 =>
              ((ZdT N).bind fun r => match r with
              | .r0 =>
               ((ZdU N).bind fun r => match r with
               | .r0 =>
                ((ZdV N).bind fun r => match r with
                | .r0 =>
                 ((ZdW N).bind fun r => match r with
                 | .r0 =>
                  ((Zgd N).bind fun r => match r with
                  | .r0 =>
                   ((ZeL N).bind fun r => match r with
                   | .r0 =>
                    ((Zfb N).bind fun r => match r with
                    | .r0 =>
                     ((Zge N).bind fun r => match r with
                     | .r0 =>
                      ((ZdT N).bind fun r => match r with
                      | .r0 =>
                       ((ZdU N).bind fun r => match r with
                       | .r0 =>
                        ((ZdV N).bind fun r => match r with
                        | .r0 =>
                         ((ZdW N).bind fun r => match r with
                         | .r0 =>
                          ((Zgf N).bind fun r => match r with
                          | .r0 =>
                           ((ZeL N).bind fun r => match r with
                           | .r0 =>
                            ((ZdV N).bind fun r => match r with
                            | .r0 =>
                             ((ZdW N).bind fun r => match r with
                             | .r0 =>
                              ((ZdX (a2) N).bind fun r => match r with
                              | .r0 =>
                               ((ZcU N).bind fun r => match r with
                               | .r0 =>
                                some (.r0 : ZaC)
                               )
                              | .r1 =>
                               some (.r1 : ZaC)
                              )
                             )
                            )
                           )
                          )
                         )
                        )
                       )
                      )
                     )
                    )
                   )
                  )
                 )
                )
               )
              )
             )
            )
           )
          )
         )
        )
       )
      )
     )
    | .r1 =>
     some (.r1 : ZaC)
    )
   )
  | .r1 =>
   some (.r1 : ZaC)
  )
 )

inductive Zez where
 | r0

def Zgg  (N : Nat) : Option Zez :=
 some (.r0 : Zez)

inductive Ze0 where
 | r0

def Zgh  (N : Nat) : Option Ze0 :=
 some (.r0 : Ze0)

inductive Ze1 where
 | r0

def Zgi  (N : Nat) : Option Ze1 :=
 some (.r0 : Ze1)

inductive Ze2 where
 | r0

def Zgj  (N : Nat) : Option Ze2 :=
 some (.r0 : Ze2)

inductive Ze3 where
 | r0

def Zgk  (N : Nat) : Option Ze3 :=
 some (.r0 : Ze3)

inductive Ze4 where
 | r0

def Zgl  (N : Nat) : Option Ze4 :=
 some (.r0 : Ze4)

inductive Ze5 where
 | r0

def Zgm  (N : Nat) : Option Ze5 :=
 some (.r0 : Ze5)

inductive Ze6 where
 | r0

def Zfc  (N : Nat) : Option Ze6 :=
 some (.r0 : Ze6)

inductive Ze7 where
 | r0

def Zfd  (N : Nat) : Option Ze7 :=
 some (.r0 : Ze7)

inductive ZaP where
 | r0
 | r1

def Zce (a0 : Int) (a1 : Int) (N : Nat) : Option ZaP :=
 ((ZeQ N).bind fun r => match r with
 | .r0 =>
  ((ZdA (a0) N).bind fun r => match r with
  | .r0 =>
   ((Zgg N).bind fun r => match r with
   | .r0 =>
    ((ZdB N).bind fun r => match r with
    | .r0 =>
     ((Zcn (a1) N).bind fun r => match r with
     | .r0 =>
      ((Zgh N).bind fun r => match r with
      | .r0 =>
       ((Zf8 N).bind fun r => match r with
       | .r0 =>
        ((Zgi N).bind fun r => match r with
        | .r0 =>
         ((Zgj N).bind fun r => match r with
         | .r0 =>
          ((Zgk N).bind fun r => match r with
          | .r0 =>
           ((ZeZ N).bind fun r => match r with
           | .r0 =>
            ((Zfb N).bind fun r => match r with
            | .r0 =>
             ((Zgl N).bind fun r => match r with
             | .r0 =>
              ((Zfa N).bind fun r => match r with
              | .r0 =>
               ((Zgm N).bind fun r => match r with
               | .r0 =>
                ((Zfc N).bind fun r => match r with
                | .r0 =>
                 ((Zfc N).bind fun r => match r with
                 | .r0 =>
                  ((ZdT N).bind fun r => match r with
                  | .r0 =>
                   ((ZdU N).bind fun r => match r with
                   | .r0 =>
                    ((ZcU N).bind fun r => match r with
                    | .r0 =>
                     ((Zfd N).bind fun r => match r with
                     | .r0 =>
                      some (.r0 : ZaP)
                     )
                    )
                   )
                  )
                 )
                )
               )
              )
             )
            )
           )
          )
         )
        )
       )
      )
     | .r1 =>
      some (.r1 : ZaP)
     )
    )
   )
  | .r1 =>
   some (.r1 : ZaP)
  )
 )

inductive Ze8 where
 | r0

def Zgn  (N : Nat) : Option Ze8 :=
 some (.r0 : Ze8)

inductive Ze9 where
 | r0

def Zgo  (N : Nat) : Option Ze9 :=
 some (.r0 : Ze9)

inductive ZeA where
 | r0

def Zgp  (N : Nat) : Option ZeA :=
 some (.r0 : ZeA)

inductive ZeB where
 | r0

def Zgq  (N : Nat) : Option ZeB :=
 some (.r0 : ZeB)

inductive ZeC where
 | r0

def Zgr  (N : Nat) : Option ZeC :=
 some (.r0 : ZeC)

inductive ZeD where
 | r0

def Zgs  (N : Nat) : Option ZeD :=
 some (.r0 : ZeD)

inductive ZeE where
 | r0

def Zgt  (N : Nat) : Option ZeE :=
 some (.r0 : ZeE)

inductive ZbF where
 | r0
 | r1

def Zbf (a0 : Int) (N : Nat) : Option ZbF :=
 ((ZeQ N).bind fun r => match r with
 | .r0 =>
  ((ZdB N).bind fun r => match r with
  | .r0 =>
   ((Zcn (a0) N).bind fun r => match r with
   | .r0 =>
    ((Zgn N).bind fun r => match r with
    | .r0 =>
     ((Zgo N).bind fun r => match r with
     | .r0 =>
      ((Zgp N).bind fun r => match r with
      | .r0 =>
       ((Zgq N).bind fun r => match r with
       | .r0 =>
        ((Zgr N).bind fun r => match r with
        | .r0 =>
         ((ZcU N).bind fun r => match r with
         | .r0 =>
          ((Zgs N).bind fun r => match r with
          | .r0 =>
           ((Zgt N).bind fun r => match r with
           | .r0 =>
            ((Zfd N).bind fun r => match r with
            | .r0 =>
             some (.r0 : ZbF)
            )
           )
          )
         )
        )
       )
      )
     )
    )
   | .r1 =>
    some (.r1 : ZbF)
   )
  )
 )

inductive ZeF where
 | r0

def Zgu  (N : Nat) : Option ZeF :=
 some (.r0 : ZeF)

inductive Zbt where
 | r0
 | r1

def ZdY (a0 : Int) (N : Nat) : Option Zbt :=
 if (0 : Int) ≤ a0 then
  if a0 < (16 : Int) then
   some (.r0 : Zbt)
  else
  some (.r1 : Zbt)
 else
 some (.r1 : Zbt)

inductive Zbu where
 | r0
 | r1

def ZdZ (a0 : Int) (N : Nat) : Option Zbu :=
 if (0 : Int) ≤ a0 then
  if a0 < (16 : Int) then
   some (.r0 : Zbu)
  else
  some (.r1 : Zbu)
 else
 some (.r1 : Zbu)

inductive Zav where
 | r0
 | r1

def Zcf (a0 : Int) (a1 : Int) (a2 : Int) (N : Nat) : Option Zav :=
 ((ZeQ N).bind fun r => match r with
 | .r0 =>
  ((Zgu N).bind fun r => match r with
  | .r0 =>
   ((ZdB N).bind fun r => match r with
   | .r0 =>
    ((Zcn (a0) N).bind fun r => match r with
    | .r0 =>
     ((ZdY (a1) N).bind fun r => match r with
     | .r0 =>
      ((ZdZ (a2) N).bind fun r => match r with
      | .r0 =>
       ((ZcU N).bind fun r => match r with
       | .r0 =>
        some (.r0 : Zav)
       )
      | .r1 =>
       some (.r1 : Zav)
      )
     | .r1 =>
      some (.r1 : Zav)
     )
    | .r1 =>
     some (.r1 : Zav)
    )
   )
  )
 )

inductive Zea where
 | r0

def Zat  (N : Nat) : Option Zea :=
 some (.r0 : Zea)

inductive ZQ where
 | r0

def ZcW (a0 : Int) (a1 : Int) (a2 : Int) (N : Nat) : Option ZQ :=
 ((Zb4 (a0) (a2) N).bind fun r => match r with
 | .r0 =>
  ((Zbq (a0) (a2) N).bind fun r => match r with
  | .r0 =>
   ((Zcc (a0) (a2) N).bind fun r => match r with
   | .r0 =>
    ((Zcm (a0) (a2) N).bind fun r => match r with
    | .r0 =>
     ((Zb1 (a0) N).bind fun r => match r with
     | .r0 =>
      ((Zbp (a0) N).bind fun r => match r with
      | .r0 =>
       ((Zb2 (a0) (a1) N).bind fun r => match r with
       | .r0 =>
        ((ZaU (a0) (a1) N).bind fun r => match r with
        | .r0 =>
         ((ZeK (a2) (a0) (a0) (a2) (a0) (a0) N).bind fun r => match r with
         | .r0 =>
          none
         | .r1 =>
          ((Zdb (a2) (a0) (a2) (a0) N).bind fun r => match r with
          | .r0 =>
           none
          | .r1 =>
           ((ZbW (a0) (a0) N).bind fun r => match r with
           | .r0 =>
            none
           | .r1 =>
            ((Zdc (a0) (a0) (a1) (a0) (a0) (a1) N).bind fun r => match r with
            | .r0 =>
             none
            | .r1 =>
             ((ZcV (a2) (a0) (a0) N).bind fun r => match r with
             | .r0 =>
              ((Zce (a2) (a0) N).bind fun r => match r with
              | .r0 =>
               ((Zbf (a0) N).bind fun r => match r with
               | .r0 =>
                ((Zcf (a0) (a0) (a1) N).bind fun r => match r with
                | .r0 =>
                 some (.r0 : ZQ)
                | .r1 =>
                 none
                )
               | .r1 =>
                none
               )
              | .r1 =>
               none
              )
             | .r1 =>
              none
             )
            )
           )
          )
         )
        | .r1 =>
         none
        )
       | .r1 =>
        none
       | .r2 =>
        ((ZaU (a0) (a1) N).bind fun r => match r with
        | .r0 =>
         none
        | .r1 =>
         ((ZeK (a2) (a0) (a0) (a2) (a0) (a0) N).bind fun r => match r with
         | .r0 =>
          none
         | .r1 =>
          ((Zdb (a2) (a0) (a2) (a0) N).bind fun r => match r with
          | .r0 =>
           none
          | .r1 =>
           ((ZbW (a0) (a0) N).bind fun r => match r with
           | .r0 =>
            none
           | .r1 =>
            ((Zat N).bind fun r => match r with
            | .r0 =>
             ((ZcV (a2) (a0) (a0) N).bind fun r => match r with
             | .r0 =>
              ((Zce (a2) (a0) N).bind fun r => match r with
              | .r0 =>
               ((Zbf (a0) N).bind fun r => match r with
               | .r0 =>
                some (.r0 : ZQ)
               | .r1 =>
                none
               )
              | .r1 =>
               none
              )
             | .r1 =>
              none
             )
            )
           )
          )
         )
        )
       )
      | .r1 =>
       none
      )
     | .r1 =>
      none
     | .r2 =>
      none
     )
    | .r1 =>
     none
    )
   | .r1 =>
    none
   | .r2 =>
    none
   )
  | .r1 =>
   none
  )
 | .r1 =>
  none
 | .r2 =>
  ((Zbq (a0) (a2) N).bind fun r => match r with
  | .r0 =>
   none
  | .r1 =>
   ((Zcc (a0) (a2) N).bind fun r => match r with
   | .r0 =>
    none
   | .r1 =>
    none
   | .r2 =>
    ((Zcm (a0) (a2) N).bind fun r => match r with
    | .r0 =>
     none
    | .r1 =>
     ((Zb1 (a0) N).bind fun r => match r with
     | .r0 =>
      ((Zbp (a0) N).bind fun r => match r with
      | .r0 =>
       ((Zb2 (a0) (a1) N).bind fun r => match r with
       | .r0 =>
        ((ZaU (a0) (a1) N).bind fun r => match r with
        | .r0 =>
         ((Zat N).bind fun r => match r with
         | .r0 =>
          ((Zat N).bind fun r => match r with
          | .r0 =>
           ((ZbW (a0) (a0) N).bind fun r => match r with
           | .r0 =>
            none
           | .r1 =>
            ((Zdc (a0) (a0) (a1) (a0) (a0) (a1) N).bind fun r => match r with
            | .r0 =>
             none
            | .r1 =>
             ((Zbf (a0) N).bind fun r => match r with
             | .r0 =>
              ((Zcf (a0) (a0) (a1) N).bind fun r => match r with
              | .r0 =>
               some (.r0 : ZQ)
              | .r1 =>
               none
              )
             | .r1 =>
              none
             )
            )
           )
          )
         )
        | .r1 =>
         none
        )
       | .r1 =>
        none
       | .r2 =>
        ((ZaU (a0) (a1) N).bind fun r => match r with
        | .r0 =>
         none
        | .r1 =>
         ((Zat N).bind fun r => match r with
         | .r0 =>
          ((Zat N).bind fun r => match r with
          | .r0 =>
           ((ZbW (a0) (a0) N).bind fun r => match r with
           | .r0 =>
            none
           | .r1 =>
            ((Zat N).bind fun r => match r with
            | .r0 =>
             ((Zbf (a0) N).bind fun r => match r with
             | .r0 =>
              some (.r0 : ZQ)
             | .r1 =>
              none
             )
            )
           )
          )
         )
        )
       )
      | .r1 =>
       none
      )
     | .r1 =>
      none
     | .r2 =>
      ((Zbp (a0) N).bind fun r => match r with
      | .r0 =>
       none
      | .r1 =>
       ((Zb2 (a0) (a1) N).bind fun r => match r with
       | .r0 =>
        none
       | .r1 =>
        none
       | .r2 =>
        ((ZaU (a0) (a1) N).bind fun r => match r with
        | .r0 =>
         none
        | .r1 =>
         ((Zat N).bind fun r => match r with
         | .r0 =>
          ((Zat N).bind fun r => match r with
          | .r0 =>
           ((Zat N).bind fun r => match r with
           | .r0 =>
            ((Zat N).bind fun r => match r with
            | .r0 =>
             some (.r0 : ZQ)
            )
           )
          )
         )
        )
       )
      )
     )
    )
   )
  )
 )
end Ev
end Go.Proofs.YtgpekgedjmhmeaaGreat
/- How records are written, and which functions are told. -/
namespace Go.Proofs.YtgpekgedjmhmeaaGreat
open Go.RowKit
namespace Ev
set_option linter.unusedVariables false
def Zyy : FuncId → Option (List Value → Option Value) := fun f =>
 bif Nat.beq f 14 then some (fun l => match l with | [] => some (.bool true) | _ => none) else
 none
theorem Zzf (w : World) : Calls Tryz.prog 14 #[] w (Ret (.bool true) w) := ZyO (ZtR 1000 .r0 (by rfl)) [] rfl ZxF Zx9 rfl
theorem Z0r : ZsL Zyy := fun f g h => by
 unfold Zyy at h
 cases hb : Nat.beq f 14 with
 | true =>
  rw [hb] at h
  obtain rfl := Nat.eq_of_beq_eq_true hb
  simp only [cond_true, Option.some.injEq] at h
  subst h
  refine ⟨⟨_, _, Tryz.func14, rfl⟩, fun args v ha hv w => ?_⟩
  obtain ⟨l⟩ := args
  cases l with
  | nil =>
   change some (Value.bool true) = some v at hv
   injection hv with hv
   subst hv
   exact Zzf w
  | cons x l => change (none : Option Value) = some v at hv; cases hv
 | false =>
  rw [hb] at h
  simp only [cond_false] at h
  cases h
def ZzN : FuncId → Bool := fun f => Nat.beq f 3 || Nat.beq f 33 || Nat.beq f 12 || Nat.beq f 13 || Nat.beq f 7 || Nat.beq f 5 || Nat.beq f 9 || Nat.beq f 11 || Nat.beq f 30 || Nat.beq f 6 || Nat.beq f 4 || Nat.beq f 8 || Nat.beq f 10
noncomputable def Z0s : FuncId → Option Ext := ZwG (Zyq Zyy) ZzN
theorem Zi : Fit Tryz.prog Z0s := fitT (Zz4 Z0r) (fun f h => by
 simp only [ZzN, Bool.or_eq_true] at h
 simp only [Nat.beq_eq] at h
 rcases h with (((((((((((rfl | rfl) | rfl) | rfl) | rfl) | rfl) | rfl) | rfl) | rfl) | rfl) | rfl) | rfl) | rfl
 ·exact ⟨_, _, Tryz.func3, rfl⟩
 ·exact ⟨_, _, Tryz.func33, rfl⟩
 ·exact ⟨_, _, Tryz.func12, rfl⟩
 ·exact ⟨_, _, Tryz.func13, rfl⟩
 ·exact ⟨_, _, Tryz.func7, rfl⟩
 ·exact ⟨_, _, Tryz.func5, rfl⟩
 ·exact ⟨_, _, Tryz.func9, rfl⟩
 ·exact ⟨_, _, Tryz.func11, rfl⟩
 ·exact ⟨_, _, Tryz.func30, rfl⟩
 ·exact ⟨_, _, Tryz.func6, rfl⟩
 ·exact ⟨_, _, Tryz.func4, rfl⟩
 ·exact ⟨_, _, Tryz.func8, rfl⟩
 ·exact ⟨_, _, Tryz.func10, rfl⟩
 )
end Ev
end Go.Proofs.YtgpekgedjmhmeaaGreat
/- Calls do what the plain functions say. -/
namespace Go.Proofs.YtgpekgedjmhmeaaGreat
open Go.RowKit
namespace Ev
set_option linter.unusedVariables false
set_option maxRecDepth 100000
noncomputable def Zn9  : Zel → Value
 | .r0 => vq
noncomputable def Zmd  : Zel → List (Option AObj)
 | .r0 => []

theorem ZsY  (N : Nat) : Gx Tryz.prog 30 [] #[Value.agg #[vi (10 : Int), vq, vq, vq]] (Zn9 ) (Zmd ) (ZaT  N) := by
 unfold ZaT
 exact Zh Zi (r := (.r0 : Zel)) (fu := 4000) (orc := (Zl [] [] [] [] [])) (live := []) (u := vq) (bl := []) (ob := []) (by kernel_rfl) Zf rfl (by decide) (by rfl) rr trivial (Zg _ rfl)

theorem Zrc  (N : Nat) (r : Zel) (h : ZaT  N = some r) : LSpec Tryz.prog 30 #[Value.agg #[vi (10 : Int), vq, vq, vq]] [] (Zn9  r) (Zmd  r) :=
 (ZsY  N) r h

noncomputable def Zs  (n : Nat) : Zx := .call [] (vq) [] 0
def Zr (A : Array Value)  (n : Nat) : Prop := Zj Tryz.prog 30 A [] (vq) [] n 0

theorem Zt (A : Array Value)  (N : Nat) (h : ZaT  N = some (.r0)) (n : Nat) (hA : A = #[Value.agg #[vi (10 : Int), vq, vq, vq]]) (hnd : ([] : List Nat).Nodup) (hlt : ∀ k ∈ ([] : List Nat), k < n) : Zr A   n :=
 Zm hA (LSpec.callL (show LSpec Tryz.prog 30 #[Value.agg #[vi (10 : Int), vq, vq, vq]] [] (vq) [] from Zrc  N _ h) [] n [] rfl hnd hlt (show 0 ≤ 0 from by decide) (show ∀ j ∈ ([] : List Nat), j < 0 from by decide) (by rfl) trivial (by rfl) trivial trivial rfl rfl rfl rfl rfl)

noncomputable def Zle (a0 : Int) : ZaJ → Value
 | .r0 => vq
 | .r1 => vi (100 : Int)
noncomputable def Zkg (a0 : Int) : ZaJ → List (Option AObj)
 | .r0 => []
 | .r1 => []

theorem Zrd (a0 : Int) (N : Nat) : Gx Tryz.prog 30 [] #[Value.agg #[vi (1 : Int), vi (1 : Int), vi a0, vq]] (Zle a0) (Zkg a0) (Zbc a0 N) := by
 unfold Zbc
 refine ZN (fun g0 => ?_) (fun g0 => ?_)
 ·
  refine ZN (fun g1 => ?_) (fun g1 => ?_)
  ·
   exact Zh Zi (r := (.r0 : ZaJ)) (fu := 4000) (orc := (Zl [(15, true), (16, true)] [] [] [] [])) (live := []) (u := vq) (bl := []) (ob := [((decide (a0 ≤ (1099511627776 : Int))), true), ((decide ((-1099511627776 : Int) ≤ a0)), true)]) (by kernel_rfl) (oY <| oY Zf) rfl (by decide) (by rfl) rr trivial (Zg _ rfl)
  ·
   exact Zh Zi (r := (.r1 : ZaJ)) (fu := 4000) (orc := (Zl [(15, true), (16, false)] [] [] [] [])) (live := []) (u := vi (100 : Int)) (bl := []) (ob := [((decide (a0 ≤ (1099511627776 : Int))), false), ((decide ((-1099511627776 : Int) ≤ a0)), true)]) (by kernel_rfl) (oN <| oY Zf) rfl (by decide) (by rfl) rr trivial (Zg _ rfl)
 ·
  exact Zh Zi (r := (.r1 : ZaJ)) (fu := 4000) (orc := (Zl [(15, false)] [] [] [] [])) (live := []) (u := vi (100 : Int)) (bl := []) (ob := [((decide ((-1099511627776 : Int) ≤ a0)), false)]) (by kernel_rfl) (oN Zf) rfl (by decide) (by rfl) rr trivial (Zg _ rfl)

theorem Zi3 (a0 : Int) (N : Nat) (r : ZaJ) (h : Zbc a0 N = some r) : LSpec Tryz.prog 30 #[Value.agg #[vi (1 : Int), vi (1 : Int), vi a0, vq]] [] (Zle a0 r) (Zkg a0 r) :=
 (Zrd a0 N) r h

noncomputable def ZX (a0 : Int) (n : Nat) : Zx := .call [] (vq) [] 0
def ZU (A : Array Value) (a0 : Int) (n : Nat) : Prop := Zj Tryz.prog 30 A [] (vq) [] n 0

theorem ZY (A : Array Value) (a0 : Int) (N : Nat) (h : Zbc a0 N = some (.r0)) (n : Nat) (hA : A = #[Value.agg #[vi (1 : Int), vi (1 : Int), vi a0, vq]]) (hnd : ([] : List Nat).Nodup) (hlt : ∀ k ∈ ([] : List Nat), k < n) : ZU A a0  n :=
 Zm hA (LSpec.callL (show LSpec Tryz.prog 30 #[Value.agg #[vi (1 : Int), vi (1 : Int), vi a0, vq]] [] (vq) [] from Zi3 a0 N _ h) [] n [] rfl hnd hlt (show 0 ≤ 0 from by decide) (show ∀ j ∈ ([] : List Nat), j < 0 from by decide) (by rfl) trivial (by rfl) trivial trivial rfl rfl rfl rfl rfl)

noncomputable def ZfG (a0 : Int) (n : Nat) : Zx := .call [] (vi (100 : Int)) [] 0
def Zei (A : Array Value) (a0 : Int) (n : Nat) : Prop := Zj Tryz.prog 30 A [] (vi (100 : Int)) [] n 0

theorem ZfH (A : Array Value) (a0 : Int) (N : Nat) (h : Zbc a0 N = some (.r1)) (n : Nat) (hA : A = #[Value.agg #[vi (1 : Int), vi (1 : Int), vi a0, vq]]) (hnd : ([] : List Nat).Nodup) (hlt : ∀ k ∈ ([] : List Nat), k < n) : Zei A a0  n :=
 Zm hA (LSpec.callL (show LSpec Tryz.prog 30 #[Value.agg #[vi (1 : Int), vi (1 : Int), vi a0, vq]] [] (vi (100 : Int)) [] from Zi3 a0 N _ h) [] n [] rfl hnd hlt (show 0 ≤ 0 from by decide) (show ∀ j ∈ ([] : List Nat), j < 0 from by decide) (by rfl) trivial (by rfl) trivial trivial rfl rfl rfl rfl rfl)

noncomputable def Zlf  : Zdh → Value
 | .r0 => vq
noncomputable def Zkh  : Zdh → List (Option AObj)
 | .r0 => []

theorem Zre  (N : Nat) : Gx Tryz.prog 30 [] #[Value.agg #[vi (15 : Int), vq, vq, vq]] (Zlf ) (Zkh ) (Za3  N) := by
 unfold Za3
 exact Zh Zi (r := (.r0 : Zdh)) (fu := 4000) (orc := (Zl [] [] [] [] [])) (live := []) (u := vq) (bl := []) (ob := []) (by kernel_rfl) Zf rfl (by decide) (by rfl) rr trivial (Zg _ rfl)

theorem Zp6  (N : Nat) (r : Zdh) (h : Za3  N = some r) : LSpec Tryz.prog 30 #[Value.agg #[vi (15 : Int), vq, vq, vq]] [] (Zlf  r) (Zkh  r) :=
 (Zre  N) r h

noncomputable def Zu  (n : Nat) : Zx := .call [] (vq) [] 0
def Zq (A : Array Value)  (n : Nat) : Prop := Zj Tryz.prog 30 A [] (vq) [] n 0

theorem Zv (A : Array Value)  (N : Nat) (h : Za3  N = some (.r0)) (n : Nat) (hA : A = #[Value.agg #[vi (15 : Int), vq, vq, vq]]) (hnd : ([] : List Nat).Nodup) (hlt : ∀ k ∈ ([] : List Nat), k < n) : Zq A   n :=
 Zm hA (LSpec.callL (show LSpec Tryz.prog 30 #[Value.agg #[vi (15 : Int), vq, vq, vq]] [] (vq) [] from Zp6  N _ h) [] n [] rfl hnd hlt (show 0 ≤ 0 from by decide) (show ∀ j ∈ ([] : List Nat), j < 0 from by decide) (by rfl) trivial (by rfl) trivial trivial rfl rfl rfl rfl rfl)

noncomputable def Zlg (a0 : Int) : ZaK → Value
 | .r0 => vq
 | .r1 => vi (100 : Int)
noncomputable def Zki (a0 : Int) : ZaK → List (Option AObj)
 | .r0 => []
 | .r1 => []

theorem Zrf (a0 : Int) (N : Nat) : Gx Tryz.prog 30 [] #[Value.agg #[vi (13 : Int), vi (2 : Int), vq, vi a0]] (Zlg a0) (Zki a0) (Zaf a0 N) := by
 unfold Zaf
 refine ZN (fun g0 => ?_) (fun g0 => ?_)
 ·
  refine ZN (fun g1 => ?_) (fun g1 => ?_)
  ·
   exact Zh Zi (r := (.r0 : ZaK)) (fu := 4000) (orc := (Zl [(16, true), (17, true)] [] [] [] [])) (live := []) (u := vq) (bl := []) (ob := [((decide (a0 ≤ (15 : Int))), true), ((decide ((0 : Int) ≤ a0)), true)]) (by kernel_rfl) (oY <| oY Zf) rfl (by decide) (by rfl) rr trivial (Zg _ rfl)
  ·
   exact Zh Zi (r := (.r1 : ZaK)) (fu := 4000) (orc := (Zl [(16, true), (17, false)] [] [] [] [])) (live := []) (u := vi (100 : Int)) (bl := []) (ob := [((decide (a0 ≤ (15 : Int))), false), ((decide ((0 : Int) ≤ a0)), true)]) (by kernel_rfl) (oN <| oY Zf) rfl (by decide) (by rfl) rr trivial (Zg _ rfl)
 ·
  exact Zh Zi (r := (.r1 : ZaK)) (fu := 4000) (orc := (Zl [(16, false)] [] [] [] [])) (live := []) (u := vi (100 : Int)) (bl := []) (ob := [((decide ((0 : Int) ≤ a0)), false)]) (by kernel_rfl) (oN Zf) rfl (by decide) (by rfl) rr trivial (Zg _ rfl)

theorem Zi4 (a0 : Int) (N : Nat) (r : ZaK) (h : Zaf a0 N = some r) : LSpec Tryz.prog 30 #[Value.agg #[vi (13 : Int), vi (2 : Int), vq, vi a0]] [] (Zlg a0 r) (Zki a0 r) :=
 (Zrf a0 N) r h

noncomputable def Z2 (a0 : Int) (n : Nat) : Zx := .call [] (vq) [] 0
def Zz (A : Array Value) (a0 : Int) (n : Nat) : Prop := Zj Tryz.prog 30 A [] (vq) [] n 0

theorem Z3 (A : Array Value) (a0 : Int) (N : Nat) (h : Zaf a0 N = some (.r0)) (n : Nat) (hA : A = #[Value.agg #[vi (13 : Int), vi (2 : Int), vq, vi a0]]) (hnd : ([] : List Nat).Nodup) (hlt : ∀ k ∈ ([] : List Nat), k < n) : Zz A a0  n :=
 Zm hA (LSpec.callL (show LSpec Tryz.prog 30 #[Value.agg #[vi (13 : Int), vi (2 : Int), vq, vi a0]] [] (vq) [] from Zi4 a0 N _ h) [] n [] rfl hnd hlt (show 0 ≤ 0 from by decide) (show ∀ j ∈ ([] : List Nat), j < 0 from by decide) (by rfl) trivial (by rfl) trivial trivial rfl rfl rfl rfl rfl)

noncomputable def Zbv (a0 : Int) (n : Nat) : Zx := .call [] (vi (100 : Int)) [] 0
def ZaZ (A : Array Value) (a0 : Int) (n : Nat) : Prop := Zj Tryz.prog 30 A [] (vi (100 : Int)) [] n 0

theorem Zbw (A : Array Value) (a0 : Int) (N : Nat) (h : Zaf a0 N = some (.r1)) (n : Nat) (hA : A = #[Value.agg #[vi (13 : Int), vi (2 : Int), vq, vi a0]]) (hnd : ([] : List Nat).Nodup) (hlt : ∀ k ∈ ([] : List Nat), k < n) : ZaZ A a0  n :=
 Zm hA (LSpec.callL (show LSpec Tryz.prog 30 #[Value.agg #[vi (13 : Int), vi (2 : Int), vq, vi a0]] [] (vi (100 : Int)) [] from Zi4 a0 N _ h) [] n [] rfl hnd hlt (show 0 ≤ 0 from by decide) (show ∀ j ∈ ([] : List Nat), j < 0 from by decide) (by rfl) trivial (by rfl) trivial trivial rfl rfl rfl rfl rfl)

noncomputable def Zlh  : Zdi → Value
 | .r0 => vq
noncomputable def Zkj  : Zdi → List (Option AObj)
 | .r0 => []

theorem Zrg  (N : Nat) : Gx Tryz.prog 30 [] #[Value.agg #[vi (9 : Int), vi (2 : Int), vi (27 : Int), vq]] (Zlh ) (Zkj ) (ZdQ  N) := by
 unfold ZdQ
 exact Zh Zi (r := (.r0 : Zdi)) (fu := 4000) (orc := (Zl [] [] [] [] [])) (live := []) (u := vq) (bl := []) (ob := []) (by kernel_rfl) Zf rfl (by decide) (by rfl) rr trivial (Zg _ rfl)

theorem Zp7  (N : Nat) (r : Zdi) (h : ZdQ  N = some r) : LSpec Tryz.prog 30 #[Value.agg #[vi (9 : Int), vi (2 : Int), vi (27 : Int), vq]] [] (Zlh  r) (Zkj  r) :=
 (Zrg  N) r h

noncomputable def Zcg  (n : Nat) : Zx := .call [] (vq) [] 0
def Zbx (A : Array Value)  (n : Nat) : Prop := Zj Tryz.prog 30 A [] (vq) [] n 0

theorem Zch (A : Array Value)  (N : Nat) (h : ZdQ  N = some (.r0)) (n : Nat) (hA : A = #[Value.agg #[vi (9 : Int), vi (2 : Int), vi (27 : Int), vq]]) (hnd : ([] : List Nat).Nodup) (hlt : ∀ k ∈ ([] : List Nat), k < n) : Zbx A   n :=
 Zm hA (LSpec.callL (show LSpec Tryz.prog 30 #[Value.agg #[vi (9 : Int), vi (2 : Int), vi (27 : Int), vq]] [] (vq) [] from Zp7  N _ h) [] n [] rfl hnd hlt (show 0 ≤ 0 from by decide) (show ∀ j ∈ ([] : List Nat), j < 0 from by decide) (by rfl) trivial (by rfl) trivial trivial rfl rfl rfl rfl rfl)

noncomputable def Zli  : Zdj → Value
 | .r0 => vq
noncomputable def Zkk  : Zdj → List (Option AObj)
 | .r0 => []

theorem Zrh  (N : Nat) : Gx Tryz.prog 30 [] #[Value.agg #[vi (13 : Int), vi (3 : Int), vi (2 : Int), vi (2 : Int)]] (Zli ) (Zkk ) (Zcb  N) := by
 unfold Zcb
 exact Zh Zi (r := (.r0 : Zdj)) (fu := 4000) (orc := (Zl [] [] [] [] [])) (live := []) (u := vq) (bl := []) (ob := []) (by kernel_rfl) Zf rfl (by decide) (by rfl) rr trivial (Zg _ rfl)

theorem Zp8  (N : Nat) (r : Zdj) (h : Zcb  N = some r) : LSpec Tryz.prog 30 #[Value.agg #[vi (13 : Int), vi (3 : Int), vi (2 : Int), vi (2 : Int)]] [] (Zli  r) (Zkk  r) :=
 (Zrh  N) r h

noncomputable def Zay  (n : Nat) : Zx := .call [] (vq) [] 0
def Zai (A : Array Value)  (n : Nat) : Prop := Zj Tryz.prog 30 A [] (vq) [] n 0

theorem Zaz (A : Array Value)  (N : Nat) (h : Zcb  N = some (.r0)) (n : Nat) (hA : A = #[Value.agg #[vi (13 : Int), vi (3 : Int), vi (2 : Int), vi (2 : Int)]]) (hnd : ([] : List Nat).Nodup) (hlt : ∀ k ∈ ([] : List Nat), k < n) : Zai A   n :=
 Zm hA (LSpec.callL (show LSpec Tryz.prog 30 #[Value.agg #[vi (13 : Int), vi (3 : Int), vi (2 : Int), vi (2 : Int)]] [] (vq) [] from Zp8  N _ h) [] n [] rfl hnd hlt (show 0 ≤ 0 from by decide) (show ∀ j ∈ ([] : List Nat), j < 0 from by decide) (by rfl) trivial (by rfl) trivial trivial rfl rfl rfl rfl rfl)

noncomputable def Zlj  : Zdk → Value
 | .r0 => vq
noncomputable def Zkl  : Zdk → List (Option AObj)
 | .r0 => []

theorem Zri  (N : Nat) : Gx Tryz.prog 30 [] #[Value.agg #[vi (7 : Int), vi (4 : Int), vi (1 : Int), vi (3 : Int)]] (Zlj ) (Zkl ) (ZdR  N) := by
 unfold ZdR
 exact Zh Zi (r := (.r0 : Zdk)) (fu := 4000) (orc := (Zl [] [] [] [] [])) (live := []) (u := vq) (bl := []) (ob := []) (by kernel_rfl) Zf rfl (by decide) (by rfl) rr trivial (Zg _ rfl)

theorem Zp9  (N : Nat) (r : Zdk) (h : ZdR  N = some r) : LSpec Tryz.prog 30 #[Value.agg #[vi (7 : Int), vi (4 : Int), vi (1 : Int), vi (3 : Int)]] [] (Zlj  r) (Zkl  r) :=
 (Zri  N) r h

noncomputable def Zci  (n : Nat) : Zx := .call [] (vq) [] 0
def Zby (A : Array Value)  (n : Nat) : Prop := Zj Tryz.prog 30 A [] (vq) [] n 0

theorem Zcj (A : Array Value)  (N : Nat) (h : ZdR  N = some (.r0)) (n : Nat) (hA : A = #[Value.agg #[vi (7 : Int), vi (4 : Int), vi (1 : Int), vi (3 : Int)]]) (hnd : ([] : List Nat).Nodup) (hlt : ∀ k ∈ ([] : List Nat), k < n) : Zby A   n :=
 Zm hA (LSpec.callL (show LSpec Tryz.prog 30 #[Value.agg #[vi (7 : Int), vi (4 : Int), vi (1 : Int), vi (3 : Int)]] [] (vq) [] from Zp9  N _ h) [] n [] rfl hnd hlt (show 0 ≤ 0 from by decide) (show ∀ j ∈ ([] : List Nat), j < 0 from by decide) (by rfl) trivial (by rfl) trivial trivial rfl rfl rfl rfl rfl)

noncomputable def Zlk  : Zdl → Value
 | .r0 => vq
noncomputable def Zkm  : Zdl → List (Option AObj)
 | .r0 => []

theorem Zrj  (N : Nat) : Gx Tryz.prog 30 [] #[Value.agg #[vi (9 : Int), vi (4 : Int), vi (9 : Int), vq]] (Zlk ) (Zkm ) (ZdS  N) := by
 unfold ZdS
 exact Zh Zi (r := (.r0 : Zdl)) (fu := 4000) (orc := (Zl [] [] [] [] [])) (live := []) (u := vq) (bl := []) (ob := []) (by kernel_rfl) Zf rfl (by decide) (by rfl) rr trivial (Zg _ rfl)

theorem ZpA  (N : Nat) (r : Zdl) (h : ZdS  N = some r) : LSpec Tryz.prog 30 #[Value.agg #[vi (9 : Int), vi (4 : Int), vi (9 : Int), vq]] [] (Zlk  r) (Zkm  r) :=
 (Zrj  N) r h

noncomputable def Zck  (n : Nat) : Zx := .call [] (vq) [] 0
def Zbz (A : Array Value)  (n : Nat) : Prop := Zj Tryz.prog 30 A [] (vq) [] n 0

theorem Zcl (A : Array Value)  (N : Nat) (h : ZdS  N = some (.r0)) (n : Nat) (hA : A = #[Value.agg #[vi (9 : Int), vi (4 : Int), vi (9 : Int), vq]]) (hnd : ([] : List Nat).Nodup) (hlt : ∀ k ∈ ([] : List Nat), k < n) : Zbz A   n :=
 Zm hA (LSpec.callL (show LSpec Tryz.prog 30 #[Value.agg #[vi (9 : Int), vi (4 : Int), vi (9 : Int), vq]] [] (vq) [] from ZpA  N _ h) [] n [] rfl hnd hlt (show 0 ≤ 0 from by decide) (show ∀ j ∈ ([] : List Nat), j < 0 from by decide) (by rfl) trivial (by rfl) trivial trivial rfl rfl rfl rfl rfl)

noncomputable def Zll  : Zdm → Value
 | .r0 => vq
noncomputable def Zkn  : Zdm → List (Option AObj)
 | .r0 => []

theorem Zrk  (N : Nat) : Gx Tryz.prog 30 [] #[Value.agg #[vi (8 : Int), vi (30 : Int), vq, vq]] (Zll ) (Zkn ) (Zbd  N) := by
 unfold Zbd
 exact Zh Zi (r := (.r0 : Zdm)) (fu := 4000) (orc := (Zl [] [] [] [] [])) (live := []) (u := vq) (bl := []) (ob := []) (by kernel_rfl) Zf rfl (by decide) (by rfl) rr trivial (Zg _ rfl)

theorem ZpB  (N : Nat) (r : Zdm) (h : Zbd  N = some r) : LSpec Tryz.prog 30 #[Value.agg #[vi (8 : Int), vi (30 : Int), vq, vq]] [] (Zll  r) (Zkn  r) :=
 (Zrk  N) r h

noncomputable def ZC  (n : Nat) : Zx := .call [] (vq) [] 0
def Z9 (A : Array Value)  (n : Nat) : Prop := Zj Tryz.prog 30 A [] (vq) [] n 0

theorem ZD (A : Array Value)  (N : Nat) (h : Zbd  N = some (.r0)) (n : Nat) (hA : A = #[Value.agg #[vi (8 : Int), vi (30 : Int), vq, vq]]) (hnd : ([] : List Nat).Nodup) (hlt : ∀ k ∈ ([] : List Nat), k < n) : Z9 A   n :=
 Zm hA (LSpec.callL (show LSpec Tryz.prog 30 #[Value.agg #[vi (8 : Int), vi (30 : Int), vq, vq]] [] (vq) [] from ZpB  N _ h) [] n [] rfl hnd hlt (show 0 ≤ 0 from by decide) (show ∀ j ∈ ([] : List Nat), j < 0 from by decide) (by rfl) trivial (by rfl) trivial trivial rfl rfl rfl rfl rfl)

noncomputable def Zko  : Zc0 → Value
 | .r0 => vq
noncomputable def ZiV  : Zc0 → List (Option AObj)
 | .r0 => []

theorem Zqu  (N : Nat) : Gx Tryz.prog 30 [] #[Value.agg #[vi (6 : Int), vi (4 : Int), vi (1 : Int), vi (3 : Int)]] (Zko ) (ZiV ) (Zb7  N) := by
 unfold Zb7
 exact Zh Zi (r := (.r0 : Zc0)) (fu := 4000) (orc := (Zl [] [] [] [] [])) (live := []) (u := vq) (bl := []) (ob := []) (by kernel_rfl) Zf rfl (by decide) (by rfl) rr trivial (Zg _ rfl)

theorem ZoK  (N : Nat) (r : Zc0) (h : Zb7  N = some r) : LSpec Tryz.prog 30 #[Value.agg #[vi (6 : Int), vi (4 : Int), vi (1 : Int), vi (3 : Int)]] [] (Zko  r) (ZiV  r) :=
 (Zqu  N) r h

noncomputable def Zak  (n : Nat) : Zx := .call [] (vq) [] 0
def Zab (A : Array Value)  (n : Nat) : Prop := Zj Tryz.prog 30 A [] (vq) [] n 0

theorem Zal (A : Array Value)  (N : Nat) (h : Zb7  N = some (.r0)) (n : Nat) (hA : A = #[Value.agg #[vi (6 : Int), vi (4 : Int), vi (1 : Int), vi (3 : Int)]]) (hnd : ([] : List Nat).Nodup) (hlt : ∀ k ∈ ([] : List Nat), k < n) : Zab A   n :=
 Zm hA (LSpec.callL (show LSpec Tryz.prog 30 #[Value.agg #[vi (6 : Int), vi (4 : Int), vi (1 : Int), vi (3 : Int)]] [] (vq) [] from ZoK  N _ h) [] n [] rfl hnd hlt (show 0 ≤ 0 from by decide) (show ∀ j ∈ ([] : List Nat), j < 0 from by decide) (by rfl) trivial (by rfl) trivial trivial rfl rfl rfl rfl rfl)

noncomputable def Zkp  : Zc1 → Value
 | .r0 => vq
noncomputable def ZiW  : Zc1 → List (Option AObj)
 | .r0 => []

theorem Zqv  (N : Nat) : Gx Tryz.prog 30 [] #[Value.agg #[vi (9 : Int), vi (4 : Int), vi (19 : Int), vq]] (Zkp ) (ZiW ) (Zdn  N) := by
 unfold Zdn
 exact Zh Zi (r := (.r0 : Zc1)) (fu := 4000) (orc := (Zl [] [] [] [] [])) (live := []) (u := vq) (bl := []) (ob := []) (by kernel_rfl) Zf rfl (by decide) (by rfl) rr trivial (Zg _ rfl)

theorem ZoL  (N : Nat) (r : Zc1) (h : Zdn  N = some r) : LSpec Tryz.prog 30 #[Value.agg #[vi (9 : Int), vi (4 : Int), vi (19 : Int), vq]] [] (Zkp  r) (ZiW  r) :=
 (Zqv  N) r h

noncomputable def ZbG  (n : Nat) : Zx := .call [] (vq) [] 0
def Zbg (A : Array Value)  (n : Nat) : Prop := Zj Tryz.prog 30 A [] (vq) [] n 0

theorem ZbH (A : Array Value)  (N : Nat) (h : Zdn  N = some (.r0)) (n : Nat) (hA : A = #[Value.agg #[vi (9 : Int), vi (4 : Int), vi (19 : Int), vq]]) (hnd : ([] : List Nat).Nodup) (hlt : ∀ k ∈ ([] : List Nat), k < n) : Zbg A   n :=
 Zm hA (LSpec.callL (show LSpec Tryz.prog 30 #[Value.agg #[vi (9 : Int), vi (4 : Int), vi (19 : Int), vq]] [] (vq) [] from ZoL  N _ h) [] n [] rfl hnd hlt (show 0 ≤ 0 from by decide) (show ∀ j ∈ ([] : List Nat), j < 0 from by decide) (by rfl) trivial (by rfl) trivial trivial rfl rfl rfl rfl rfl)

noncomputable def Zkq  : Zc2 → Value
 | .r0 => vq
noncomputable def ZiX  : Zc2 → List (Option AObj)
 | .r0 => []

theorem Zqw  (N : Nat) : Gx Tryz.prog 30 [] #[Value.agg #[vi (13 : Int), vi (5 : Int), vi (2 : Int), vq]] (Zkq ) (ZiX ) (Zb8  N) := by
 unfold Zb8
 exact Zh Zi (r := (.r0 : Zc2)) (fu := 4000) (orc := (Zl [] [] [] [] [])) (live := []) (u := vq) (bl := []) (ob := []) (by kernel_rfl) Zf rfl (by decide) (by rfl) rr trivial (Zg _ rfl)

theorem ZoM  (N : Nat) (r : Zc2) (h : Zb8  N = some r) : LSpec Tryz.prog 30 #[Value.agg #[vi (13 : Int), vi (5 : Int), vi (2 : Int), vq]] [] (Zkq  r) (ZiX  r) :=
 (Zqw  N) r h

noncomputable def Zam  (n : Nat) : Zx := .call [] (vq) [] 0
def Zac (A : Array Value)  (n : Nat) : Prop := Zj Tryz.prog 30 A [] (vq) [] n 0

theorem Zan (A : Array Value)  (N : Nat) (h : Zb8  N = some (.r0)) (n : Nat) (hA : A = #[Value.agg #[vi (13 : Int), vi (5 : Int), vi (2 : Int), vq]]) (hnd : ([] : List Nat).Nodup) (hlt : ∀ k ∈ ([] : List Nat), k < n) : Zac A   n :=
 Zm hA (LSpec.callL (show LSpec Tryz.prog 30 #[Value.agg #[vi (13 : Int), vi (5 : Int), vi (2 : Int), vq]] [] (vq) [] from ZoM  N _ h) [] n [] rfl hnd hlt (show 0 ≤ 0 from by decide) (show ∀ j ∈ ([] : List Nat), j < 0 from by decide) (by rfl) trivial (by rfl) trivial trivial rfl rfl rfl rfl rfl)

noncomputable def Zkr  : Zc3 → Value
 | .r0 => vq
noncomputable def ZiY  : Zc3 → List (Option AObj)
 | .r0 => []

theorem Zqx  (N : Nat) : Gx Tryz.prog 30 [] #[Value.agg #[vi (9 : Int), vi (5 : Int), vi (15 : Int), vq]] (Zkr ) (ZiY ) (Zdo  N) := by
 unfold Zdo
 exact Zh Zi (r := (.r0 : Zc3)) (fu := 4000) (orc := (Zl [] [] [] [] [])) (live := []) (u := vq) (bl := []) (ob := []) (by kernel_rfl) Zf rfl (by decide) (by rfl) rr trivial (Zg _ rfl)

theorem ZoN  (N : Nat) (r : Zc3) (h : Zdo  N = some r) : LSpec Tryz.prog 30 #[Value.agg #[vi (9 : Int), vi (5 : Int), vi (15 : Int), vq]] [] (Zkr  r) (ZiY  r) :=
 (Zqx  N) r h

noncomputable def ZbI  (n : Nat) : Zx := .call [] (vq) [] 0
def Zbh (A : Array Value)  (n : Nat) : Prop := Zj Tryz.prog 30 A [] (vq) [] n 0

theorem ZbJ (A : Array Value)  (N : Nat) (h : Zdo  N = some (.r0)) (n : Nat) (hA : A = #[Value.agg #[vi (9 : Int), vi (5 : Int), vi (15 : Int), vq]]) (hnd : ([] : List Nat).Nodup) (hlt : ∀ k ∈ ([] : List Nat), k < n) : Zbh A   n :=
 Zm hA (LSpec.callL (show LSpec Tryz.prog 30 #[Value.agg #[vi (9 : Int), vi (5 : Int), vi (15 : Int), vq]] [] (vq) [] from ZoN  N _ h) [] n [] rfl hnd hlt (show 0 ≤ 0 from by decide) (show ∀ j ∈ ([] : List Nat), j < 0 from by decide) (by rfl) trivial (by rfl) trivial trivial rfl rfl rfl rfl rfl)

noncomputable def Zks  : Zc4 → Value
 | .r0 => vq
noncomputable def ZiZ  : Zc4 → List (Option AObj)
 | .r0 => []

theorem Zqy  (N : Nat) : Gx Tryz.prog 30 [] #[Value.agg #[vi (3 : Int), vi (2 : Int), vi (5 : Int), vq]] (Zks ) (ZiZ ) (ZaL  N) := by
 unfold ZaL
 exact Zh Zi (r := (.r0 : Zc4)) (fu := 4000) (orc := (Zl [] [] [] [] [])) (live := []) (u := vq) (bl := []) (ob := []) (by kernel_rfl) Zf rfl (by decide) (by rfl) rr trivial (Zg _ rfl)

theorem ZoO  (N : Nat) (r : Zc4) (h : ZaL  N = some r) : LSpec Tryz.prog 30 #[Value.agg #[vi (3 : Int), vi (2 : Int), vi (5 : Int), vq]] [] (Zks  r) (ZiZ  r) :=
 (Zqy  N) r h

noncomputable def ZG  (n : Nat) : Zx := .call [] (vq) [] 0
def ZE (A : Array Value)  (n : Nat) : Prop := Zj Tryz.prog 30 A [] (vq) [] n 0

theorem ZH (A : Array Value)  (N : Nat) (h : ZaL  N = some (.r0)) (n : Nat) (hA : A = #[Value.agg #[vi (3 : Int), vi (2 : Int), vi (5 : Int), vq]]) (hnd : ([] : List Nat).Nodup) (hlt : ∀ k ∈ ([] : List Nat), k < n) : ZE A   n :=
 Zm hA (LSpec.callL (show LSpec Tryz.prog 30 #[Value.agg #[vi (3 : Int), vi (2 : Int), vi (5 : Int), vq]] [] (vq) [] from ZoO  N _ h) [] n [] rfl hnd hlt (show 0 ≤ 0 from by decide) (show ∀ j ∈ ([] : List Nat), j < 0 from by decide) (by rfl) trivial (by rfl) trivial trivial rfl rfl rfl rfl rfl)

noncomputable def Zkt  : Zc5 → Value
 | .r0 => vq
noncomputable def Zja  : Zc5 → List (Option AObj)
 | .r0 => []

theorem Zqz  (N : Nat) : Gx Tryz.prog 30 [] #[Value.agg #[vi (8 : Int), vi (5 : Int), vq, vq]] (Zkt ) (Zja ) (ZaM  N) := by
 unfold ZaM
 exact Zh Zi (r := (.r0 : Zc5)) (fu := 4000) (orc := (Zl [] [] [] [] [])) (live := []) (u := vq) (bl := []) (ob := []) (by kernel_rfl) Zf rfl (by decide) (by rfl) rr trivial (Zg _ rfl)

theorem ZoP  (N : Nat) (r : Zc5) (h : ZaM  N = some r) : LSpec Tryz.prog 30 #[Value.agg #[vi (8 : Int), vi (5 : Int), vq, vq]] [] (Zkt  r) (Zja  r) :=
 (Zqz  N) r h

noncomputable def ZI  (n : Nat) : Zx := .call [] (vq) [] 0
def ZF (A : Array Value)  (n : Nat) : Prop := Zj Tryz.prog 30 A [] (vq) [] n 0

theorem ZJ (A : Array Value)  (N : Nat) (h : ZaM  N = some (.r0)) (n : Nat) (hA : A = #[Value.agg #[vi (8 : Int), vi (5 : Int), vq, vq]]) (hnd : ([] : List Nat).Nodup) (hlt : ∀ k ∈ ([] : List Nat), k < n) : ZF A   n :=
 Zm hA (LSpec.callL (show LSpec Tryz.prog 30 #[Value.agg #[vi (8 : Int), vi (5 : Int), vq, vq]] [] (vq) [] from ZoP  N _ h) [] n [] rfl hnd hlt (show 0 ≤ 0 from by decide) (show ∀ j ∈ ([] : List Nat), j < 0 from by decide) (by rfl) trivial (by rfl) trivial trivial rfl rfl rfl rfl rfl)

noncomputable def Zku  : Zc6 → Value
 | .r0 => vq
noncomputable def Zjb  : Zc6 → List (Option AObj)
 | .r0 => []

theorem Zq0  (N : Nat) : Gx Tryz.prog 30 [] #[Value.agg #[vi (11 : Int), vi (6 : Int), vi (3 : Int), vi (3 : Int)]] (Zku ) (Zjb ) (ZaN  N) := by
 unfold ZaN
 exact Zh Zi (r := (.r0 : Zc6)) (fu := 4000) (orc := (Zl [] [] [] [] [])) (live := []) (u := vq) (bl := []) (ob := []) (by kernel_rfl) Zf rfl (by decide) (by rfl) rr trivial (Zg _ rfl)

theorem ZoQ  (N : Nat) (r : Zc6) (h : ZaN  N = some r) : LSpec Tryz.prog 30 #[Value.agg #[vi (11 : Int), vi (6 : Int), vi (3 : Int), vi (3 : Int)]] [] (Zku  r) (Zjb  r) :=
 (Zq0  N) r h

noncomputable def Z5  (n : Nat) : Zx := .call [] (vq) [] 0
def Z0 (A : Array Value)  (n : Nat) : Prop := Zj Tryz.prog 30 A [] (vq) [] n 0

theorem Z6 (A : Array Value)  (N : Nat) (h : ZaN  N = some (.r0)) (n : Nat) (hA : A = #[Value.agg #[vi (11 : Int), vi (6 : Int), vi (3 : Int), vi (3 : Int)]]) (hnd : ([] : List Nat).Nodup) (hlt : ∀ k ∈ ([] : List Nat), k < n) : Z0 A   n :=
 Zm hA (LSpec.callL (show LSpec Tryz.prog 30 #[Value.agg #[vi (11 : Int), vi (6 : Int), vi (3 : Int), vi (3 : Int)]] [] (vq) [] from ZoQ  N _ h) [] n [] rfl hnd hlt (show 0 ≤ 0 from by decide) (show ∀ j ∈ ([] : List Nat), j < 0 from by decide) (by rfl) trivial (by rfl) trivial trivial rfl rfl rfl rfl rfl)

noncomputable def Zkv  : Zc7 → Value
 | .r0 => vq
noncomputable def Zjc  : Zc7 → List (Option AObj)
 | .r0 => []

theorem Zq1  (N : Nat) : Gx Tryz.prog 30 [] #[Value.agg #[vi (14 : Int), vi (6 : Int), vi (2 : Int), vi (1 : Int)]] (Zkv ) (Zjc ) (ZaO  N) := by
 unfold ZaO
 exact Zh Zi (r := (.r0 : Zc7)) (fu := 4000) (orc := (Zl [] [] [] [] [])) (live := []) (u := vq) (bl := []) (ob := []) (by kernel_rfl) Zf rfl (by decide) (by rfl) rr trivial (Zg _ rfl)

theorem ZoR  (N : Nat) (r : Zc7) (h : ZaO  N = some r) : LSpec Tryz.prog 30 #[Value.agg #[vi (14 : Int), vi (6 : Int), vi (2 : Int), vi (1 : Int)]] [] (Zkv  r) (Zjc  r) :=
 (Zq1  N) r h

noncomputable def Z7  (n : Nat) : Zx := .call [] (vq) [] 0
def Z1 (A : Array Value)  (n : Nat) : Prop := Zj Tryz.prog 30 A [] (vq) [] n 0

theorem Z8 (A : Array Value)  (N : Nat) (h : ZaO  N = some (.r0)) (n : Nat) (hA : A = #[Value.agg #[vi (14 : Int), vi (6 : Int), vi (2 : Int), vi (1 : Int)]]) (hnd : ([] : List Nat).Nodup) (hlt : ∀ k ∈ ([] : List Nat), k < n) : Z1 A   n :=
 Zm hA (LSpec.callL (show LSpec Tryz.prog 30 #[Value.agg #[vi (14 : Int), vi (6 : Int), vi (2 : Int), vi (1 : Int)]] [] (vq) [] from ZoR  N _ h) [] n [] rfl hnd hlt (show 0 ≤ 0 from by decide) (show ∀ j ∈ ([] : List Nat), j < 0 from by decide) (by rfl) trivial (by rfl) trivial trivial rfl rfl rfl rfl rfl)

noncomputable def Zkw  : Zc8 → Value
 | .r0 => vq
noncomputable def Zjd  : Zc8 → List (Option AObj)
 | .r0 => []

theorem Zq2  (N : Nat) : Gx Tryz.prog 30 [] #[Value.agg #[vi (14 : Int), vi (2 : Int), vq, vi (6 : Int)]] (Zkw ) (Zjd ) (Zdp  N) := by
 unfold Zdp
 exact Zh Zi (r := (.r0 : Zc8)) (fu := 4000) (orc := (Zl [] [] [] [] [])) (live := []) (u := vq) (bl := []) (ob := []) (by kernel_rfl) Zf rfl (by decide) (by rfl) rr trivial (Zg _ rfl)

theorem ZoS  (N : Nat) (r : Zc8) (h : Zdp  N = some r) : LSpec Tryz.prog 30 #[Value.agg #[vi (14 : Int), vi (2 : Int), vq, vi (6 : Int)]] [] (Zkw  r) (Zjd  r) :=
 (Zq2  N) r h

noncomputable def ZbK  (n : Nat) : Zx := .call [] (vq) [] 0
def Zbi (A : Array Value)  (n : Nat) : Prop := Zj Tryz.prog 30 A [] (vq) [] n 0

theorem ZbL (A : Array Value)  (N : Nat) (h : Zdp  N = some (.r0)) (n : Nat) (hA : A = #[Value.agg #[vi (14 : Int), vi (2 : Int), vq, vi (6 : Int)]]) (hnd : ([] : List Nat).Nodup) (hlt : ∀ k ∈ ([] : List Nat), k < n) : Zbi A   n :=
 Zm hA (LSpec.callL (show LSpec Tryz.prog 30 #[Value.agg #[vi (14 : Int), vi (2 : Int), vq, vi (6 : Int)]] [] (vq) [] from ZoS  N _ h) [] n [] rfl hnd hlt (show 0 ≤ 0 from by decide) (show ∀ j ∈ ([] : List Nat), j < 0 from by decide) (by rfl) trivial (by rfl) trivial trivial rfl rfl rfl rfl rfl)

noncomputable def Zkx  : Zc9 → Value
 | .r0 => vq
noncomputable def Zje  : Zc9 → List (Option AObj)
 | .r0 => []

theorem Zq3  (N : Nat) : Gx Tryz.prog 30 [] #[Value.agg #[vi (13 : Int), vi (5 : Int), vi (2 : Int), vi (1 : Int)]] (Zkx ) (Zje ) (Zb9  N) := by
 unfold Zb9
 exact Zh Zi (r := (.r0 : Zc9)) (fu := 4000) (orc := (Zl [] [] [] [] [])) (live := []) (u := vq) (bl := []) (ob := []) (by kernel_rfl) Zf rfl (by decide) (by rfl) rr trivial (Zg _ rfl)

theorem ZoT  (N : Nat) (r : Zc9) (h : Zb9  N = some r) : LSpec Tryz.prog 30 #[Value.agg #[vi (13 : Int), vi (5 : Int), vi (2 : Int), vi (1 : Int)]] [] (Zkx  r) (Zje  r) :=
 (Zq3  N) r h

noncomputable def Zao  (n : Nat) : Zx := .call [] (vq) [] 0
def Zad (A : Array Value)  (n : Nat) : Prop := Zj Tryz.prog 30 A [] (vq) [] n 0

theorem Zap (A : Array Value)  (N : Nat) (h : Zb9  N = some (.r0)) (n : Nat) (hA : A = #[Value.agg #[vi (13 : Int), vi (5 : Int), vi (2 : Int), vi (1 : Int)]]) (hnd : ([] : List Nat).Nodup) (hlt : ∀ k ∈ ([] : List Nat), k < n) : Zad A   n :=
 Zm hA (LSpec.callL (show LSpec Tryz.prog 30 #[Value.agg #[vi (13 : Int), vi (5 : Int), vi (2 : Int), vi (1 : Int)]] [] (vq) [] from ZoT  N _ h) [] n [] rfl hnd hlt (show 0 ≤ 0 from by decide) (show ∀ j ∈ ([] : List Nat), j < 0 from by decide) (by rfl) trivial (by rfl) trivial trivial rfl rfl rfl rfl rfl)

noncomputable def Zky  : ZcA → Value
 | .r0 => vq
noncomputable def Zjf  : ZcA → List (Option AObj)
 | .r0 => []

theorem Zq4  (N : Nat) : Gx Tryz.prog 30 [] #[Value.agg #[vi (9 : Int), vi (5 : Int), vi (23 : Int), vq]] (Zky ) (Zjf ) (Zdq  N) := by
 unfold Zdq
 exact Zh Zi (r := (.r0 : ZcA)) (fu := 4000) (orc := (Zl [] [] [] [] [])) (live := []) (u := vq) (bl := []) (ob := []) (by kernel_rfl) Zf rfl (by decide) (by rfl) rr trivial (Zg _ rfl)

theorem ZoU  (N : Nat) (r : ZcA) (h : Zdq  N = some r) : LSpec Tryz.prog 30 #[Value.agg #[vi (9 : Int), vi (5 : Int), vi (23 : Int), vq]] [] (Zky  r) (Zjf  r) :=
 (Zq4  N) r h

noncomputable def ZbM  (n : Nat) : Zx := .call [] (vq) [] 0
def Zbj (A : Array Value)  (n : Nat) : Prop := Zj Tryz.prog 30 A [] (vq) [] n 0

theorem ZbN (A : Array Value)  (N : Nat) (h : Zdq  N = some (.r0)) (n : Nat) (hA : A = #[Value.agg #[vi (9 : Int), vi (5 : Int), vi (23 : Int), vq]]) (hnd : ([] : List Nat).Nodup) (hlt : ∀ k ∈ ([] : List Nat), k < n) : Zbj A   n :=
 Zm hA (LSpec.callL (show LSpec Tryz.prog 30 #[Value.agg #[vi (9 : Int), vi (5 : Int), vi (23 : Int), vq]] [] (vq) [] from ZoU  N _ h) [] n [] rfl hnd hlt (show 0 ≤ 0 from by decide) (show ∀ j ∈ ([] : List Nat), j < 0 from by decide) (by rfl) trivial (by rfl) trivial trivial rfl rfl rfl rfl rfl)

noncomputable def Zkz  : ZcB → Value
 | .r0 => vq
noncomputable def Zjg  : ZcB → List (Option AObj)
 | .r0 => []

theorem Zq5  (N : Nat) : Gx Tryz.prog 30 [] #[Value.agg #[vi (14 : Int), vi (2 : Int), vi (1 : Int), vi (6 : Int)]] (Zkz ) (Zjg ) (Zdr  N) := by
 unfold Zdr
 exact Zh Zi (r := (.r0 : ZcB)) (fu := 4000) (orc := (Zl [] [] [] [] [])) (live := []) (u := vq) (bl := []) (ob := []) (by kernel_rfl) Zf rfl (by decide) (by rfl) rr trivial (Zg _ rfl)

theorem ZoV  (N : Nat) (r : ZcB) (h : Zdr  N = some r) : LSpec Tryz.prog 30 #[Value.agg #[vi (14 : Int), vi (2 : Int), vi (1 : Int), vi (6 : Int)]] [] (Zkz  r) (Zjg  r) :=
 (Zq5  N) r h

noncomputable def ZbO  (n : Nat) : Zx := .call [] (vq) [] 0
def Zbk (A : Array Value)  (n : Nat) : Prop := Zj Tryz.prog 30 A [] (vq) [] n 0

theorem ZbP (A : Array Value)  (N : Nat) (h : Zdr  N = some (.r0)) (n : Nat) (hA : A = #[Value.agg #[vi (14 : Int), vi (2 : Int), vi (1 : Int), vi (6 : Int)]]) (hnd : ([] : List Nat).Nodup) (hlt : ∀ k ∈ ([] : List Nat), k < n) : Zbk A   n :=
 Zm hA (LSpec.callL (show LSpec Tryz.prog 30 #[Value.agg #[vi (14 : Int), vi (2 : Int), vi (1 : Int), vi (6 : Int)]] [] (vq) [] from ZoV  N _ h) [] n [] rfl hnd hlt (show 0 ≤ 0 from by decide) (show ∀ j ∈ ([] : List Nat), j < 0 from by decide) (by rfl) trivial (by rfl) trivial trivial rfl rfl rfl rfl rfl)

noncomputable def Zk0 (a0 : Int) : Za9 → Value
 | .r0 => vq
 | .r1 => vi (100 : Int)
noncomputable def Zjh (a0 : Int) : Za9 → List (Option AObj)
 | .r0 => []
 | .r1 => []

theorem Zq6 (a0 : Int) (N : Nat) : Gx Tryz.prog 30 [] #[Value.agg #[vi (14 : Int), vq, vi a0, vi (6 : Int)]] (Zk0 a0) (Zjh a0) (ZbA a0 N) := by
 unfold ZbA
 refine ZN (fun g0 => ?_) (fun g0 => ?_)
 ·
  refine ZN (fun g1 => ?_) (fun g1 => ?_)
  ·
   exact Zh Zi (r := (.r0 : Za9)) (fu := 4000) (orc := (Zl [(11, true), (12, true)] [] [] [] [])) (live := []) (u := vq) (bl := []) (ob := [((decide (a0 ≤ (15 : Int))), true), ((decide ((0 : Int) ≤ a0)), true)]) (by kernel_rfl) (oY <| oY Zf) rfl (by decide) (by rfl) rr trivial (Zg _ rfl)
  ·
   exact Zh Zi (r := (.r1 : Za9)) (fu := 4000) (orc := (Zl [(11, true), (12, false)] [] [] [] [])) (live := []) (u := vi (100 : Int)) (bl := []) (ob := [((decide (a0 ≤ (15 : Int))), false), ((decide ((0 : Int) ≤ a0)), true)]) (by kernel_rfl) (oN <| oY Zf) rfl (by decide) (by rfl) rr trivial (Zg _ rfl)
 ·
  exact Zh Zi (r := (.r1 : Za9)) (fu := 4000) (orc := (Zl [(11, false)] [] [] [] [])) (live := []) (u := vi (100 : Int)) (bl := []) (ob := [((decide ((0 : Int) ≤ a0)), false)]) (by kernel_rfl) (oN Zf) rfl (by decide) (by rfl) rr trivial (Zg _ rfl)

theorem ZhM (a0 : Int) (N : Nat) (r : Za9) (h : ZbA a0 N = some r) : LSpec Tryz.prog 30 #[Value.agg #[vi (14 : Int), vq, vi a0, vi (6 : Int)]] [] (Zk0 a0 r) (Zjh a0 r) :=
 (Zq6 a0 N) r h

noncomputable def ZdE (a0 : Int) (n : Nat) : Zx := .call [] (vq) [] 0
def Zcs (A : Array Value) (a0 : Int) (n : Nat) : Prop := Zj Tryz.prog 30 A [] (vq) [] n 0

theorem ZdF (A : Array Value) (a0 : Int) (N : Nat) (h : ZbA a0 N = some (.r0)) (n : Nat) (hA : A = #[Value.agg #[vi (14 : Int), vq, vi a0, vi (6 : Int)]]) (hnd : ([] : List Nat).Nodup) (hlt : ∀ k ∈ ([] : List Nat), k < n) : Zcs A a0  n :=
 Zm hA (LSpec.callL (show LSpec Tryz.prog 30 #[Value.agg #[vi (14 : Int), vq, vi a0, vi (6 : Int)]] [] (vq) [] from ZhM a0 N _ h) [] n [] rfl hnd hlt (show 0 ≤ 0 from by decide) (show ∀ j ∈ ([] : List Nat), j < 0 from by decide) (by rfl) trivial (by rfl) trivial trivial rfl rfl rfl rfl rfl)

noncomputable def Zji (a0 : Int) (n : Nat) : Zx := .call [] (vi (100 : Int)) [] 0
def ZgF (A : Array Value) (a0 : Int) (n : Nat) : Prop := Zj Tryz.prog 30 A [] (vi (100 : Int)) [] n 0

theorem Zjj (A : Array Value) (a0 : Int) (N : Nat) (h : ZbA a0 N = some (.r1)) (n : Nat) (hA : A = #[Value.agg #[vi (14 : Int), vq, vi a0, vi (6 : Int)]]) (hnd : ([] : List Nat).Nodup) (hlt : ∀ k ∈ ([] : List Nat), k < n) : ZgF A a0  n :=
 Zm hA (LSpec.callL (show LSpec Tryz.prog 30 #[Value.agg #[vi (14 : Int), vq, vi a0, vi (6 : Int)]] [] (vi (100 : Int)) [] from ZhM a0 N _ h) [] n [] rfl hnd hlt (show 0 ≤ 0 from by decide) (show ∀ j ∈ ([] : List Nat), j < 0 from by decide) (by rfl) trivial (by rfl) trivial trivial rfl rfl rfl rfl rfl)

noncomputable def Zk1  : ZcC → Value
 | .r0 => vq
noncomputable def Zjk  : ZcC → List (Option AObj)
 | .r0 => []

theorem Zq7  (N : Nat) : Gx Tryz.prog 30 [] #[Value.agg #[vi (17 : Int), vq, vq, vq]] (Zk1 ) (Zjk ) (Zau  N) := by
 unfold Zau
 exact Zh Zi (r := (.r0 : ZcC)) (fu := 4000) (orc := (Zl [] [] [] [] [])) (live := []) (u := vq) (bl := []) (ob := []) (by kernel_rfl) Zf rfl (by decide) (by rfl) rr trivial (Zg _ rfl)

theorem ZoW  (N : Nat) (r : ZcC) (h : Zau  N = some r) : LSpec Tryz.prog 30 #[Value.agg #[vi (17 : Int), vq, vq, vq]] [] (Zk1  r) (Zjk  r) :=
 (Zq7  N) r h

noncomputable def ZO  (n : Nat) : Zx := .call [] (vq) [] 0
def ZK (A : Array Value)  (n : Nat) : Prop := Zj Tryz.prog 30 A [] (vq) [] n 0

theorem ZP (A : Array Value)  (N : Nat) (h : Zau  N = some (.r0)) (n : Nat) (hA : A = #[Value.agg #[vi (17 : Int), vq, vq, vq]]) (hnd : ([] : List Nat).Nodup) (hlt : ∀ k ∈ ([] : List Nat), k < n) : ZK A   n :=
 Zm hA (LSpec.callL (show LSpec Tryz.prog 30 #[Value.agg #[vi (17 : Int), vq, vq, vq]] [] (vq) [] from ZoW  N _ h) [] n [] rfl hnd hlt (show 0 ≤ 0 from by decide) (show ∀ j ∈ ([] : List Nat), j < 0 from by decide) (by rfl) trivial (by rfl) trivial trivial rfl rfl rfl rfl rfl)

noncomputable def ZnA (a0 a1 : Int) : ZB → Value
 | .r0 => Value.tuple #[vs 0 0 31 31, vq]
 | .r1 => Value.tuple #[vn, vq]
 | .r2 => Value.tuple #[vn, vi (240 : Int)]
noncomputable def Zme (a0 a1 : Int) : ZB → List (Option AObj)
 | .r0 => [some (.cells [vi (10 : Int), vq, vq, vq, vi (1 : Int), vi (1 : Int), vi a1, vq, vi (15 : Int), vq, vq, vq, vi (13 : Int), vi (2 : Int), vq, vi a0, vi (9 : Int), vi (2 : Int), vi (27 : Int), vq, vi (13 : Int), vi (3 : Int), vi (2 : Int), vi (2 : Int), vi (7 : Int), vi (4 : Int), vi (1 : Int), vi (3 : Int), vi (9 : Int), vi (4 : Int), vi (9 : Int), vq, vi (8 : Int), vi (30 : Int), vq, vq, vi (6 : Int), vi (4 : Int), vi (1 : Int), vi (3 : Int), vi (9 : Int), vi (4 : Int), vi (19 : Int), vq, vi (13 : Int), vi (5 : Int), vi (2 : Int), vq, vi (9 : Int), vi (5 : Int), vi (15 : Int), vq, vi (3 : Int), vi (2 : Int), vi (5 : Int), vq, vi (8 : Int), vi (5 : Int), vq, vq, vi (11 : Int), vi (6 : Int), vi (3 : Int), vi (3 : Int), vi (14 : Int), vi (6 : Int), vi (2 : Int), vi (1 : Int), vi (14 : Int), vi (2 : Int), vq, vi (6 : Int), vi (8 : Int), vi (30 : Int), vq, vq, vi (13 : Int), vi (5 : Int), vi (2 : Int), vi (1 : Int), vi (9 : Int), vi (5 : Int), vi (23 : Int), vq, vi (3 : Int), vi (2 : Int), vi (5 : Int), vq, vi (8 : Int), vi (5 : Int), vq, vq, vi (11 : Int), vi (6 : Int), vi (3 : Int), vi (3 : Int), vi (14 : Int), vi (6 : Int), vi (2 : Int), vi (1 : Int), vi (14 : Int), vi (2 : Int), vi (1 : Int), vi (6 : Int), vi (8 : Int), vi (30 : Int), vq, vq, vi (11 : Int), vi (6 : Int), vi (3 : Int), vi (3 : Int), vi (14 : Int), vi (6 : Int), vi (2 : Int), vi (1 : Int), vi (14 : Int), vq, vi a0, vi (6 : Int), vi (17 : Int), vq, vq, vq] 42)]
 | .r1 => []
 | .r2 => []

theorem ZsZ (a0 a1 : Int) (N : Nat) : Gx Tryz.prog 4 [] #[vi a0, vi a1] (ZnA a0 a1) (Zme a0 a1) (Zb4 a0 a1 N) := by
 unfold Zb4
 refine ZN (fun g0 => ?_) (fun g0 => ?_)
 ·
  refine ZN (fun g1 => ?_) (fun g1 => ?_)
  ·
   refine ZN (fun g2 => ?_) (fun g2 => ?_)
   ·
    refine ZN (fun g3 => ?_) (fun g3 => ?_)
    ·
     refine Zd (fun z4 c4 => ?_)
     cases z4 with
     | r0 =>
      refine Zd (fun z5 c5 => ?_)
      cases z5 with
      | r0 =>
       refine Zd (fun z6 c6 => ?_)
       cases z6 with
       | r0 =>
        refine Zd (fun z7 c7 => ?_)
        cases z7 with
        | r0 =>
         refine Zd (fun z8 c8 => ?_)
         cases z8 with
         | r0 =>
          refine Zd (fun z9 c9 => ?_)
          cases z9 with
          | r0 =>
           refine Zd (fun z10 c10 => ?_)
           cases z10 with
           | r0 =>
            refine Zd (fun z11 c11 => ?_)
            cases z11 with
            | r0 =>
             refine Zd (fun z12 c12 => ?_)
             cases z12 with
             | r0 =>
              refine Zd (fun z13 c13 => ?_)
              cases z13 with
              | r0 =>
               refine Zd (fun z14 c14 => ?_)
               cases z14 with
               | r0 =>
                refine Zd (fun z15 c15 => ?_)
                cases z15 with
                | r0 =>
                 refine Zd (fun z16 c16 => ?_)
                 cases z16 with
                 | r0 =>
                  refine Zd (fun z17 c17 => ?_)
                  cases z17 with
                  | r0 =>
                   refine Zd (fun z18 c18 => ?_)
                   cases z18 with
                   | r0 =>
                    refine Zd (fun z19 c19 => ?_)
                    cases z19 with
                    | r0 =>
                     refine Zd (fun z20 c20 => ?_)
                     cases z20 with
                     | r0 =>
                      refine Zd (fun z21 c21 => ?_)
                      cases z21 with
                      | r0 =>
                       refine Zd (fun z22 c22 => ?_)
                       cases z22 with
                       | r0 =>
                        refine Zd (fun z23 c23 => ?_)
                        cases z23 with
                        | r0 =>
                         refine Zd (fun z24 c24 => ?_)
                         cases z24 with
                         | r0 =>
                          refine Zd (fun z25 c25 => ?_)
                          cases z25 with
                          | r0 =>
                           refine Zd (fun z26 c26 => ?_)
                           cases z26 with
                           | r0 =>
                            refine Zd (fun z27 c27 => ?_)
                            cases z27 with
                            | r0 =>
                             refine Zd (fun z28 c28 => ?_)
                             cases z28 with
                             | r0 =>
                              refine Zd (fun z29 c29 => ?_)
                              cases z29 with
                              | r0 =>
                               refine Zd (fun z30 c30 => ?_)
                               cases z30 with
                               | r0 =>
                                refine Zd (fun z31 c31 => ?_)
                                cases z31 with
                                | r0 =>
                                 refine Zd (fun z32 c32 => ?_)
                                 cases z32 with
                                 | r0 =>
                                  refine Zd (fun z33 c33 => ?_)
                                  cases z33 with
                                  | r0 =>
                                   refine Zd (fun z34 c34 => ?_)
                                   cases z34 with
                                   | r0 =>
                                    refine Zd (fun z35 c35 => ?_)
                                    cases z35 with
                                    | r0 =>
                                     refine Zd (fun z36 c36 => ?_)
                                     cases z36 with
                                     | r0 =>
                                      refine Zd (fun z37 c37 => ?_)
                                      cases z37 with
                                      | r0 =>
                                       refine Zd (fun z38 c38 => ?_)
                                       cases z38 with
                                       | r0 =>
                                        refine Zd (fun z39 c39 => ?_)
                                        cases z39 with
                                        | r0 =>
                                         refine Zd (fun z40 c40 => ?_)
                                         cases z40 with
                                         | r0 =>
                                          refine Zd (fun z41 c41 => ?_)
                                          cases z41 with
                                          | r0 =>
                                           refine Zd (fun z42 c42 => ?_)
                                           cases z42 with
                                           | r0 =>
                                            refine Zd (fun z43 c43 => ?_)
                                            cases z43 with
                                            | r0 =>
                                             refine Zd (fun z44 c44 => ?_)
                                             cases z44 with
                                             | r0 =>
                                              refine Zd (fun z45 c45 => ?_)
                                              cases z45 with
                                              | r0 =>
                                               refine Zd (fun z46 c46 => ?_)
                                               cases z46 with
                                               | r0 =>
                                                refine Zd (fun z47 c47 => ?_)
                                                cases z47 with
                                                | r0 =>
                                                 refine Zd (fun z48 c48 => ?_)
                                                 cases z48 with
                                                 | r0 =>
                                                  refine Zd (fun z49 c49 => ?_)
                                                  cases z49 with
                                                  | r0 =>
                                                   refine Zd (fun z50 c50 => ?_)
                                                   cases z50 with
                                                   | r0 =>
                                                    refine Zd (fun z51 c51 => ?_)
                                                    cases z51 with
                                                    | r0 =>
                                                     refine Zd (fun z52 c52 => ?_)
                                                     cases z52 with
                                                     | r0 =>
                                                      refine Zd (fun z53 c53 => ?_)
                                                      cases z53 with
                                                      | r0 =>
                                                       refine Zd (fun z54 c54 => ?_)
                                                       cases z54 with
                                                       | r0 =>
                                                        refine Zd (fun z55 c55 => ?_)
                                                        cases z55 with
                                                        | r0 =>
                                                         refine Zd (fun z56 c56 => ?_)
                                                         cases z56 with
                                                         | r0 =>
                                                          refine Zd (fun z57 c57 => ?_)
                                                          cases z57 with
                                                          | r0 =>
                                                           refine Zd (fun z58 c58 => ?_)
                                                           cases z58 with
                                                           | r0 =>
                                                            refine Zd (fun z59 c59 => ?_)
                                                            cases z59 with
                                                            | r0 =>
                                                             refine Zd (fun z60 c60 => ?_)
                                                             cases z60 with
                                                             | r0 =>
                                                              refine Zd (fun z61 c61 => ?_)
                                                              cases z61 with
                                                              | r0 =>
                                                               refine Zd (fun z62 c62 => ?_)
                                                               cases z62 with
                                                               | r0 =>
                                                                refine Zd (fun z63 c63 => ?_)
                                                                cases z63 with
                                                                | r0 =>
                                                                 refine Zd (fun z64 c64 => ?_)
                                                                 cases z64 with
                                                                 | r0 =>
                                                                  refine Zd (fun z65 c65 => ?_)
                                                                  cases z65 with
                                                                  | r0 =>
                                                                   exact Zh Zi (r := (.r0 : ZB)) (fu := 4000) (orc := (Zl [(0, true), (1, true), (3, true), (4, true)] [] [] [] [(4, (Zs     3)), (8, (ZX (a1)    7)), (12, (Zu     11)), (16, (Z2 (a0)    15)), (20, (Zcg     19)), (24, (Zay     23)), (28, (Zci     27)), (32, (Zck     31)), (36, (ZC     35)), (40, (Zak     39)), (44, (ZbG     43)), (48, (Zam     47)), (52, (ZbI     51)), (56, (ZG     55)), (60, (ZI     59)), (64, (Z5     63)), (68, (Z7     67)), (72, (ZbK     71)), (76, (ZC     75)), (80, (Zao     79)), (84, (ZbM     83)), (88, (ZG     87)), (92, (ZI     91)), (96, (Z5     95)), (100, (Z7     99)), (104, (ZbO     103)), (108, (ZC     107)), (112, (Z5     111)), (116, (Z7     115)), (120, (ZdE (a0)    119)), (124, (ZO     123)), (127, (Zs     128)), (131, (ZX (a1)    134)), (135, (Zu     140)), (139, (Z2 (a0)    146)), (143, (Zcg     152)), (148, (Zay     158)), (152, (Zci     164)), (156, (Zck     170)), (161, (ZC     176)), (166, (Zak     182)), (170, (ZbG     188)), (175, (Zam     194)), (179, (ZbI     200)), (184, (ZG     206)), (188, (ZI     212)), (193, (Z5     218)), (197, (Z7     224)), (201, (ZbK     230)), (205, (ZC     236)), (210, (Zao     242)), (214, (ZbM     248)), (219, (ZG     254)), (223, (ZI     260)), (228, (Z5     266)), (232, (Z7     272)), (236, (ZbO     278)), (240, (ZC     284)), (245, (Z5     290)), (249, (Z7     296)), (253, (ZdE (a0)    302)), (257, (ZO     308))])) (live := [311]) (u := Value.tuple #[vs 311 0 31 31, vq]) (bl := [some (.cells [vi (10 : Int), vq, vq, vq, vi (1 : Int), vi (1 : Int), vi a1, vq, vi (15 : Int), vq, vq, vq, vi (13 : Int), vi (2 : Int), vq, vi a0, vi (9 : Int), vi (2 : Int), vi (27 : Int), vq, vi (13 : Int), vi (3 : Int), vi (2 : Int), vi (2 : Int), vi (7 : Int), vi (4 : Int), vi (1 : Int), vi (3 : Int), vi (9 : Int), vi (4 : Int), vi (9 : Int), vq, vi (8 : Int), vi (30 : Int), vq, vq, vi (6 : Int), vi (4 : Int), vi (1 : Int), vi (3 : Int), vi (9 : Int), vi (4 : Int), vi (19 : Int), vq, vi (13 : Int), vi (5 : Int), vi (2 : Int), vq, vi (9 : Int), vi (5 : Int), vi (15 : Int), vq, vi (3 : Int), vi (2 : Int), vi (5 : Int), vq, vi (8 : Int), vi (5 : Int), vq, vq, vi (11 : Int), vi (6 : Int), vi (3 : Int), vi (3 : Int), vi (14 : Int), vi (6 : Int), vi (2 : Int), vi (1 : Int), vi (14 : Int), vi (2 : Int), vq, vi (6 : Int), vi (8 : Int), vi (30 : Int), vq, vq, vi (13 : Int), vi (5 : Int), vi (2 : Int), vi (1 : Int), vi (9 : Int), vi (5 : Int), vi (23 : Int), vq, vi (3 : Int), vi (2 : Int), vi (5 : Int), vq, vi (8 : Int), vi (5 : Int), vq, vq, vi (11 : Int), vi (6 : Int), vi (3 : Int), vi (3 : Int), vi (14 : Int), vi (6 : Int), vi (2 : Int), vi (1 : Int), vi (14 : Int), vi (2 : Int), vi (1 : Int), vi (6 : Int), vi (8 : Int), vi (30 : Int), vq, vq, vi (11 : Int), vi (6 : Int), vi (3 : Int), vi (3 : Int), vi (14 : Int), vi (6 : Int), vi (2 : Int), vi (1 : Int), vi (14 : Int), vq, vi a0, vi (6 : Int), vi (17 : Int), vq, vq, vq] 42)]) (ob := [(dP (ZK #[Value.agg #[vi (17 : Int), vq, vq, vq]]     308), true), (dP (Zcs #[Value.agg #[vi (14 : Int), vq, vi a0, vi (6 : Int)]] (a0)    302), true), (dP (Z1 #[Value.agg #[vi (14 : Int), vi (6 : Int), vi (2 : Int), vi (1 : Int)]]     296), true), (dP (Z0 #[Value.agg #[vi (11 : Int), vi (6 : Int), vi (3 : Int), vi (3 : Int)]]     290), true), (dP (Z9 #[Value.agg #[vi (8 : Int), vi (30 : Int), vq, vq]]     284), true), (dP (Zbk #[Value.agg #[vi (14 : Int), vi (2 : Int), vi (1 : Int), vi (6 : Int)]]     278), true), (dP (Z1 #[Value.agg #[vi (14 : Int), vi (6 : Int), vi (2 : Int), vi (1 : Int)]]     272), true), (dP (Z0 #[Value.agg #[vi (11 : Int), vi (6 : Int), vi (3 : Int), vi (3 : Int)]]     266), true), (dP (ZF #[Value.agg #[vi (8 : Int), vi (5 : Int), vq, vq]]     260), true), (dP (ZE #[Value.agg #[vi (3 : Int), vi (2 : Int), vi (5 : Int), vq]]     254), true), (dP (Zbj #[Value.agg #[vi (9 : Int), vi (5 : Int), vi (23 : Int), vq]]     248), true), (dP (Zad #[Value.agg #[vi (13 : Int), vi (5 : Int), vi (2 : Int), vi (1 : Int)]]     242), true), (dP (Z9 #[Value.agg #[vi (8 : Int), vi (30 : Int), vq, vq]]     236), true), (dP (Zbi #[Value.agg #[vi (14 : Int), vi (2 : Int), vq, vi (6 : Int)]]     230), true), (dP (Z1 #[Value.agg #[vi (14 : Int), vi (6 : Int), vi (2 : Int), vi (1 : Int)]]     224), true), (dP (Z0 #[Value.agg #[vi (11 : Int), vi (6 : Int), vi (3 : Int), vi (3 : Int)]]     218), true), (dP (ZF #[Value.agg #[vi (8 : Int), vi (5 : Int), vq, vq]]     212), true), (dP (ZE #[Value.agg #[vi (3 : Int), vi (2 : Int), vi (5 : Int), vq]]     206), true), (dP (Zbh #[Value.agg #[vi (9 : Int), vi (5 : Int), vi (15 : Int), vq]]     200), true), (dP (Zac #[Value.agg #[vi (13 : Int), vi (5 : Int), vi (2 : Int), vq]]     194), true), (dP (Zbg #[Value.agg #[vi (9 : Int), vi (4 : Int), vi (19 : Int), vq]]     188), true), (dP (Zab #[Value.agg #[vi (6 : Int), vi (4 : Int), vi (1 : Int), vi (3 : Int)]]     182), true), (dP (Z9 #[Value.agg #[vi (8 : Int), vi (30 : Int), vq, vq]]     176), true), (dP (Zbz #[Value.agg #[vi (9 : Int), vi (4 : Int), vi (9 : Int), vq]]     170), true), (dP (Zby #[Value.agg #[vi (7 : Int), vi (4 : Int), vi (1 : Int), vi (3 : Int)]]     164), true), (dP (Zai #[Value.agg #[vi (13 : Int), vi (3 : Int), vi (2 : Int), vi (2 : Int)]]     158), true), (dP (Zbx #[Value.agg #[vi (9 : Int), vi (2 : Int), vi (27 : Int), vq]]     152), true), (dP (Zz #[Value.agg #[vi (13 : Int), vi (2 : Int), vq, vi a0]] (a0)    146), true), (dP (Zq #[Value.agg #[vi (15 : Int), vq, vq, vq]]     140), true), (dP (ZU #[Value.agg #[vi (1 : Int), vi (1 : Int), vi a1, vq]] (a1)    134), true), (dP (Zr #[Value.agg #[vi (10 : Int), vq, vq, vq]]     128), true), (dP (ZK #[Value.agg #[vi (17 : Int), vq, vq, vq]]     123), true), (dP (Zcs #[Value.agg #[vi (14 : Int), vq, vi a0, vi (6 : Int)]] (a0)    119), true), (dP (Z1 #[Value.agg #[vi (14 : Int), vi (6 : Int), vi (2 : Int), vi (1 : Int)]]     115), true), (dP (Z0 #[Value.agg #[vi (11 : Int), vi (6 : Int), vi (3 : Int), vi (3 : Int)]]     111), true), (dP (Z9 #[Value.agg #[vi (8 : Int), vi (30 : Int), vq, vq]]     107), true), (dP (Zbk #[Value.agg #[vi (14 : Int), vi (2 : Int), vi (1 : Int), vi (6 : Int)]]     103), true), (dP (Z1 #[Value.agg #[vi (14 : Int), vi (6 : Int), vi (2 : Int), vi (1 : Int)]]     99), true), (dP (Z0 #[Value.agg #[vi (11 : Int), vi (6 : Int), vi (3 : Int), vi (3 : Int)]]     95), true), (dP (ZF #[Value.agg #[vi (8 : Int), vi (5 : Int), vq, vq]]     91), true), (dP (ZE #[Value.agg #[vi (3 : Int), vi (2 : Int), vi (5 : Int), vq]]     87), true), (dP (Zbj #[Value.agg #[vi (9 : Int), vi (5 : Int), vi (23 : Int), vq]]     83), true), (dP (Zad #[Value.agg #[vi (13 : Int), vi (5 : Int), vi (2 : Int), vi (1 : Int)]]     79), true), (dP (Z9 #[Value.agg #[vi (8 : Int), vi (30 : Int), vq, vq]]     75), true), (dP (Zbi #[Value.agg #[vi (14 : Int), vi (2 : Int), vq, vi (6 : Int)]]     71), true), (dP (Z1 #[Value.agg #[vi (14 : Int), vi (6 : Int), vi (2 : Int), vi (1 : Int)]]     67), true), (dP (Z0 #[Value.agg #[vi (11 : Int), vi (6 : Int), vi (3 : Int), vi (3 : Int)]]     63), true), (dP (ZF #[Value.agg #[vi (8 : Int), vi (5 : Int), vq, vq]]     59), true), (dP (ZE #[Value.agg #[vi (3 : Int), vi (2 : Int), vi (5 : Int), vq]]     55), true), (dP (Zbh #[Value.agg #[vi (9 : Int), vi (5 : Int), vi (15 : Int), vq]]     51), true), (dP (Zac #[Value.agg #[vi (13 : Int), vi (5 : Int), vi (2 : Int), vq]]     47), true), (dP (Zbg #[Value.agg #[vi (9 : Int), vi (4 : Int), vi (19 : Int), vq]]     43), true), (dP (Zab #[Value.agg #[vi (6 : Int), vi (4 : Int), vi (1 : Int), vi (3 : Int)]]     39), true), (dP (Z9 #[Value.agg #[vi (8 : Int), vi (30 : Int), vq, vq]]     35), true), (dP (Zbz #[Value.agg #[vi (9 : Int), vi (4 : Int), vi (9 : Int), vq]]     31), true), (dP (Zby #[Value.agg #[vi (7 : Int), vi (4 : Int), vi (1 : Int), vi (3 : Int)]]     27), true), (dP (Zai #[Value.agg #[vi (13 : Int), vi (3 : Int), vi (2 : Int), vi (2 : Int)]]     23), true), (dP (Zbx #[Value.agg #[vi (9 : Int), vi (2 : Int), vi (27 : Int), vq]]     19), true), (dP (Zz #[Value.agg #[vi (13 : Int), vi (2 : Int), vq, vi a0]] (a0)    15), true), (dP (Zq #[Value.agg #[vi (15 : Int), vq, vq, vq]]     11), true), (dP (ZU #[Value.agg #[vi (1 : Int), vi (1 : Int), vi a1, vq]] (a1)    7), true), (dP (Zr #[Value.agg #[vi (10 : Int), vq, vq, vq]]     3), true), ((decide (a1 ≤ (1099511627776 : Int))), true), ((decide (a1 ≥ (-1099511627776 : Int))), true), ((decide (a0 ≤ (7 : Int))), true), ((decide (a0 ≥ (0 : Int))), true)]) (by kernel_rfl) (Zb (Zc (ZP #[Value.agg #[vi (17 : Int), vq, vq, vq]]    N c65  308 rfl (by decide) (by decide))) <| Zb (Zc (ZdF #[Value.agg #[vi (14 : Int), vq, vi a0, vi (6 : Int)]] (a0)   N c64  302 rfl (by decide) (by decide))) <| Zb (Zc (Z8 #[Value.agg #[vi (14 : Int), vi (6 : Int), vi (2 : Int), vi (1 : Int)]]    N c63  296 rfl (by decide) (by decide))) <| Zb (Zc (Z6 #[Value.agg #[vi (11 : Int), vi (6 : Int), vi (3 : Int), vi (3 : Int)]]    N c62  290 rfl (by decide) (by decide))) <| Zb (Zc (ZD #[Value.agg #[vi (8 : Int), vi (30 : Int), vq, vq]]    N c61  284 rfl (by decide) (by decide))) <| Zb (Zc (ZbP #[Value.agg #[vi (14 : Int), vi (2 : Int), vi (1 : Int), vi (6 : Int)]]    N c60  278 rfl (by decide) (by decide))) <| Zb (Zc (Z8 #[Value.agg #[vi (14 : Int), vi (6 : Int), vi (2 : Int), vi (1 : Int)]]    N c59  272 rfl (by decide) (by decide))) <| Zb (Zc (Z6 #[Value.agg #[vi (11 : Int), vi (6 : Int), vi (3 : Int), vi (3 : Int)]]    N c58  266 rfl (by decide) (by decide))) <| Zb (Zc (ZJ #[Value.agg #[vi (8 : Int), vi (5 : Int), vq, vq]]    N c57  260 rfl (by decide) (by decide))) <| Zb (Zc (ZH #[Value.agg #[vi (3 : Int), vi (2 : Int), vi (5 : Int), vq]]    N c56  254 rfl (by decide) (by decide))) <| Zb (Zc (ZbN #[Value.agg #[vi (9 : Int), vi (5 : Int), vi (23 : Int), vq]]    N c55  248 rfl (by decide) (by decide))) <| Zb (Zc (Zap #[Value.agg #[vi (13 : Int), vi (5 : Int), vi (2 : Int), vi (1 : Int)]]    N c54  242 rfl (by decide) (by decide))) <| Zb (Zc (ZD #[Value.agg #[vi (8 : Int), vi (30 : Int), vq, vq]]    N c53  236 rfl (by decide) (by decide))) <| Zb (Zc (ZbL #[Value.agg #[vi (14 : Int), vi (2 : Int), vq, vi (6 : Int)]]    N c52  230 rfl (by decide) (by decide))) <| Zb (Zc (Z8 #[Value.agg #[vi (14 : Int), vi (6 : Int), vi (2 : Int), vi (1 : Int)]]    N c51  224 rfl (by decide) (by decide))) <| Zb (Zc (Z6 #[Value.agg #[vi (11 : Int), vi (6 : Int), vi (3 : Int), vi (3 : Int)]]    N c50  218 rfl (by decide) (by decide))) <| Zb (Zc (ZJ #[Value.agg #[vi (8 : Int), vi (5 : Int), vq, vq]]    N c49  212 rfl (by decide) (by decide))) <| Zb (Zc (ZH #[Value.agg #[vi (3 : Int), vi (2 : Int), vi (5 : Int), vq]]    N c48  206 rfl (by decide) (by decide))) <| Zb (Zc (ZbJ #[Value.agg #[vi (9 : Int), vi (5 : Int), vi (15 : Int), vq]]    N c47  200 rfl (by decide) (by decide))) <| Zb (Zc (Zan #[Value.agg #[vi (13 : Int), vi (5 : Int), vi (2 : Int), vq]]    N c46  194 rfl (by decide) (by decide))) <| Zb (Zc (ZbH #[Value.agg #[vi (9 : Int), vi (4 : Int), vi (19 : Int), vq]]    N c45  188 rfl (by decide) (by decide))) <| Zb (Zc (Zal #[Value.agg #[vi (6 : Int), vi (4 : Int), vi (1 : Int), vi (3 : Int)]]    N c44  182 rfl (by decide) (by decide))) <| Zb (Zc (ZD #[Value.agg #[vi (8 : Int), vi (30 : Int), vq, vq]]    N c43  176 rfl (by decide) (by decide))) <| Zb (Zc (Zcl #[Value.agg #[vi (9 : Int), vi (4 : Int), vi (9 : Int), vq]]    N c42  170 rfl (by decide) (by decide))) <| Zb (Zc (Zcj #[Value.agg #[vi (7 : Int), vi (4 : Int), vi (1 : Int), vi (3 : Int)]]    N c41  164 rfl (by decide) (by decide))) <| Zb (Zc (Zaz #[Value.agg #[vi (13 : Int), vi (3 : Int), vi (2 : Int), vi (2 : Int)]]    N c40  158 rfl (by decide) (by decide))) <| Zb (Zc (Zch #[Value.agg #[vi (9 : Int), vi (2 : Int), vi (27 : Int), vq]]    N c39  152 rfl (by decide) (by decide))) <| Zb (Zc (Z3 #[Value.agg #[vi (13 : Int), vi (2 : Int), vq, vi a0]] (a0)   N c38  146 rfl (by decide) (by decide))) <| Zb (Zc (Zv #[Value.agg #[vi (15 : Int), vq, vq, vq]]    N c37  140 rfl (by decide) (by decide))) <| Zb (Zc (ZY #[Value.agg #[vi (1 : Int), vi (1 : Int), vi a1, vq]] (a1)   N c36  134 rfl (by decide) (by decide))) <| Zb (Zc (Zt #[Value.agg #[vi (10 : Int), vq, vq, vq]]    N c35  128 rfl (by decide) (by decide))) <| Zb (Zc (ZP #[Value.agg #[vi (17 : Int), vq, vq, vq]]    N c34  123 rfl (by decide) (by decide))) <| Zb (Zc (ZdF #[Value.agg #[vi (14 : Int), vq, vi a0, vi (6 : Int)]] (a0)   N c33  119 rfl (by decide) (by decide))) <| Zb (Zc (Z8 #[Value.agg #[vi (14 : Int), vi (6 : Int), vi (2 : Int), vi (1 : Int)]]    N c32  115 rfl (by decide) (by decide))) <| Zb (Zc (Z6 #[Value.agg #[vi (11 : Int), vi (6 : Int), vi (3 : Int), vi (3 : Int)]]    N c31  111 rfl (by decide) (by decide))) <| Zb (Zc (ZD #[Value.agg #[vi (8 : Int), vi (30 : Int), vq, vq]]    N c30  107 rfl (by decide) (by decide))) <| Zb (Zc (ZbP #[Value.agg #[vi (14 : Int), vi (2 : Int), vi (1 : Int), vi (6 : Int)]]    N c29  103 rfl (by decide) (by decide))) <| Zb (Zc (Z8 #[Value.agg #[vi (14 : Int), vi (6 : Int), vi (2 : Int), vi (1 : Int)]]    N c28  99 rfl (by decide) (by decide))) <| Zb (Zc (Z6 #[Value.agg #[vi (11 : Int), vi (6 : Int), vi (3 : Int), vi (3 : Int)]]    N c27  95 rfl (by decide) (by decide))) <| Zb (Zc (ZJ #[Value.agg #[vi (8 : Int), vi (5 : Int), vq, vq]]    N c26  91 rfl (by decide) (by decide))) <| Zb (Zc (ZH #[Value.agg #[vi (3 : Int), vi (2 : Int), vi (5 : Int), vq]]    N c25  87 rfl (by decide) (by decide))) <| Zb (Zc (ZbN #[Value.agg #[vi (9 : Int), vi (5 : Int), vi (23 : Int), vq]]    N c24  83 rfl (by decide) (by decide))) <| Zb (Zc (Zap #[Value.agg #[vi (13 : Int), vi (5 : Int), vi (2 : Int), vi (1 : Int)]]    N c23  79 rfl (by decide) (by decide))) <| Zb (Zc (ZD #[Value.agg #[vi (8 : Int), vi (30 : Int), vq, vq]]    N c22  75 rfl (by decide) (by decide))) <| Zb (Zc (ZbL #[Value.agg #[vi (14 : Int), vi (2 : Int), vq, vi (6 : Int)]]    N c21  71 rfl (by decide) (by decide))) <| Zb (Zc (Z8 #[Value.agg #[vi (14 : Int), vi (6 : Int), vi (2 : Int), vi (1 : Int)]]    N c20  67 rfl (by decide) (by decide))) <| Zb (Zc (Z6 #[Value.agg #[vi (11 : Int), vi (6 : Int), vi (3 : Int), vi (3 : Int)]]    N c19  63 rfl (by decide) (by decide))) <| Zb (Zc (ZJ #[Value.agg #[vi (8 : Int), vi (5 : Int), vq, vq]]    N c18  59 rfl (by decide) (by decide))) <| Zb (Zc (ZH #[Value.agg #[vi (3 : Int), vi (2 : Int), vi (5 : Int), vq]]    N c17  55 rfl (by decide) (by decide))) <| Zb (Zc (ZbJ #[Value.agg #[vi (9 : Int), vi (5 : Int), vi (15 : Int), vq]]    N c16  51 rfl (by decide) (by decide))) <| Zb (Zc (Zan #[Value.agg #[vi (13 : Int), vi (5 : Int), vi (2 : Int), vq]]    N c15  47 rfl (by decide) (by decide))) <| Zb (Zc (ZbH #[Value.agg #[vi (9 : Int), vi (4 : Int), vi (19 : Int), vq]]    N c14  43 rfl (by decide) (by decide))) <| Zb (Zc (Zal #[Value.agg #[vi (6 : Int), vi (4 : Int), vi (1 : Int), vi (3 : Int)]]    N c13  39 rfl (by decide) (by decide))) <| Zb (Zc (ZD #[Value.agg #[vi (8 : Int), vi (30 : Int), vq, vq]]    N c12  35 rfl (by decide) (by decide))) <| Zb (Zc (Zcl #[Value.agg #[vi (9 : Int), vi (4 : Int), vi (9 : Int), vq]]    N c11  31 rfl (by decide) (by decide))) <| Zb (Zc (Zcj #[Value.agg #[vi (7 : Int), vi (4 : Int), vi (1 : Int), vi (3 : Int)]]    N c10  27 rfl (by decide) (by decide))) <| Zb (Zc (Zaz #[Value.agg #[vi (13 : Int), vi (3 : Int), vi (2 : Int), vi (2 : Int)]]    N c9  23 rfl (by decide) (by decide))) <| Zb (Zc (Zch #[Value.agg #[vi (9 : Int), vi (2 : Int), vi (27 : Int), vq]]    N c8  19 rfl (by decide) (by decide))) <| Zb (Zc (Z3 #[Value.agg #[vi (13 : Int), vi (2 : Int), vq, vi a0]] (a0)   N c7  15 rfl (by decide) (by decide))) <| Zb (Zc (Zv #[Value.agg #[vi (15 : Int), vq, vq, vq]]    N c6  11 rfl (by decide) (by decide))) <| Zb (Zc (ZY #[Value.agg #[vi (1 : Int), vi (1 : Int), vi a1, vq]] (a1)   N c5  7 rfl (by decide) (by decide))) <| Zb (Zc (Zt #[Value.agg #[vi (10 : Int), vq, vq, vq]]    N c4  3 rfl (by decide) (by decide))) <| oY <| oY <| oY <| oY Zf) rfl (by decide) (by rfl) rr ⟨⟨rfl, ⟨[], by rfl⟩, by rfl⟩, trivial⟩ (Zg _ rfl)
                                                                 | r1 =>
                                                                  exact Zh Zi (r := (.r1 : ZB)) (fu := 4000) (orc := (Zl [(0, true), (1, true), (3, true), (4, true)] [] [] [] [(4, (Zs     3)), (8, (ZX (a1)    7)), (12, (Zu     11)), (16, (Z2 (a0)    15)), (20, (Zcg     19)), (24, (Zay     23)), (28, (Zci     27)), (32, (Zck     31)), (36, (ZC     35)), (40, (Zak     39)), (44, (ZbG     43)), (48, (Zam     47)), (52, (ZbI     51)), (56, (ZG     55)), (60, (ZI     59)), (64, (Z5     63)), (68, (Z7     67)), (72, (ZbK     71)), (76, (ZC     75)), (80, (Zao     79)), (84, (ZbM     83)), (88, (ZG     87)), (92, (ZI     91)), (96, (Z5     95)), (100, (Z7     99)), (104, (ZbO     103)), (108, (ZC     107)), (112, (Z5     111)), (116, (Z7     115)), (120, (ZdE (a0)    119)), (124, (ZO     123)), (127, (Zs     128)), (131, (ZX (a1)    134)), (135, (Zu     140)), (139, (Z2 (a0)    146)), (143, (Zcg     152)), (148, (Zay     158)), (152, (Zci     164)), (156, (Zck     170)), (161, (ZC     176)), (166, (Zak     182)), (170, (ZbG     188)), (175, (Zam     194)), (179, (ZbI     200)), (184, (ZG     206)), (188, (ZI     212)), (193, (Z5     218)), (197, (Z7     224)), (201, (ZbK     230)), (205, (ZC     236)), (210, (Zao     242)), (214, (ZbM     248)), (219, (ZG     254)), (223, (ZI     260)), (228, (Z5     266)), (232, (Z7     272)), (236, (ZbO     278)), (240, (ZC     284)), (245, (Z5     290)), (249, (Z7     296)), (253, (Zji (a0)    302))])) (live := []) (u := Value.tuple #[vn, vq]) (bl := []) (ob := [(dP (ZgF #[Value.agg #[vi (14 : Int), vq, vi a0, vi (6 : Int)]] (a0)    302), true), (dP (Z1 #[Value.agg #[vi (14 : Int), vi (6 : Int), vi (2 : Int), vi (1 : Int)]]     296), true), (dP (Z0 #[Value.agg #[vi (11 : Int), vi (6 : Int), vi (3 : Int), vi (3 : Int)]]     290), true), (dP (Z9 #[Value.agg #[vi (8 : Int), vi (30 : Int), vq, vq]]     284), true), (dP (Zbk #[Value.agg #[vi (14 : Int), vi (2 : Int), vi (1 : Int), vi (6 : Int)]]     278), true), (dP (Z1 #[Value.agg #[vi (14 : Int), vi (6 : Int), vi (2 : Int), vi (1 : Int)]]     272), true), (dP (Z0 #[Value.agg #[vi (11 : Int), vi (6 : Int), vi (3 : Int), vi (3 : Int)]]     266), true), (dP (ZF #[Value.agg #[vi (8 : Int), vi (5 : Int), vq, vq]]     260), true), (dP (ZE #[Value.agg #[vi (3 : Int), vi (2 : Int), vi (5 : Int), vq]]     254), true), (dP (Zbj #[Value.agg #[vi (9 : Int), vi (5 : Int), vi (23 : Int), vq]]     248), true), (dP (Zad #[Value.agg #[vi (13 : Int), vi (5 : Int), vi (2 : Int), vi (1 : Int)]]     242), true), (dP (Z9 #[Value.agg #[vi (8 : Int), vi (30 : Int), vq, vq]]     236), true), (dP (Zbi #[Value.agg #[vi (14 : Int), vi (2 : Int), vq, vi (6 : Int)]]     230), true), (dP (Z1 #[Value.agg #[vi (14 : Int), vi (6 : Int), vi (2 : Int), vi (1 : Int)]]     224), true), (dP (Z0 #[Value.agg #[vi (11 : Int), vi (6 : Int), vi (3 : Int), vi (3 : Int)]]     218), true), (dP (ZF #[Value.agg #[vi (8 : Int), vi (5 : Int), vq, vq]]     212), true), (dP (ZE #[Value.agg #[vi (3 : Int), vi (2 : Int), vi (5 : Int), vq]]     206), true), (dP (Zbh #[Value.agg #[vi (9 : Int), vi (5 : Int), vi (15 : Int), vq]]     200), true), (dP (Zac #[Value.agg #[vi (13 : Int), vi (5 : Int), vi (2 : Int), vq]]     194), true), (dP (Zbg #[Value.agg #[vi (9 : Int), vi (4 : Int), vi (19 : Int), vq]]     188), true), (dP (Zab #[Value.agg #[vi (6 : Int), vi (4 : Int), vi (1 : Int), vi (3 : Int)]]     182), true), (dP (Z9 #[Value.agg #[vi (8 : Int), vi (30 : Int), vq, vq]]     176), true), (dP (Zbz #[Value.agg #[vi (9 : Int), vi (4 : Int), vi (9 : Int), vq]]     170), true), (dP (Zby #[Value.agg #[vi (7 : Int), vi (4 : Int), vi (1 : Int), vi (3 : Int)]]     164), true), (dP (Zai #[Value.agg #[vi (13 : Int), vi (3 : Int), vi (2 : Int), vi (2 : Int)]]     158), true), (dP (Zbx #[Value.agg #[vi (9 : Int), vi (2 : Int), vi (27 : Int), vq]]     152), true), (dP (Zz #[Value.agg #[vi (13 : Int), vi (2 : Int), vq, vi a0]] (a0)    146), true), (dP (Zq #[Value.agg #[vi (15 : Int), vq, vq, vq]]     140), true), (dP (ZU #[Value.agg #[vi (1 : Int), vi (1 : Int), vi a1, vq]] (a1)    134), true), (dP (Zr #[Value.agg #[vi (10 : Int), vq, vq, vq]]     128), true), (dP (ZK #[Value.agg #[vi (17 : Int), vq, vq, vq]]     123), true), (dP (Zcs #[Value.agg #[vi (14 : Int), vq, vi a0, vi (6 : Int)]] (a0)    119), true), (dP (Z1 #[Value.agg #[vi (14 : Int), vi (6 : Int), vi (2 : Int), vi (1 : Int)]]     115), true), (dP (Z0 #[Value.agg #[vi (11 : Int), vi (6 : Int), vi (3 : Int), vi (3 : Int)]]     111), true), (dP (Z9 #[Value.agg #[vi (8 : Int), vi (30 : Int), vq, vq]]     107), true), (dP (Zbk #[Value.agg #[vi (14 : Int), vi (2 : Int), vi (1 : Int), vi (6 : Int)]]     103), true), (dP (Z1 #[Value.agg #[vi (14 : Int), vi (6 : Int), vi (2 : Int), vi (1 : Int)]]     99), true), (dP (Z0 #[Value.agg #[vi (11 : Int), vi (6 : Int), vi (3 : Int), vi (3 : Int)]]     95), true), (dP (ZF #[Value.agg #[vi (8 : Int), vi (5 : Int), vq, vq]]     91), true), (dP (ZE #[Value.agg #[vi (3 : Int), vi (2 : Int), vi (5 : Int), vq]]     87), true), (dP (Zbj #[Value.agg #[vi (9 : Int), vi (5 : Int), vi (23 : Int), vq]]     83), true), (dP (Zad #[Value.agg #[vi (13 : Int), vi (5 : Int), vi (2 : Int), vi (1 : Int)]]     79), true), (dP (Z9 #[Value.agg #[vi (8 : Int), vi (30 : Int), vq, vq]]     75), true), (dP (Zbi #[Value.agg #[vi (14 : Int), vi (2 : Int), vq, vi (6 : Int)]]     71), true), (dP (Z1 #[Value.agg #[vi (14 : Int), vi (6 : Int), vi (2 : Int), vi (1 : Int)]]     67), true), (dP (Z0 #[Value.agg #[vi (11 : Int), vi (6 : Int), vi (3 : Int), vi (3 : Int)]]     63), true), (dP (ZF #[Value.agg #[vi (8 : Int), vi (5 : Int), vq, vq]]     59), true), (dP (ZE #[Value.agg #[vi (3 : Int), vi (2 : Int), vi (5 : Int), vq]]     55), true), (dP (Zbh #[Value.agg #[vi (9 : Int), vi (5 : Int), vi (15 : Int), vq]]     51), true), (dP (Zac #[Value.agg #[vi (13 : Int), vi (5 : Int), vi (2 : Int), vq]]     47), true), (dP (Zbg #[Value.agg #[vi (9 : Int), vi (4 : Int), vi (19 : Int), vq]]     43), true), (dP (Zab #[Value.agg #[vi (6 : Int), vi (4 : Int), vi (1 : Int), vi (3 : Int)]]     39), true), (dP (Z9 #[Value.agg #[vi (8 : Int), vi (30 : Int), vq, vq]]     35), true), (dP (Zbz #[Value.agg #[vi (9 : Int), vi (4 : Int), vi (9 : Int), vq]]     31), true), (dP (Zby #[Value.agg #[vi (7 : Int), vi (4 : Int), vi (1 : Int), vi (3 : Int)]]     27), true), (dP (Zai #[Value.agg #[vi (13 : Int), vi (3 : Int), vi (2 : Int), vi (2 : Int)]]     23), true), (dP (Zbx #[Value.agg #[vi (9 : Int), vi (2 : Int), vi (27 : Int), vq]]     19), true), (dP (Zz #[Value.agg #[vi (13 : Int), vi (2 : Int), vq, vi a0]] (a0)    15), true), (dP (Zq #[Value.agg #[vi (15 : Int), vq, vq, vq]]     11), true), (dP (ZU #[Value.agg #[vi (1 : Int), vi (1 : Int), vi a1, vq]] (a1)    7), true), (dP (Zr #[Value.agg #[vi (10 : Int), vq, vq, vq]]     3), true), ((decide (a1 ≤ (1099511627776 : Int))), true), ((decide (a1 ≥ (-1099511627776 : Int))), true), ((decide (a0 ≤ (7 : Int))), true), ((decide (a0 ≥ (0 : Int))), true)]) (by kernel_rfl) (Zb (Zc (Zjj #[Value.agg #[vi (14 : Int), vq, vi a0, vi (6 : Int)]] (a0)   N c64  302 rfl (by decide) (by decide))) <| Zb (Zc (Z8 #[Value.agg #[vi (14 : Int), vi (6 : Int), vi (2 : Int), vi (1 : Int)]]    N c63  296 rfl (by decide) (by decide))) <| Zb (Zc (Z6 #[Value.agg #[vi (11 : Int), vi (6 : Int), vi (3 : Int), vi (3 : Int)]]    N c62  290 rfl (by decide) (by decide))) <| Zb (Zc (ZD #[Value.agg #[vi (8 : Int), vi (30 : Int), vq, vq]]    N c61  284 rfl (by decide) (by decide))) <| Zb (Zc (ZbP #[Value.agg #[vi (14 : Int), vi (2 : Int), vi (1 : Int), vi (6 : Int)]]    N c60  278 rfl (by decide) (by decide))) <| Zb (Zc (Z8 #[Value.agg #[vi (14 : Int), vi (6 : Int), vi (2 : Int), vi (1 : Int)]]    N c59  272 rfl (by decide) (by decide))) <| Zb (Zc (Z6 #[Value.agg #[vi (11 : Int), vi (6 : Int), vi (3 : Int), vi (3 : Int)]]    N c58  266 rfl (by decide) (by decide))) <| Zb (Zc (ZJ #[Value.agg #[vi (8 : Int), vi (5 : Int), vq, vq]]    N c57  260 rfl (by decide) (by decide))) <| Zb (Zc (ZH #[Value.agg #[vi (3 : Int), vi (2 : Int), vi (5 : Int), vq]]    N c56  254 rfl (by decide) (by decide))) <| Zb (Zc (ZbN #[Value.agg #[vi (9 : Int), vi (5 : Int), vi (23 : Int), vq]]    N c55  248 rfl (by decide) (by decide))) <| Zb (Zc (Zap #[Value.agg #[vi (13 : Int), vi (5 : Int), vi (2 : Int), vi (1 : Int)]]    N c54  242 rfl (by decide) (by decide))) <| Zb (Zc (ZD #[Value.agg #[vi (8 : Int), vi (30 : Int), vq, vq]]    N c53  236 rfl (by decide) (by decide))) <| Zb (Zc (ZbL #[Value.agg #[vi (14 : Int), vi (2 : Int), vq, vi (6 : Int)]]    N c52  230 rfl (by decide) (by decide))) <| Zb (Zc (Z8 #[Value.agg #[vi (14 : Int), vi (6 : Int), vi (2 : Int), vi (1 : Int)]]    N c51  224 rfl (by decide) (by decide))) <| Zb (Zc (Z6 #[Value.agg #[vi (11 : Int), vi (6 : Int), vi (3 : Int), vi (3 : Int)]]    N c50  218 rfl (by decide) (by decide))) <| Zb (Zc (ZJ #[Value.agg #[vi (8 : Int), vi (5 : Int), vq, vq]]    N c49  212 rfl (by decide) (by decide))) <| Zb (Zc (ZH #[Value.agg #[vi (3 : Int), vi (2 : Int), vi (5 : Int), vq]]    N c48  206 rfl (by decide) (by decide))) <| Zb (Zc (ZbJ #[Value.agg #[vi (9 : Int), vi (5 : Int), vi (15 : Int), vq]]    N c47  200 rfl (by decide) (by decide))) <| Zb (Zc (Zan #[Value.agg #[vi (13 : Int), vi (5 : Int), vi (2 : Int), vq]]    N c46  194 rfl (by decide) (by decide))) <| Zb (Zc (ZbH #[Value.agg #[vi (9 : Int), vi (4 : Int), vi (19 : Int), vq]]    N c45  188 rfl (by decide) (by decide))) <| Zb (Zc (Zal #[Value.agg #[vi (6 : Int), vi (4 : Int), vi (1 : Int), vi (3 : Int)]]    N c44  182 rfl (by decide) (by decide))) <| Zb (Zc (ZD #[Value.agg #[vi (8 : Int), vi (30 : Int), vq, vq]]    N c43  176 rfl (by decide) (by decide))) <| Zb (Zc (Zcl #[Value.agg #[vi (9 : Int), vi (4 : Int), vi (9 : Int), vq]]    N c42  170 rfl (by decide) (by decide))) <| Zb (Zc (Zcj #[Value.agg #[vi (7 : Int), vi (4 : Int), vi (1 : Int), vi (3 : Int)]]    N c41  164 rfl (by decide) (by decide))) <| Zb (Zc (Zaz #[Value.agg #[vi (13 : Int), vi (3 : Int), vi (2 : Int), vi (2 : Int)]]    N c40  158 rfl (by decide) (by decide))) <| Zb (Zc (Zch #[Value.agg #[vi (9 : Int), vi (2 : Int), vi (27 : Int), vq]]    N c39  152 rfl (by decide) (by decide))) <| Zb (Zc (Z3 #[Value.agg #[vi (13 : Int), vi (2 : Int), vq, vi a0]] (a0)   N c38  146 rfl (by decide) (by decide))) <| Zb (Zc (Zv #[Value.agg #[vi (15 : Int), vq, vq, vq]]    N c37  140 rfl (by decide) (by decide))) <| Zb (Zc (ZY #[Value.agg #[vi (1 : Int), vi (1 : Int), vi a1, vq]] (a1)   N c36  134 rfl (by decide) (by decide))) <| Zb (Zc (Zt #[Value.agg #[vi (10 : Int), vq, vq, vq]]    N c35  128 rfl (by decide) (by decide))) <| Zb (Zc (ZP #[Value.agg #[vi (17 : Int), vq, vq, vq]]    N c34  123 rfl (by decide) (by decide))) <| Zb (Zc (ZdF #[Value.agg #[vi (14 : Int), vq, vi a0, vi (6 : Int)]] (a0)   N c33  119 rfl (by decide) (by decide))) <| Zb (Zc (Z8 #[Value.agg #[vi (14 : Int), vi (6 : Int), vi (2 : Int), vi (1 : Int)]]    N c32  115 rfl (by decide) (by decide))) <| Zb (Zc (Z6 #[Value.agg #[vi (11 : Int), vi (6 : Int), vi (3 : Int), vi (3 : Int)]]    N c31  111 rfl (by decide) (by decide))) <| Zb (Zc (ZD #[Value.agg #[vi (8 : Int), vi (30 : Int), vq, vq]]    N c30  107 rfl (by decide) (by decide))) <| Zb (Zc (ZbP #[Value.agg #[vi (14 : Int), vi (2 : Int), vi (1 : Int), vi (6 : Int)]]    N c29  103 rfl (by decide) (by decide))) <| Zb (Zc (Z8 #[Value.agg #[vi (14 : Int), vi (6 : Int), vi (2 : Int), vi (1 : Int)]]    N c28  99 rfl (by decide) (by decide))) <| Zb (Zc (Z6 #[Value.agg #[vi (11 : Int), vi (6 : Int), vi (3 : Int), vi (3 : Int)]]    N c27  95 rfl (by decide) (by decide))) <| Zb (Zc (ZJ #[Value.agg #[vi (8 : Int), vi (5 : Int), vq, vq]]    N c26  91 rfl (by decide) (by decide))) <| Zb (Zc (ZH #[Value.agg #[vi (3 : Int), vi (2 : Int), vi (5 : Int), vq]]    N c25  87 rfl (by decide) (by decide))) <| Zb (Zc (ZbN #[Value.agg #[vi (9 : Int), vi (5 : Int), vi (23 : Int), vq]]    N c24  83 rfl (by decide) (by decide))) <| Zb (Zc (Zap #[Value.agg #[vi (13 : Int), vi (5 : Int), vi (2 : Int), vi (1 : Int)]]    N c23  79 rfl (by decide) (by decide))) <| Zb (Zc (ZD #[Value.agg #[vi (8 : Int), vi (30 : Int), vq, vq]]    N c22  75 rfl (by decide) (by decide))) <| Zb (Zc (ZbL #[Value.agg #[vi (14 : Int), vi (2 : Int), vq, vi (6 : Int)]]    N c21  71 rfl (by decide) (by decide))) <| Zb (Zc (Z8 #[Value.agg #[vi (14 : Int), vi (6 : Int), vi (2 : Int), vi (1 : Int)]]    N c20  67 rfl (by decide) (by decide))) <| Zb (Zc (Z6 #[Value.agg #[vi (11 : Int), vi (6 : Int), vi (3 : Int), vi (3 : Int)]]    N c19  63 rfl (by decide) (by decide))) <| Zb (Zc (ZJ #[Value.agg #[vi (8 : Int), vi (5 : Int), vq, vq]]    N c18  59 rfl (by decide) (by decide))) <| Zb (Zc (ZH #[Value.agg #[vi (3 : Int), vi (2 : Int), vi (5 : Int), vq]]    N c17  55 rfl (by decide) (by decide))) <| Zb (Zc (ZbJ #[Value.agg #[vi (9 : Int), vi (5 : Int), vi (15 : Int), vq]]    N c16  51 rfl (by decide) (by decide))) <| Zb (Zc (Zan #[Value.agg #[vi (13 : Int), vi (5 : Int), vi (2 : Int), vq]]    N c15  47 rfl (by decide) (by decide))) <| Zb (Zc (ZbH #[Value.agg #[vi (9 : Int), vi (4 : Int), vi (19 : Int), vq]]    N c14  43 rfl (by decide) (by decide))) <| Zb (Zc (Zal #[Value.agg #[vi (6 : Int), vi (4 : Int), vi (1 : Int), vi (3 : Int)]]    N c13  39 rfl (by decide) (by decide))) <| Zb (Zc (ZD #[Value.agg #[vi (8 : Int), vi (30 : Int), vq, vq]]    N c12  35 rfl (by decide) (by decide))) <| Zb (Zc (Zcl #[Value.agg #[vi (9 : Int), vi (4 : Int), vi (9 : Int), vq]]    N c11  31 rfl (by decide) (by decide))) <| Zb (Zc (Zcj #[Value.agg #[vi (7 : Int), vi (4 : Int), vi (1 : Int), vi (3 : Int)]]    N c10  27 rfl (by decide) (by decide))) <| Zb (Zc (Zaz #[Value.agg #[vi (13 : Int), vi (3 : Int), vi (2 : Int), vi (2 : Int)]]    N c9  23 rfl (by decide) (by decide))) <| Zb (Zc (Zch #[Value.agg #[vi (9 : Int), vi (2 : Int), vi (27 : Int), vq]]    N c8  19 rfl (by decide) (by decide))) <| Zb (Zc (Z3 #[Value.agg #[vi (13 : Int), vi (2 : Int), vq, vi a0]] (a0)   N c7  15 rfl (by decide) (by decide))) <| Zb (Zc (Zv #[Value.agg #[vi (15 : Int), vq, vq, vq]]    N c6  11 rfl (by decide) (by decide))) <| Zb (Zc (ZY #[Value.agg #[vi (1 : Int), vi (1 : Int), vi a1, vq]] (a1)   N c5  7 rfl (by decide) (by decide))) <| Zb (Zc (Zt #[Value.agg #[vi (10 : Int), vq, vq, vq]]    N c4  3 rfl (by decide) (by decide))) <| oY <| oY <| oY <| oY Zf) rfl (by decide) (by rfl) rr trivial (Zg _ rfl)
                                       | r1 =>
                                        exact Zh Zi (r := (.r1 : ZB)) (fu := 4000) (orc := (Zl [(0, true), (1, true), (3, true), (4, true)] [] [] [] [(4, (Zs     3)), (8, (ZX (a1)    7)), (12, (Zu     11)), (16, (Z2 (a0)    15)), (20, (Zcg     19)), (24, (Zay     23)), (28, (Zci     27)), (32, (Zck     31)), (36, (ZC     35)), (40, (Zak     39)), (44, (ZbG     43)), (48, (Zam     47)), (52, (ZbI     51)), (56, (ZG     55)), (60, (ZI     59)), (64, (Z5     63)), (68, (Z7     67)), (72, (ZbK     71)), (76, (ZC     75)), (80, (Zao     79)), (84, (ZbM     83)), (88, (ZG     87)), (92, (ZI     91)), (96, (Z5     95)), (100, (Z7     99)), (104, (ZbO     103)), (108, (ZC     107)), (112, (Z5     111)), (116, (Z7     115)), (120, (ZdE (a0)    119)), (124, (ZO     123)), (127, (Zs     128)), (131, (ZX (a1)    134)), (135, (Zu     140)), (139, (Zbv (a0)    146))])) (live := []) (u := Value.tuple #[vn, vq]) (bl := []) (ob := [(dP (ZaZ #[Value.agg #[vi (13 : Int), vi (2 : Int), vq, vi a0]] (a0)    146), true), (dP (Zq #[Value.agg #[vi (15 : Int), vq, vq, vq]]     140), true), (dP (ZU #[Value.agg #[vi (1 : Int), vi (1 : Int), vi a1, vq]] (a1)    134), true), (dP (Zr #[Value.agg #[vi (10 : Int), vq, vq, vq]]     128), true), (dP (ZK #[Value.agg #[vi (17 : Int), vq, vq, vq]]     123), true), (dP (Zcs #[Value.agg #[vi (14 : Int), vq, vi a0, vi (6 : Int)]] (a0)    119), true), (dP (Z1 #[Value.agg #[vi (14 : Int), vi (6 : Int), vi (2 : Int), vi (1 : Int)]]     115), true), (dP (Z0 #[Value.agg #[vi (11 : Int), vi (6 : Int), vi (3 : Int), vi (3 : Int)]]     111), true), (dP (Z9 #[Value.agg #[vi (8 : Int), vi (30 : Int), vq, vq]]     107), true), (dP (Zbk #[Value.agg #[vi (14 : Int), vi (2 : Int), vi (1 : Int), vi (6 : Int)]]     103), true), (dP (Z1 #[Value.agg #[vi (14 : Int), vi (6 : Int), vi (2 : Int), vi (1 : Int)]]     99), true), (dP (Z0 #[Value.agg #[vi (11 : Int), vi (6 : Int), vi (3 : Int), vi (3 : Int)]]     95), true), (dP (ZF #[Value.agg #[vi (8 : Int), vi (5 : Int), vq, vq]]     91), true), (dP (ZE #[Value.agg #[vi (3 : Int), vi (2 : Int), vi (5 : Int), vq]]     87), true), (dP (Zbj #[Value.agg #[vi (9 : Int), vi (5 : Int), vi (23 : Int), vq]]     83), true), (dP (Zad #[Value.agg #[vi (13 : Int), vi (5 : Int), vi (2 : Int), vi (1 : Int)]]     79), true), (dP (Z9 #[Value.agg #[vi (8 : Int), vi (30 : Int), vq, vq]]     75), true), (dP (Zbi #[Value.agg #[vi (14 : Int), vi (2 : Int), vq, vi (6 : Int)]]     71), true), (dP (Z1 #[Value.agg #[vi (14 : Int), vi (6 : Int), vi (2 : Int), vi (1 : Int)]]     67), true), (dP (Z0 #[Value.agg #[vi (11 : Int), vi (6 : Int), vi (3 : Int), vi (3 : Int)]]     63), true), (dP (ZF #[Value.agg #[vi (8 : Int), vi (5 : Int), vq, vq]]     59), true), (dP (ZE #[Value.agg #[vi (3 : Int), vi (2 : Int), vi (5 : Int), vq]]     55), true), (dP (Zbh #[Value.agg #[vi (9 : Int), vi (5 : Int), vi (15 : Int), vq]]     51), true), (dP (Zac #[Value.agg #[vi (13 : Int), vi (5 : Int), vi (2 : Int), vq]]     47), true), (dP (Zbg #[Value.agg #[vi (9 : Int), vi (4 : Int), vi (19 : Int), vq]]     43), true), (dP (Zab #[Value.agg #[vi (6 : Int), vi (4 : Int), vi (1 : Int), vi (3 : Int)]]     39), true), (dP (Z9 #[Value.agg #[vi (8 : Int), vi (30 : Int), vq, vq]]     35), true), (dP (Zbz #[Value.agg #[vi (9 : Int), vi (4 : Int), vi (9 : Int), vq]]     31), true), (dP (Zby #[Value.agg #[vi (7 : Int), vi (4 : Int), vi (1 : Int), vi (3 : Int)]]     27), true), (dP (Zai #[Value.agg #[vi (13 : Int), vi (3 : Int), vi (2 : Int), vi (2 : Int)]]     23), true), (dP (Zbx #[Value.agg #[vi (9 : Int), vi (2 : Int), vi (27 : Int), vq]]     19), true), (dP (Zz #[Value.agg #[vi (13 : Int), vi (2 : Int), vq, vi a0]] (a0)    15), true), (dP (Zq #[Value.agg #[vi (15 : Int), vq, vq, vq]]     11), true), (dP (ZU #[Value.agg #[vi (1 : Int), vi (1 : Int), vi a1, vq]] (a1)    7), true), (dP (Zr #[Value.agg #[vi (10 : Int), vq, vq, vq]]     3), true), ((decide (a1 ≤ (1099511627776 : Int))), true), ((decide (a1 ≥ (-1099511627776 : Int))), true), ((decide (a0 ≤ (7 : Int))), true), ((decide (a0 ≥ (0 : Int))), true)]) (by kernel_rfl) (Zb (Zc (Zbw #[Value.agg #[vi (13 : Int), vi (2 : Int), vq, vi a0]] (a0)   N c38  146 rfl (by decide) (by decide))) <| Zb (Zc (Zv #[Value.agg #[vi (15 : Int), vq, vq, vq]]    N c37  140 rfl (by decide) (by decide))) <| Zb (Zc (ZY #[Value.agg #[vi (1 : Int), vi (1 : Int), vi a1, vq]] (a1)   N c36  134 rfl (by decide) (by decide))) <| Zb (Zc (Zt #[Value.agg #[vi (10 : Int), vq, vq, vq]]    N c35  128 rfl (by decide) (by decide))) <| Zb (Zc (ZP #[Value.agg #[vi (17 : Int), vq, vq, vq]]    N c34  123 rfl (by decide) (by decide))) <| Zb (Zc (ZdF #[Value.agg #[vi (14 : Int), vq, vi a0, vi (6 : Int)]] (a0)   N c33  119 rfl (by decide) (by decide))) <| Zb (Zc (Z8 #[Value.agg #[vi (14 : Int), vi (6 : Int), vi (2 : Int), vi (1 : Int)]]    N c32  115 rfl (by decide) (by decide))) <| Zb (Zc (Z6 #[Value.agg #[vi (11 : Int), vi (6 : Int), vi (3 : Int), vi (3 : Int)]]    N c31  111 rfl (by decide) (by decide))) <| Zb (Zc (ZD #[Value.agg #[vi (8 : Int), vi (30 : Int), vq, vq]]    N c30  107 rfl (by decide) (by decide))) <| Zb (Zc (ZbP #[Value.agg #[vi (14 : Int), vi (2 : Int), vi (1 : Int), vi (6 : Int)]]    N c29  103 rfl (by decide) (by decide))) <| Zb (Zc (Z8 #[Value.agg #[vi (14 : Int), vi (6 : Int), vi (2 : Int), vi (1 : Int)]]    N c28  99 rfl (by decide) (by decide))) <| Zb (Zc (Z6 #[Value.agg #[vi (11 : Int), vi (6 : Int), vi (3 : Int), vi (3 : Int)]]    N c27  95 rfl (by decide) (by decide))) <| Zb (Zc (ZJ #[Value.agg #[vi (8 : Int), vi (5 : Int), vq, vq]]    N c26  91 rfl (by decide) (by decide))) <| Zb (Zc (ZH #[Value.agg #[vi (3 : Int), vi (2 : Int), vi (5 : Int), vq]]    N c25  87 rfl (by decide) (by decide))) <| Zb (Zc (ZbN #[Value.agg #[vi (9 : Int), vi (5 : Int), vi (23 : Int), vq]]    N c24  83 rfl (by decide) (by decide))) <| Zb (Zc (Zap #[Value.agg #[vi (13 : Int), vi (5 : Int), vi (2 : Int), vi (1 : Int)]]    N c23  79 rfl (by decide) (by decide))) <| Zb (Zc (ZD #[Value.agg #[vi (8 : Int), vi (30 : Int), vq, vq]]    N c22  75 rfl (by decide) (by decide))) <| Zb (Zc (ZbL #[Value.agg #[vi (14 : Int), vi (2 : Int), vq, vi (6 : Int)]]    N c21  71 rfl (by decide) (by decide))) <| Zb (Zc (Z8 #[Value.agg #[vi (14 : Int), vi (6 : Int), vi (2 : Int), vi (1 : Int)]]    N c20  67 rfl (by decide) (by decide))) <| Zb (Zc (Z6 #[Value.agg #[vi (11 : Int), vi (6 : Int), vi (3 : Int), vi (3 : Int)]]    N c19  63 rfl (by decide) (by decide))) <| Zb (Zc (ZJ #[Value.agg #[vi (8 : Int), vi (5 : Int), vq, vq]]    N c18  59 rfl (by decide) (by decide))) <| Zb (Zc (ZH #[Value.agg #[vi (3 : Int), vi (2 : Int), vi (5 : Int), vq]]    N c17  55 rfl (by decide) (by decide))) <| Zb (Zc (ZbJ #[Value.agg #[vi (9 : Int), vi (5 : Int), vi (15 : Int), vq]]    N c16  51 rfl (by decide) (by decide))) <| Zb (Zc (Zan #[Value.agg #[vi (13 : Int), vi (5 : Int), vi (2 : Int), vq]]    N c15  47 rfl (by decide) (by decide))) <| Zb (Zc (ZbH #[Value.agg #[vi (9 : Int), vi (4 : Int), vi (19 : Int), vq]]    N c14  43 rfl (by decide) (by decide))) <| Zb (Zc (Zal #[Value.agg #[vi (6 : Int), vi (4 : Int), vi (1 : Int), vi (3 : Int)]]    N c13  39 rfl (by decide) (by decide))) <| Zb (Zc (ZD #[Value.agg #[vi (8 : Int), vi (30 : Int), vq, vq]]    N c12  35 rfl (by decide) (by decide))) <| Zb (Zc (Zcl #[Value.agg #[vi (9 : Int), vi (4 : Int), vi (9 : Int), vq]]    N c11  31 rfl (by decide) (by decide))) <| Zb (Zc (Zcj #[Value.agg #[vi (7 : Int), vi (4 : Int), vi (1 : Int), vi (3 : Int)]]    N c10  27 rfl (by decide) (by decide))) <| Zb (Zc (Zaz #[Value.agg #[vi (13 : Int), vi (3 : Int), vi (2 : Int), vi (2 : Int)]]    N c9  23 rfl (by decide) (by decide))) <| Zb (Zc (Zch #[Value.agg #[vi (9 : Int), vi (2 : Int), vi (27 : Int), vq]]    N c8  19 rfl (by decide) (by decide))) <| Zb (Zc (Z3 #[Value.agg #[vi (13 : Int), vi (2 : Int), vq, vi a0]] (a0)   N c7  15 rfl (by decide) (by decide))) <| Zb (Zc (Zv #[Value.agg #[vi (15 : Int), vq, vq, vq]]    N c6  11 rfl (by decide) (by decide))) <| Zb (Zc (ZY #[Value.agg #[vi (1 : Int), vi (1 : Int), vi a1, vq]] (a1)   N c5  7 rfl (by decide) (by decide))) <| Zb (Zc (Zt #[Value.agg #[vi (10 : Int), vq, vq, vq]]    N c4  3 rfl (by decide) (by decide))) <| oY <| oY <| oY <| oY Zf) rfl (by decide) (by rfl) rr trivial (Zg _ rfl)
                                     | r1 =>
                                      exact Zh Zi (r := (.r1 : ZB)) (fu := 4000) (orc := (Zl [(0, true), (1, true), (3, true), (4, true)] [] [] [] [(4, (Zs     3)), (8, (ZX (a1)    7)), (12, (Zu     11)), (16, (Z2 (a0)    15)), (20, (Zcg     19)), (24, (Zay     23)), (28, (Zci     27)), (32, (Zck     31)), (36, (ZC     35)), (40, (Zak     39)), (44, (ZbG     43)), (48, (Zam     47)), (52, (ZbI     51)), (56, (ZG     55)), (60, (ZI     59)), (64, (Z5     63)), (68, (Z7     67)), (72, (ZbK     71)), (76, (ZC     75)), (80, (Zao     79)), (84, (ZbM     83)), (88, (ZG     87)), (92, (ZI     91)), (96, (Z5     95)), (100, (Z7     99)), (104, (ZbO     103)), (108, (ZC     107)), (112, (Z5     111)), (116, (Z7     115)), (120, (ZdE (a0)    119)), (124, (ZO     123)), (127, (Zs     128)), (131, (ZfG (a1)    134))])) (live := []) (u := Value.tuple #[vn, vq]) (bl := []) (ob := [(dP (Zei #[Value.agg #[vi (1 : Int), vi (1 : Int), vi a1, vq]] (a1)    134), true), (dP (Zr #[Value.agg #[vi (10 : Int), vq, vq, vq]]     128), true), (dP (ZK #[Value.agg #[vi (17 : Int), vq, vq, vq]]     123), true), (dP (Zcs #[Value.agg #[vi (14 : Int), vq, vi a0, vi (6 : Int)]] (a0)    119), true), (dP (Z1 #[Value.agg #[vi (14 : Int), vi (6 : Int), vi (2 : Int), vi (1 : Int)]]     115), true), (dP (Z0 #[Value.agg #[vi (11 : Int), vi (6 : Int), vi (3 : Int), vi (3 : Int)]]     111), true), (dP (Z9 #[Value.agg #[vi (8 : Int), vi (30 : Int), vq, vq]]     107), true), (dP (Zbk #[Value.agg #[vi (14 : Int), vi (2 : Int), vi (1 : Int), vi (6 : Int)]]     103), true), (dP (Z1 #[Value.agg #[vi (14 : Int), vi (6 : Int), vi (2 : Int), vi (1 : Int)]]     99), true), (dP (Z0 #[Value.agg #[vi (11 : Int), vi (6 : Int), vi (3 : Int), vi (3 : Int)]]     95), true), (dP (ZF #[Value.agg #[vi (8 : Int), vi (5 : Int), vq, vq]]     91), true), (dP (ZE #[Value.agg #[vi (3 : Int), vi (2 : Int), vi (5 : Int), vq]]     87), true), (dP (Zbj #[Value.agg #[vi (9 : Int), vi (5 : Int), vi (23 : Int), vq]]     83), true), (dP (Zad #[Value.agg #[vi (13 : Int), vi (5 : Int), vi (2 : Int), vi (1 : Int)]]     79), true), (dP (Z9 #[Value.agg #[vi (8 : Int), vi (30 : Int), vq, vq]]     75), true), (dP (Zbi #[Value.agg #[vi (14 : Int), vi (2 : Int), vq, vi (6 : Int)]]     71), true), (dP (Z1 #[Value.agg #[vi (14 : Int), vi (6 : Int), vi (2 : Int), vi (1 : Int)]]     67), true), (dP (Z0 #[Value.agg #[vi (11 : Int), vi (6 : Int), vi (3 : Int), vi (3 : Int)]]     63), true), (dP (ZF #[Value.agg #[vi (8 : Int), vi (5 : Int), vq, vq]]     59), true), (dP (ZE #[Value.agg #[vi (3 : Int), vi (2 : Int), vi (5 : Int), vq]]     55), true), (dP (Zbh #[Value.agg #[vi (9 : Int), vi (5 : Int), vi (15 : Int), vq]]     51), true), (dP (Zac #[Value.agg #[vi (13 : Int), vi (5 : Int), vi (2 : Int), vq]]     47), true), (dP (Zbg #[Value.agg #[vi (9 : Int), vi (4 : Int), vi (19 : Int), vq]]     43), true), (dP (Zab #[Value.agg #[vi (6 : Int), vi (4 : Int), vi (1 : Int), vi (3 : Int)]]     39), true), (dP (Z9 #[Value.agg #[vi (8 : Int), vi (30 : Int), vq, vq]]     35), true), (dP (Zbz #[Value.agg #[vi (9 : Int), vi (4 : Int), vi (9 : Int), vq]]     31), true), (dP (Zby #[Value.agg #[vi (7 : Int), vi (4 : Int), vi (1 : Int), vi (3 : Int)]]     27), true), (dP (Zai #[Value.agg #[vi (13 : Int), vi (3 : Int), vi (2 : Int), vi (2 : Int)]]     23), true), (dP (Zbx #[Value.agg #[vi (9 : Int), vi (2 : Int), vi (27 : Int), vq]]     19), true), (dP (Zz #[Value.agg #[vi (13 : Int), vi (2 : Int), vq, vi a0]] (a0)    15), true), (dP (Zq #[Value.agg #[vi (15 : Int), vq, vq, vq]]     11), true), (dP (ZU #[Value.agg #[vi (1 : Int), vi (1 : Int), vi a1, vq]] (a1)    7), true), (dP (Zr #[Value.agg #[vi (10 : Int), vq, vq, vq]]     3), true), ((decide (a1 ≤ (1099511627776 : Int))), true), ((decide (a1 ≥ (-1099511627776 : Int))), true), ((decide (a0 ≤ (7 : Int))), true), ((decide (a0 ≥ (0 : Int))), true)]) (by kernel_rfl) (Zb (Zc (ZfH #[Value.agg #[vi (1 : Int), vi (1 : Int), vi a1, vq]] (a1)   N c36  134 rfl (by decide) (by decide))) <| Zb (Zc (Zt #[Value.agg #[vi (10 : Int), vq, vq, vq]]    N c35  128 rfl (by decide) (by decide))) <| Zb (Zc (ZP #[Value.agg #[vi (17 : Int), vq, vq, vq]]    N c34  123 rfl (by decide) (by decide))) <| Zb (Zc (ZdF #[Value.agg #[vi (14 : Int), vq, vi a0, vi (6 : Int)]] (a0)   N c33  119 rfl (by decide) (by decide))) <| Zb (Zc (Z8 #[Value.agg #[vi (14 : Int), vi (6 : Int), vi (2 : Int), vi (1 : Int)]]    N c32  115 rfl (by decide) (by decide))) <| Zb (Zc (Z6 #[Value.agg #[vi (11 : Int), vi (6 : Int), vi (3 : Int), vi (3 : Int)]]    N c31  111 rfl (by decide) (by decide))) <| Zb (Zc (ZD #[Value.agg #[vi (8 : Int), vi (30 : Int), vq, vq]]    N c30  107 rfl (by decide) (by decide))) <| Zb (Zc (ZbP #[Value.agg #[vi (14 : Int), vi (2 : Int), vi (1 : Int), vi (6 : Int)]]    N c29  103 rfl (by decide) (by decide))) <| Zb (Zc (Z8 #[Value.agg #[vi (14 : Int), vi (6 : Int), vi (2 : Int), vi (1 : Int)]]    N c28  99 rfl (by decide) (by decide))) <| Zb (Zc (Z6 #[Value.agg #[vi (11 : Int), vi (6 : Int), vi (3 : Int), vi (3 : Int)]]    N c27  95 rfl (by decide) (by decide))) <| Zb (Zc (ZJ #[Value.agg #[vi (8 : Int), vi (5 : Int), vq, vq]]    N c26  91 rfl (by decide) (by decide))) <| Zb (Zc (ZH #[Value.agg #[vi (3 : Int), vi (2 : Int), vi (5 : Int), vq]]    N c25  87 rfl (by decide) (by decide))) <| Zb (Zc (ZbN #[Value.agg #[vi (9 : Int), vi (5 : Int), vi (23 : Int), vq]]    N c24  83 rfl (by decide) (by decide))) <| Zb (Zc (Zap #[Value.agg #[vi (13 : Int), vi (5 : Int), vi (2 : Int), vi (1 : Int)]]    N c23  79 rfl (by decide) (by decide))) <| Zb (Zc (ZD #[Value.agg #[vi (8 : Int), vi (30 : Int), vq, vq]]    N c22  75 rfl (by decide) (by decide))) <| Zb (Zc (ZbL #[Value.agg #[vi (14 : Int), vi (2 : Int), vq, vi (6 : Int)]]    N c21  71 rfl (by decide) (by decide))) <| Zb (Zc (Z8 #[Value.agg #[vi (14 : Int), vi (6 : Int), vi (2 : Int), vi (1 : Int)]]    N c20  67 rfl (by decide) (by decide))) <| Zb (Zc (Z6 #[Value.agg #[vi (11 : Int), vi (6 : Int), vi (3 : Int), vi (3 : Int)]]    N c19  63 rfl (by decide) (by decide))) <| Zb (Zc (ZJ #[Value.agg #[vi (8 : Int), vi (5 : Int), vq, vq]]    N c18  59 rfl (by decide) (by decide))) <| Zb (Zc (ZH #[Value.agg #[vi (3 : Int), vi (2 : Int), vi (5 : Int), vq]]    N c17  55 rfl (by decide) (by decide))) <| Zb (Zc (ZbJ #[Value.agg #[vi (9 : Int), vi (5 : Int), vi (15 : Int), vq]]    N c16  51 rfl (by decide) (by decide))) <| Zb (Zc (Zan #[Value.agg #[vi (13 : Int), vi (5 : Int), vi (2 : Int), vq]]    N c15  47 rfl (by decide) (by decide))) <| Zb (Zc (ZbH #[Value.agg #[vi (9 : Int), vi (4 : Int), vi (19 : Int), vq]]    N c14  43 rfl (by decide) (by decide))) <| Zb (Zc (Zal #[Value.agg #[vi (6 : Int), vi (4 : Int), vi (1 : Int), vi (3 : Int)]]    N c13  39 rfl (by decide) (by decide))) <| Zb (Zc (ZD #[Value.agg #[vi (8 : Int), vi (30 : Int), vq, vq]]    N c12  35 rfl (by decide) (by decide))) <| Zb (Zc (Zcl #[Value.agg #[vi (9 : Int), vi (4 : Int), vi (9 : Int), vq]]    N c11  31 rfl (by decide) (by decide))) <| Zb (Zc (Zcj #[Value.agg #[vi (7 : Int), vi (4 : Int), vi (1 : Int), vi (3 : Int)]]    N c10  27 rfl (by decide) (by decide))) <| Zb (Zc (Zaz #[Value.agg #[vi (13 : Int), vi (3 : Int), vi (2 : Int), vi (2 : Int)]]    N c9  23 rfl (by decide) (by decide))) <| Zb (Zc (Zch #[Value.agg #[vi (9 : Int), vi (2 : Int), vi (27 : Int), vq]]    N c8  19 rfl (by decide) (by decide))) <| Zb (Zc (Z3 #[Value.agg #[vi (13 : Int), vi (2 : Int), vq, vi a0]] (a0)   N c7  15 rfl (by decide) (by decide))) <| Zb (Zc (Zv #[Value.agg #[vi (15 : Int), vq, vq, vq]]    N c6  11 rfl (by decide) (by decide))) <| Zb (Zc (ZY #[Value.agg #[vi (1 : Int), vi (1 : Int), vi a1, vq]] (a1)   N c5  7 rfl (by decide) (by decide))) <| Zb (Zc (Zt #[Value.agg #[vi (10 : Int), vq, vq, vq]]    N c4  3 rfl (by decide) (by decide))) <| oY <| oY <| oY <| oY Zf) rfl (by decide) (by rfl) rr trivial (Zg _ rfl)
                                  | r1 =>
                                   exact Zh Zi (r := (.r1 : ZB)) (fu := 4000) (orc := (Zl [(0, true), (1, true), (3, true), (4, true)] [] [] [] [(4, (Zs     3)), (8, (ZX (a1)    7)), (12, (Zu     11)), (16, (Z2 (a0)    15)), (20, (Zcg     19)), (24, (Zay     23)), (28, (Zci     27)), (32, (Zck     31)), (36, (ZC     35)), (40, (Zak     39)), (44, (ZbG     43)), (48, (Zam     47)), (52, (ZbI     51)), (56, (ZG     55)), (60, (ZI     59)), (64, (Z5     63)), (68, (Z7     67)), (72, (ZbK     71)), (76, (ZC     75)), (80, (Zao     79)), (84, (ZbM     83)), (88, (ZG     87)), (92, (ZI     91)), (96, (Z5     95)), (100, (Z7     99)), (104, (ZbO     103)), (108, (ZC     107)), (112, (Z5     111)), (116, (Z7     115)), (120, (Zji (a0)    119))])) (live := []) (u := Value.tuple #[vn, vq]) (bl := []) (ob := [(dP (ZgF #[Value.agg #[vi (14 : Int), vq, vi a0, vi (6 : Int)]] (a0)    119), true), (dP (Z1 #[Value.agg #[vi (14 : Int), vi (6 : Int), vi (2 : Int), vi (1 : Int)]]     115), true), (dP (Z0 #[Value.agg #[vi (11 : Int), vi (6 : Int), vi (3 : Int), vi (3 : Int)]]     111), true), (dP (Z9 #[Value.agg #[vi (8 : Int), vi (30 : Int), vq, vq]]     107), true), (dP (Zbk #[Value.agg #[vi (14 : Int), vi (2 : Int), vi (1 : Int), vi (6 : Int)]]     103), true), (dP (Z1 #[Value.agg #[vi (14 : Int), vi (6 : Int), vi (2 : Int), vi (1 : Int)]]     99), true), (dP (Z0 #[Value.agg #[vi (11 : Int), vi (6 : Int), vi (3 : Int), vi (3 : Int)]]     95), true), (dP (ZF #[Value.agg #[vi (8 : Int), vi (5 : Int), vq, vq]]     91), true), (dP (ZE #[Value.agg #[vi (3 : Int), vi (2 : Int), vi (5 : Int), vq]]     87), true), (dP (Zbj #[Value.agg #[vi (9 : Int), vi (5 : Int), vi (23 : Int), vq]]     83), true), (dP (Zad #[Value.agg #[vi (13 : Int), vi (5 : Int), vi (2 : Int), vi (1 : Int)]]     79), true), (dP (Z9 #[Value.agg #[vi (8 : Int), vi (30 : Int), vq, vq]]     75), true), (dP (Zbi #[Value.agg #[vi (14 : Int), vi (2 : Int), vq, vi (6 : Int)]]     71), true), (dP (Z1 #[Value.agg #[vi (14 : Int), vi (6 : Int), vi (2 : Int), vi (1 : Int)]]     67), true), (dP (Z0 #[Value.agg #[vi (11 : Int), vi (6 : Int), vi (3 : Int), vi (3 : Int)]]     63), true), (dP (ZF #[Value.agg #[vi (8 : Int), vi (5 : Int), vq, vq]]     59), true), (dP (ZE #[Value.agg #[vi (3 : Int), vi (2 : Int), vi (5 : Int), vq]]     55), true), (dP (Zbh #[Value.agg #[vi (9 : Int), vi (5 : Int), vi (15 : Int), vq]]     51), true), (dP (Zac #[Value.agg #[vi (13 : Int), vi (5 : Int), vi (2 : Int), vq]]     47), true), (dP (Zbg #[Value.agg #[vi (9 : Int), vi (4 : Int), vi (19 : Int), vq]]     43), true), (dP (Zab #[Value.agg #[vi (6 : Int), vi (4 : Int), vi (1 : Int), vi (3 : Int)]]     39), true), (dP (Z9 #[Value.agg #[vi (8 : Int), vi (30 : Int), vq, vq]]     35), true), (dP (Zbz #[Value.agg #[vi (9 : Int), vi (4 : Int), vi (9 : Int), vq]]     31), true), (dP (Zby #[Value.agg #[vi (7 : Int), vi (4 : Int), vi (1 : Int), vi (3 : Int)]]     27), true), (dP (Zai #[Value.agg #[vi (13 : Int), vi (3 : Int), vi (2 : Int), vi (2 : Int)]]     23), true), (dP (Zbx #[Value.agg #[vi (9 : Int), vi (2 : Int), vi (27 : Int), vq]]     19), true), (dP (Zz #[Value.agg #[vi (13 : Int), vi (2 : Int), vq, vi a0]] (a0)    15), true), (dP (Zq #[Value.agg #[vi (15 : Int), vq, vq, vq]]     11), true), (dP (ZU #[Value.agg #[vi (1 : Int), vi (1 : Int), vi a1, vq]] (a1)    7), true), (dP (Zr #[Value.agg #[vi (10 : Int), vq, vq, vq]]     3), true), ((decide (a1 ≤ (1099511627776 : Int))), true), ((decide (a1 ≥ (-1099511627776 : Int))), true), ((decide (a0 ≤ (7 : Int))), true), ((decide (a0 ≥ (0 : Int))), true)]) (by kernel_rfl) (Zb (Zc (Zjj #[Value.agg #[vi (14 : Int), vq, vi a0, vi (6 : Int)]] (a0)   N c33  119 rfl (by decide) (by decide))) <| Zb (Zc (Z8 #[Value.agg #[vi (14 : Int), vi (6 : Int), vi (2 : Int), vi (1 : Int)]]    N c32  115 rfl (by decide) (by decide))) <| Zb (Zc (Z6 #[Value.agg #[vi (11 : Int), vi (6 : Int), vi (3 : Int), vi (3 : Int)]]    N c31  111 rfl (by decide) (by decide))) <| Zb (Zc (ZD #[Value.agg #[vi (8 : Int), vi (30 : Int), vq, vq]]    N c30  107 rfl (by decide) (by decide))) <| Zb (Zc (ZbP #[Value.agg #[vi (14 : Int), vi (2 : Int), vi (1 : Int), vi (6 : Int)]]    N c29  103 rfl (by decide) (by decide))) <| Zb (Zc (Z8 #[Value.agg #[vi (14 : Int), vi (6 : Int), vi (2 : Int), vi (1 : Int)]]    N c28  99 rfl (by decide) (by decide))) <| Zb (Zc (Z6 #[Value.agg #[vi (11 : Int), vi (6 : Int), vi (3 : Int), vi (3 : Int)]]    N c27  95 rfl (by decide) (by decide))) <| Zb (Zc (ZJ #[Value.agg #[vi (8 : Int), vi (5 : Int), vq, vq]]    N c26  91 rfl (by decide) (by decide))) <| Zb (Zc (ZH #[Value.agg #[vi (3 : Int), vi (2 : Int), vi (5 : Int), vq]]    N c25  87 rfl (by decide) (by decide))) <| Zb (Zc (ZbN #[Value.agg #[vi (9 : Int), vi (5 : Int), vi (23 : Int), vq]]    N c24  83 rfl (by decide) (by decide))) <| Zb (Zc (Zap #[Value.agg #[vi (13 : Int), vi (5 : Int), vi (2 : Int), vi (1 : Int)]]    N c23  79 rfl (by decide) (by decide))) <| Zb (Zc (ZD #[Value.agg #[vi (8 : Int), vi (30 : Int), vq, vq]]    N c22  75 rfl (by decide) (by decide))) <| Zb (Zc (ZbL #[Value.agg #[vi (14 : Int), vi (2 : Int), vq, vi (6 : Int)]]    N c21  71 rfl (by decide) (by decide))) <| Zb (Zc (Z8 #[Value.agg #[vi (14 : Int), vi (6 : Int), vi (2 : Int), vi (1 : Int)]]    N c20  67 rfl (by decide) (by decide))) <| Zb (Zc (Z6 #[Value.agg #[vi (11 : Int), vi (6 : Int), vi (3 : Int), vi (3 : Int)]]    N c19  63 rfl (by decide) (by decide))) <| Zb (Zc (ZJ #[Value.agg #[vi (8 : Int), vi (5 : Int), vq, vq]]    N c18  59 rfl (by decide) (by decide))) <| Zb (Zc (ZH #[Value.agg #[vi (3 : Int), vi (2 : Int), vi (5 : Int), vq]]    N c17  55 rfl (by decide) (by decide))) <| Zb (Zc (ZbJ #[Value.agg #[vi (9 : Int), vi (5 : Int), vi (15 : Int), vq]]    N c16  51 rfl (by decide) (by decide))) <| Zb (Zc (Zan #[Value.agg #[vi (13 : Int), vi (5 : Int), vi (2 : Int), vq]]    N c15  47 rfl (by decide) (by decide))) <| Zb (Zc (ZbH #[Value.agg #[vi (9 : Int), vi (4 : Int), vi (19 : Int), vq]]    N c14  43 rfl (by decide) (by decide))) <| Zb (Zc (Zal #[Value.agg #[vi (6 : Int), vi (4 : Int), vi (1 : Int), vi (3 : Int)]]    N c13  39 rfl (by decide) (by decide))) <| Zb (Zc (ZD #[Value.agg #[vi (8 : Int), vi (30 : Int), vq, vq]]    N c12  35 rfl (by decide) (by decide))) <| Zb (Zc (Zcl #[Value.agg #[vi (9 : Int), vi (4 : Int), vi (9 : Int), vq]]    N c11  31 rfl (by decide) (by decide))) <| Zb (Zc (Zcj #[Value.agg #[vi (7 : Int), vi (4 : Int), vi (1 : Int), vi (3 : Int)]]    N c10  27 rfl (by decide) (by decide))) <| Zb (Zc (Zaz #[Value.agg #[vi (13 : Int), vi (3 : Int), vi (2 : Int), vi (2 : Int)]]    N c9  23 rfl (by decide) (by decide))) <| Zb (Zc (Zch #[Value.agg #[vi (9 : Int), vi (2 : Int), vi (27 : Int), vq]]    N c8  19 rfl (by decide) (by decide))) <| Zb (Zc (Z3 #[Value.agg #[vi (13 : Int), vi (2 : Int), vq, vi a0]] (a0)   N c7  15 rfl (by decide) (by decide))) <| Zb (Zc (Zv #[Value.agg #[vi (15 : Int), vq, vq, vq]]    N c6  11 rfl (by decide) (by decide))) <| Zb (Zc (ZY #[Value.agg #[vi (1 : Int), vi (1 : Int), vi a1, vq]] (a1)   N c5  7 rfl (by decide) (by decide))) <| Zb (Zc (Zt #[Value.agg #[vi (10 : Int), vq, vq, vq]]    N c4  3 rfl (by decide) (by decide))) <| oY <| oY <| oY <| oY Zf) rfl (by decide) (by rfl) rr trivial (Zg _ rfl)
        | r1 =>
         exact Zh Zi (r := (.r1 : ZB)) (fu := 4000) (orc := (Zl [(0, true), (1, true), (3, true), (4, true)] [] [] [] [(4, (Zs     3)), (8, (ZX (a1)    7)), (12, (Zu     11)), (16, (Zbv (a0)    15))])) (live := []) (u := Value.tuple #[vn, vq]) (bl := []) (ob := [(dP (ZaZ #[Value.agg #[vi (13 : Int), vi (2 : Int), vq, vi a0]] (a0)    15), true), (dP (Zq #[Value.agg #[vi (15 : Int), vq, vq, vq]]     11), true), (dP (ZU #[Value.agg #[vi (1 : Int), vi (1 : Int), vi a1, vq]] (a1)    7), true), (dP (Zr #[Value.agg #[vi (10 : Int), vq, vq, vq]]     3), true), ((decide (a1 ≤ (1099511627776 : Int))), true), ((decide (a1 ≥ (-1099511627776 : Int))), true), ((decide (a0 ≤ (7 : Int))), true), ((decide (a0 ≥ (0 : Int))), true)]) (by kernel_rfl) (Zb (Zc (Zbw #[Value.agg #[vi (13 : Int), vi (2 : Int), vq, vi a0]] (a0)   N c7  15 rfl (by decide) (by decide))) <| Zb (Zc (Zv #[Value.agg #[vi (15 : Int), vq, vq, vq]]    N c6  11 rfl (by decide) (by decide))) <| Zb (Zc (ZY #[Value.agg #[vi (1 : Int), vi (1 : Int), vi a1, vq]] (a1)   N c5  7 rfl (by decide) (by decide))) <| Zb (Zc (Zt #[Value.agg #[vi (10 : Int), vq, vq, vq]]    N c4  3 rfl (by decide) (by decide))) <| oY <| oY <| oY <| oY Zf) rfl (by decide) (by rfl) rr trivial (Zg _ rfl)
      | r1 =>
       exact Zh Zi (r := (.r1 : ZB)) (fu := 4000) (orc := (Zl [(0, true), (1, true), (3, true), (4, true)] [] [] [] [(4, (Zs     3)), (8, (ZfG (a1)    7))])) (live := []) (u := Value.tuple #[vn, vq]) (bl := []) (ob := [(dP (Zei #[Value.agg #[vi (1 : Int), vi (1 : Int), vi a1, vq]] (a1)    7), true), (dP (Zr #[Value.agg #[vi (10 : Int), vq, vq, vq]]     3), true), ((decide (a1 ≤ (1099511627776 : Int))), true), ((decide (a1 ≥ (-1099511627776 : Int))), true), ((decide (a0 ≤ (7 : Int))), true), ((decide (a0 ≥ (0 : Int))), true)]) (by kernel_rfl) (Zb (Zc (ZfH #[Value.agg #[vi (1 : Int), vi (1 : Int), vi a1, vq]] (a1)   N c5  7 rfl (by decide) (by decide))) <| Zb (Zc (Zt #[Value.agg #[vi (10 : Int), vq, vq, vq]]    N c4  3 rfl (by decide) (by decide))) <| oY <| oY <| oY <| oY Zf) rfl (by decide) (by rfl) rr trivial (Zg _ rfl)
    ·
     exact Zh Zi (r := (.r2 : ZB)) (fu := 4000) (orc := (Zl [(0, true), (1, true), (3, true), (4, false)] [] [] [] [])) (live := []) (u := Value.tuple #[vn, vi (240 : Int)]) (bl := []) (ob := [((decide (a1 ≤ (1099511627776 : Int))), false), ((decide (a1 ≥ (-1099511627776 : Int))), true), ((decide (a0 ≤ (7 : Int))), true), ((decide (a0 ≥ (0 : Int))), true)]) (by kernel_rfl) (oN <| oY <| oY <| oY Zf) rfl (by decide) (by rfl) rr trivial (Zg _ rfl)
   ·
    exact Zh Zi (r := (.r2 : ZB)) (fu := 4000) (orc := (Zl [(0, true), (1, true), (3, false)] [] [] [] [])) (live := []) (u := Value.tuple #[vn, vi (240 : Int)]) (bl := []) (ob := [((decide (a1 ≥ (-1099511627776 : Int))), false), ((decide (a0 ≤ (7 : Int))), true), ((decide (a0 ≥ (0 : Int))), true)]) (by kernel_rfl) (oN <| oY <| oY Zf) rfl (by decide) (by rfl) rr trivial (Zg _ rfl)
  ·
   exact Zh Zi (r := (.r2 : ZB)) (fu := 4000) (orc := (Zl [(0, true), (1, false)] [] [] [] [])) (live := []) (u := Value.tuple #[vn, vi (240 : Int)]) (bl := []) (ob := [((decide (a0 ≤ (7 : Int))), false), ((decide (a0 ≥ (0 : Int))), true)]) (by kernel_rfl) (oN <| oY Zf) rfl (by decide) (by rfl) rr trivial (Zg _ rfl)
 ·
  exact Zh Zi (r := (.r2 : ZB)) (fu := 4000) (orc := (Zl [(0, false)] [] [] [] [])) (live := []) (u := Value.tuple #[vn, vi (240 : Int)]) (bl := []) (ob := [((decide (a0 ≥ (0 : Int))), false)]) (by kernel_rfl) (oN Zf) rfl (by decide) (by rfl) rr trivial (Zg _ rfl)

theorem Zjl (a0 a1 : Int) (N : Nat) (r : ZB) (h : Zb4 a0 a1 N = some r) : LSpec Tryz.prog 4 #[vi a0, vi a1] [] (ZnA a0 a1 r) (Zme a0 a1 r) :=
 (ZsZ a0 a1 N) r h

noncomputable def Zmf (a0 a1 : Int) (n : Nat) : Zx := .call [] (Value.tuple #[vs n 0 31 31, vq]) [(n, some (.cells [vi (10 : Int), vq, vq, vq, vi (1 : Int), vi (1 : Int), vi a1, vq, vi (15 : Int), vq, vq, vq, vi (13 : Int), vi (2 : Int), vq, vi a0, vi (9 : Int), vi (2 : Int), vi (27 : Int), vq, vi (13 : Int), vi (3 : Int), vi (2 : Int), vi (2 : Int), vi (7 : Int), vi (4 : Int), vi (1 : Int), vi (3 : Int), vi (9 : Int), vi (4 : Int), vi (9 : Int), vq, vi (8 : Int), vi (30 : Int), vq, vq, vi (6 : Int), vi (4 : Int), vi (1 : Int), vi (3 : Int), vi (9 : Int), vi (4 : Int), vi (19 : Int), vq, vi (13 : Int), vi (5 : Int), vi (2 : Int), vq, vi (9 : Int), vi (5 : Int), vi (15 : Int), vq, vi (3 : Int), vi (2 : Int), vi (5 : Int), vq, vi (8 : Int), vi (5 : Int), vq, vq, vi (11 : Int), vi (6 : Int), vi (3 : Int), vi (3 : Int), vi (14 : Int), vi (6 : Int), vi (2 : Int), vi (1 : Int), vi (14 : Int), vi (2 : Int), vq, vi (6 : Int), vi (8 : Int), vi (30 : Int), vq, vq, vi (13 : Int), vi (5 : Int), vi (2 : Int), vi (1 : Int), vi (9 : Int), vi (5 : Int), vi (23 : Int), vq, vi (3 : Int), vi (2 : Int), vi (5 : Int), vq, vi (8 : Int), vi (5 : Int), vq, vq, vi (11 : Int), vi (6 : Int), vi (3 : Int), vi (3 : Int), vi (14 : Int), vi (6 : Int), vi (2 : Int), vi (1 : Int), vi (14 : Int), vi (2 : Int), vi (1 : Int), vi (6 : Int), vi (8 : Int), vi (30 : Int), vq, vq, vi (11 : Int), vi (6 : Int), vi (3 : Int), vi (3 : Int), vi (14 : Int), vi (6 : Int), vi (2 : Int), vi (1 : Int), vi (14 : Int), vq, vi a0, vi (6 : Int), vi (17 : Int), vq, vq, vq] 42))] 1
def Zie (A : Array Value) (a0 a1 : Int) (n : Nat) : Prop := Zj Tryz.prog 4 A [] (Value.tuple #[vs n 0 31 31, vq]) [(n, some (.cells [vi (10 : Int), vq, vq, vq, vi (1 : Int), vi (1 : Int), vi a1, vq, vi (15 : Int), vq, vq, vq, vi (13 : Int), vi (2 : Int), vq, vi a0, vi (9 : Int), vi (2 : Int), vi (27 : Int), vq, vi (13 : Int), vi (3 : Int), vi (2 : Int), vi (2 : Int), vi (7 : Int), vi (4 : Int), vi (1 : Int), vi (3 : Int), vi (9 : Int), vi (4 : Int), vi (9 : Int), vq, vi (8 : Int), vi (30 : Int), vq, vq, vi (6 : Int), vi (4 : Int), vi (1 : Int), vi (3 : Int), vi (9 : Int), vi (4 : Int), vi (19 : Int), vq, vi (13 : Int), vi (5 : Int), vi (2 : Int), vq, vi (9 : Int), vi (5 : Int), vi (15 : Int), vq, vi (3 : Int), vi (2 : Int), vi (5 : Int), vq, vi (8 : Int), vi (5 : Int), vq, vq, vi (11 : Int), vi (6 : Int), vi (3 : Int), vi (3 : Int), vi (14 : Int), vi (6 : Int), vi (2 : Int), vi (1 : Int), vi (14 : Int), vi (2 : Int), vq, vi (6 : Int), vi (8 : Int), vi (30 : Int), vq, vq, vi (13 : Int), vi (5 : Int), vi (2 : Int), vi (1 : Int), vi (9 : Int), vi (5 : Int), vi (23 : Int), vq, vi (3 : Int), vi (2 : Int), vi (5 : Int), vq, vi (8 : Int), vi (5 : Int), vq, vq, vi (11 : Int), vi (6 : Int), vi (3 : Int), vi (3 : Int), vi (14 : Int), vi (6 : Int), vi (2 : Int), vi (1 : Int), vi (14 : Int), vi (2 : Int), vi (1 : Int), vi (6 : Int), vi (8 : Int), vi (30 : Int), vq, vq, vi (11 : Int), vi (6 : Int), vi (3 : Int), vi (3 : Int), vi (14 : Int), vi (6 : Int), vi (2 : Int), vi (1 : Int), vi (14 : Int), vq, vi a0, vi (6 : Int), vi (17 : Int), vq, vq, vq] 42))] n 1

theorem Zmg (A : Array Value) (a0 a1 : Int) (N : Nat) (h : Zb4 a0 a1 N = some (.r0)) (n : Nat) (hA : A = #[vi a0, vi a1]) (hnd : ([] : List Nat).Nodup) (hlt : ∀ k ∈ ([] : List Nat), k < n) : Zie A a0 a1  n :=
 Zm hA (LSpec.callL (show LSpec Tryz.prog 4 #[vi a0, vi a1] [] (Value.tuple #[vs 0 0 31 31, vq]) [some (.cells [vi (10 : Int), vq, vq, vq, vi (1 : Int), vi (1 : Int), vi a1, vq, vi (15 : Int), vq, vq, vq, vi (13 : Int), vi (2 : Int), vq, vi a0, vi (9 : Int), vi (2 : Int), vi (27 : Int), vq, vi (13 : Int), vi (3 : Int), vi (2 : Int), vi (2 : Int), vi (7 : Int), vi (4 : Int), vi (1 : Int), vi (3 : Int), vi (9 : Int), vi (4 : Int), vi (9 : Int), vq, vi (8 : Int), vi (30 : Int), vq, vq, vi (6 : Int), vi (4 : Int), vi (1 : Int), vi (3 : Int), vi (9 : Int), vi (4 : Int), vi (19 : Int), vq, vi (13 : Int), vi (5 : Int), vi (2 : Int), vq, vi (9 : Int), vi (5 : Int), vi (15 : Int), vq, vi (3 : Int), vi (2 : Int), vi (5 : Int), vq, vi (8 : Int), vi (5 : Int), vq, vq, vi (11 : Int), vi (6 : Int), vi (3 : Int), vi (3 : Int), vi (14 : Int), vi (6 : Int), vi (2 : Int), vi (1 : Int), vi (14 : Int), vi (2 : Int), vq, vi (6 : Int), vi (8 : Int), vi (30 : Int), vq, vq, vi (13 : Int), vi (5 : Int), vi (2 : Int), vi (1 : Int), vi (9 : Int), vi (5 : Int), vi (23 : Int), vq, vi (3 : Int), vi (2 : Int), vi (5 : Int), vq, vi (8 : Int), vi (5 : Int), vq, vq, vi (11 : Int), vi (6 : Int), vi (3 : Int), vi (3 : Int), vi (14 : Int), vi (6 : Int), vi (2 : Int), vi (1 : Int), vi (14 : Int), vi (2 : Int), vi (1 : Int), vi (6 : Int), vi (8 : Int), vi (30 : Int), vq, vq, vi (11 : Int), vi (6 : Int), vi (3 : Int), vi (3 : Int), vi (14 : Int), vi (6 : Int), vi (2 : Int), vi (1 : Int), vi (14 : Int), vq, vi a0, vi (6 : Int), vi (17 : Int), vq, vq, vq] 42)] from Zjl a0 a1 N _ h) [] n [0] rfl hnd hlt (show 0 ≤ 1 from by decide) (show ∀ j ∈ ([0] : List Nat), j < 1 from by decide) (by rfl) trivial (by rfl) ⟨rfl, trivial⟩ ⟨(by decide), trivial⟩ rfl rfl rfl rfl (Za (ZbX rfl (Zi2 rfl)) rfl))

noncomputable def Zif (a0 a1 : Int) (n : Nat) : Zx := .call [] (Value.tuple #[vn, vi (240 : Int)]) [] 0
def Zgz (A : Array Value) (a0 a1 : Int) (n : Nat) : Prop := Zj Tryz.prog 4 A [] (Value.tuple #[vn, vi (240 : Int)]) [] n 0

theorem Zig (A : Array Value) (a0 a1 : Int) (N : Nat) (h : Zb4 a0 a1 N = some (.r2)) (n : Nat) (hA : A = #[vi a0, vi a1]) (hnd : ([] : List Nat).Nodup) (hlt : ∀ k ∈ ([] : List Nat), k < n) : Zgz A a0 a1  n :=
 Zm hA (LSpec.callL (show LSpec Tryz.prog 4 #[vi a0, vi a1] [] (Value.tuple #[vn, vi (240 : Int)]) [] from Zjl a0 a1 N _ h) [] n [] rfl hnd hlt (show 0 ≤ 0 from by decide) (show ∀ j ∈ ([] : List Nat), j < 0 from by decide) (by rfl) trivial (by rfl) trivial trivial rfl rfl rfl rfl rfl)

noncomputable def Zmh (a0 a1 : Int) : Zag → Value
 | .r0 => Value.tuple #[vs 0 0 31 31, vq]
 | .r1 => Value.tuple #[vn, vi (240 : Int)]
noncomputable def Zlm (a0 a1 : Int) : Zag → List (Option AObj)
 | .r0 => [some (.cells [vi (10 : Int), vq, vq, vq, vi (1 : Int), vi (1 : Int), vi a1, vq, vi (15 : Int), vq, vq, vq, vi (13 : Int), vi (2 : Int), vq, vi a0, vi (9 : Int), vi (2 : Int), vi (27 : Int), vq, vi (13 : Int), vi (3 : Int), vi (2 : Int), vi (2 : Int), vi (7 : Int), vi (4 : Int), vi (1 : Int), vi (3 : Int), vi (9 : Int), vi (4 : Int), vi (9 : Int), vq, vi (8 : Int), vi (30 : Int), vq, vq, vi (6 : Int), vi (4 : Int), vi (1 : Int), vi (3 : Int), vi (9 : Int), vi (4 : Int), vi (19 : Int), vq, vi (13 : Int), vi (5 : Int), vi (2 : Int), vq, vi (9 : Int), vi (5 : Int), vi (15 : Int), vq, vi (3 : Int), vi (2 : Int), vi (5 : Int), vq, vi (8 : Int), vi (5 : Int), vq, vq, vi (11 : Int), vi (6 : Int), vi (3 : Int), vi (3 : Int), vi (14 : Int), vi (6 : Int), vi (2 : Int), vi (1 : Int), vi (14 : Int), vi (2 : Int), vq, vi (6 : Int), vi (8 : Int), vi (30 : Int), vq, vq, vi (13 : Int), vi (5 : Int), vi (2 : Int), vi (1 : Int), vi (9 : Int), vi (5 : Int), vi (23 : Int), vq, vi (3 : Int), vi (2 : Int), vi (5 : Int), vq, vi (8 : Int), vi (5 : Int), vq, vq, vi (11 : Int), vi (6 : Int), vi (3 : Int), vi (3 : Int), vi (14 : Int), vi (6 : Int), vi (2 : Int), vi (1 : Int), vi (14 : Int), vi (2 : Int), vi (1 : Int), vi (6 : Int), vi (8 : Int), vi (30 : Int), vq, vq, vi (11 : Int), vi (6 : Int), vi (3 : Int), vi (3 : Int), vi (14 : Int), vi (6 : Int), vi (2 : Int), vi (1 : Int), vi (14 : Int), vq, vi a0, vi (6 : Int), vi (17 : Int), vq, vq, vq] 42)]
 | .r1 => []

theorem Zsy (a0 a1 : Int) (N : Nat) : Gx Tryz.prog 5 [] #[vi a0, vi a1] (Zmh a0 a1) (Zlm a0 a1) (Zbq a0 a1 N) := by
 unfold Zbq
 refine ZN (fun g0 => ?_) (fun g0 => ?_)
 ·
  refine ZN (fun g1 => ?_) (fun g1 => ?_)
  ·
   refine ZN (fun g2 => ?_) (fun g2 => ?_)
   ·
    refine ZN (fun g3 => ?_) (fun g3 => ?_)
    ·
     exact Zh Zi (r := (.r0 : Zag)) (fu := 4000) (orc := (Zl [(0, true), (1, true), (3, true), (4, true)] [] [] [] [])) (live := [31]) (u := Value.tuple #[vs 31 0 31 31, vq]) (bl := [some (.cells [vi (10 : Int), vq, vq, vq, vi (1 : Int), vi (1 : Int), vi a1, vq, vi (15 : Int), vq, vq, vq, vi (13 : Int), vi (2 : Int), vq, vi a0, vi (9 : Int), vi (2 : Int), vi (27 : Int), vq, vi (13 : Int), vi (3 : Int), vi (2 : Int), vi (2 : Int), vi (7 : Int), vi (4 : Int), vi (1 : Int), vi (3 : Int), vi (9 : Int), vi (4 : Int), vi (9 : Int), vq, vi (8 : Int), vi (30 : Int), vq, vq, vi (6 : Int), vi (4 : Int), vi (1 : Int), vi (3 : Int), vi (9 : Int), vi (4 : Int), vi (19 : Int), vq, vi (13 : Int), vi (5 : Int), vi (2 : Int), vq, vi (9 : Int), vi (5 : Int), vi (15 : Int), vq, vi (3 : Int), vi (2 : Int), vi (5 : Int), vq, vi (8 : Int), vi (5 : Int), vq, vq, vi (11 : Int), vi (6 : Int), vi (3 : Int), vi (3 : Int), vi (14 : Int), vi (6 : Int), vi (2 : Int), vi (1 : Int), vi (14 : Int), vi (2 : Int), vq, vi (6 : Int), vi (8 : Int), vi (30 : Int), vq, vq, vi (13 : Int), vi (5 : Int), vi (2 : Int), vi (1 : Int), vi (9 : Int), vi (5 : Int), vi (23 : Int), vq, vi (3 : Int), vi (2 : Int), vi (5 : Int), vq, vi (8 : Int), vi (5 : Int), vq, vq, vi (11 : Int), vi (6 : Int), vi (3 : Int), vi (3 : Int), vi (14 : Int), vi (6 : Int), vi (2 : Int), vi (1 : Int), vi (14 : Int), vi (2 : Int), vi (1 : Int), vi (6 : Int), vi (8 : Int), vi (30 : Int), vq, vq, vi (11 : Int), vi (6 : Int), vi (3 : Int), vi (3 : Int), vi (14 : Int), vi (6 : Int), vi (2 : Int), vi (1 : Int), vi (14 : Int), vq, vi a0, vi (6 : Int), vi (17 : Int), vq, vq, vq] 42)]) (ob := [((decide (a1 ≤ (1099511627776 : Int))), true), ((decide (a1 ≥ (-1099511627776 : Int))), true), ((decide (a0 ≤ (7 : Int))), true), ((decide (a0 ≥ (0 : Int))), true)]) (by kernel_rfl) (oY <| oY <| oY <| oY Zf) rfl (by decide) (by rfl) rr ⟨⟨rfl, ⟨[], by rfl⟩, by rfl⟩, trivial⟩ (Zg _ rfl)
    ·
     exact Zh Zi (r := (.r1 : Zag)) (fu := 4000) (orc := (Zl [(0, true), (1, true), (3, true), (4, false)] [] [] [] [])) (live := []) (u := Value.tuple #[vn, vi (240 : Int)]) (bl := []) (ob := [((decide (a1 ≤ (1099511627776 : Int))), false), ((decide (a1 ≥ (-1099511627776 : Int))), true), ((decide (a0 ≤ (7 : Int))), true), ((decide (a0 ≥ (0 : Int))), true)]) (by kernel_rfl) (oN <| oY <| oY <| oY Zf) rfl (by decide) (by rfl) rr trivial (Zg _ rfl)
   ·
    exact Zh Zi (r := (.r1 : Zag)) (fu := 4000) (orc := (Zl [(0, true), (1, true), (3, false)] [] [] [] [])) (live := []) (u := Value.tuple #[vn, vi (240 : Int)]) (bl := []) (ob := [((decide (a1 ≥ (-1099511627776 : Int))), false), ((decide (a0 ≤ (7 : Int))), true), ((decide (a0 ≥ (0 : Int))), true)]) (by kernel_rfl) (oN <| oY <| oY Zf) rfl (by decide) (by rfl) rr trivial (Zg _ rfl)
  ·
   exact Zh Zi (r := (.r1 : Zag)) (fu := 4000) (orc := (Zl [(0, true), (1, false)] [] [] [] [])) (live := []) (u := Value.tuple #[vn, vi (240 : Int)]) (bl := []) (ob := [((decide (a0 ≤ (7 : Int))), false), ((decide (a0 ≥ (0 : Int))), true)]) (by kernel_rfl) (oN <| oY Zf) rfl (by decide) (by rfl) rr trivial (Zg _ rfl)
 ·
  exact Zh Zi (r := (.r1 : Zag)) (fu := 4000) (orc := (Zl [(0, false)] [] [] [] [])) (live := []) (u := Value.tuple #[vn, vi (240 : Int)]) (bl := []) (ob := [((decide (a0 ≥ (0 : Int))), false)]) (by kernel_rfl) (oN Zf) rfl (by decide) (by rfl) rr trivial (Zg _ rfl)

theorem ZiH (a0 a1 : Int) (N : Nat) (r : Zag) (h : Zbq a0 a1 N = some r) : LSpec Tryz.prog 5 #[vi a0, vi a1] [] (Zmh a0 a1 r) (Zlm a0 a1 r) :=
 (Zsy a0 a1 N) r h

noncomputable def Zln (a0 a1 : Int) (n : Nat) : Zx := .call [] (Value.tuple #[vs n 0 31 31, vq]) [(n, some (.cells [vi (10 : Int), vq, vq, vq, vi (1 : Int), vi (1 : Int), vi a1, vq, vi (15 : Int), vq, vq, vq, vi (13 : Int), vi (2 : Int), vq, vi a0, vi (9 : Int), vi (2 : Int), vi (27 : Int), vq, vi (13 : Int), vi (3 : Int), vi (2 : Int), vi (2 : Int), vi (7 : Int), vi (4 : Int), vi (1 : Int), vi (3 : Int), vi (9 : Int), vi (4 : Int), vi (9 : Int), vq, vi (8 : Int), vi (30 : Int), vq, vq, vi (6 : Int), vi (4 : Int), vi (1 : Int), vi (3 : Int), vi (9 : Int), vi (4 : Int), vi (19 : Int), vq, vi (13 : Int), vi (5 : Int), vi (2 : Int), vq, vi (9 : Int), vi (5 : Int), vi (15 : Int), vq, vi (3 : Int), vi (2 : Int), vi (5 : Int), vq, vi (8 : Int), vi (5 : Int), vq, vq, vi (11 : Int), vi (6 : Int), vi (3 : Int), vi (3 : Int), vi (14 : Int), vi (6 : Int), vi (2 : Int), vi (1 : Int), vi (14 : Int), vi (2 : Int), vq, vi (6 : Int), vi (8 : Int), vi (30 : Int), vq, vq, vi (13 : Int), vi (5 : Int), vi (2 : Int), vi (1 : Int), vi (9 : Int), vi (5 : Int), vi (23 : Int), vq, vi (3 : Int), vi (2 : Int), vi (5 : Int), vq, vi (8 : Int), vi (5 : Int), vq, vq, vi (11 : Int), vi (6 : Int), vi (3 : Int), vi (3 : Int), vi (14 : Int), vi (6 : Int), vi (2 : Int), vi (1 : Int), vi (14 : Int), vi (2 : Int), vi (1 : Int), vi (6 : Int), vi (8 : Int), vi (30 : Int), vq, vq, vi (11 : Int), vi (6 : Int), vi (3 : Int), vi (3 : Int), vi (14 : Int), vi (6 : Int), vi (2 : Int), vi (1 : Int), vi (14 : Int), vq, vi a0, vi (6 : Int), vi (17 : Int), vq, vq, vq] 42))] 1
def ZhA (A : Array Value) (a0 a1 : Int) (n : Nat) : Prop := Zj Tryz.prog 5 A [] (Value.tuple #[vs n 0 31 31, vq]) [(n, some (.cells [vi (10 : Int), vq, vq, vq, vi (1 : Int), vi (1 : Int), vi a1, vq, vi (15 : Int), vq, vq, vq, vi (13 : Int), vi (2 : Int), vq, vi a0, vi (9 : Int), vi (2 : Int), vi (27 : Int), vq, vi (13 : Int), vi (3 : Int), vi (2 : Int), vi (2 : Int), vi (7 : Int), vi (4 : Int), vi (1 : Int), vi (3 : Int), vi (9 : Int), vi (4 : Int), vi (9 : Int), vq, vi (8 : Int), vi (30 : Int), vq, vq, vi (6 : Int), vi (4 : Int), vi (1 : Int), vi (3 : Int), vi (9 : Int), vi (4 : Int), vi (19 : Int), vq, vi (13 : Int), vi (5 : Int), vi (2 : Int), vq, vi (9 : Int), vi (5 : Int), vi (15 : Int), vq, vi (3 : Int), vi (2 : Int), vi (5 : Int), vq, vi (8 : Int), vi (5 : Int), vq, vq, vi (11 : Int), vi (6 : Int), vi (3 : Int), vi (3 : Int), vi (14 : Int), vi (6 : Int), vi (2 : Int), vi (1 : Int), vi (14 : Int), vi (2 : Int), vq, vi (6 : Int), vi (8 : Int), vi (30 : Int), vq, vq, vi (13 : Int), vi (5 : Int), vi (2 : Int), vi (1 : Int), vi (9 : Int), vi (5 : Int), vi (23 : Int), vq, vi (3 : Int), vi (2 : Int), vi (5 : Int), vq, vi (8 : Int), vi (5 : Int), vq, vq, vi (11 : Int), vi (6 : Int), vi (3 : Int), vi (3 : Int), vi (14 : Int), vi (6 : Int), vi (2 : Int), vi (1 : Int), vi (14 : Int), vi (2 : Int), vi (1 : Int), vi (6 : Int), vi (8 : Int), vi (30 : Int), vq, vq, vi (11 : Int), vi (6 : Int), vi (3 : Int), vi (3 : Int), vi (14 : Int), vi (6 : Int), vi (2 : Int), vi (1 : Int), vi (14 : Int), vq, vi a0, vi (6 : Int), vi (17 : Int), vq, vq, vq] 42))] n 1

theorem Zlo (A : Array Value) (a0 a1 : Int) (N : Nat) (h : Zbq a0 a1 N = some (.r0)) (n : Nat) (hA : A = #[vi a0, vi a1]) (hnd : ([] : List Nat).Nodup) (hlt : ∀ k ∈ ([] : List Nat), k < n) : ZhA A a0 a1  n :=
 Zm hA (LSpec.callL (show LSpec Tryz.prog 5 #[vi a0, vi a1] [] (Value.tuple #[vs 0 0 31 31, vq]) [some (.cells [vi (10 : Int), vq, vq, vq, vi (1 : Int), vi (1 : Int), vi a1, vq, vi (15 : Int), vq, vq, vq, vi (13 : Int), vi (2 : Int), vq, vi a0, vi (9 : Int), vi (2 : Int), vi (27 : Int), vq, vi (13 : Int), vi (3 : Int), vi (2 : Int), vi (2 : Int), vi (7 : Int), vi (4 : Int), vi (1 : Int), vi (3 : Int), vi (9 : Int), vi (4 : Int), vi (9 : Int), vq, vi (8 : Int), vi (30 : Int), vq, vq, vi (6 : Int), vi (4 : Int), vi (1 : Int), vi (3 : Int), vi (9 : Int), vi (4 : Int), vi (19 : Int), vq, vi (13 : Int), vi (5 : Int), vi (2 : Int), vq, vi (9 : Int), vi (5 : Int), vi (15 : Int), vq, vi (3 : Int), vi (2 : Int), vi (5 : Int), vq, vi (8 : Int), vi (5 : Int), vq, vq, vi (11 : Int), vi (6 : Int), vi (3 : Int), vi (3 : Int), vi (14 : Int), vi (6 : Int), vi (2 : Int), vi (1 : Int), vi (14 : Int), vi (2 : Int), vq, vi (6 : Int), vi (8 : Int), vi (30 : Int), vq, vq, vi (13 : Int), vi (5 : Int), vi (2 : Int), vi (1 : Int), vi (9 : Int), vi (5 : Int), vi (23 : Int), vq, vi (3 : Int), vi (2 : Int), vi (5 : Int), vq, vi (8 : Int), vi (5 : Int), vq, vq, vi (11 : Int), vi (6 : Int), vi (3 : Int), vi (3 : Int), vi (14 : Int), vi (6 : Int), vi (2 : Int), vi (1 : Int), vi (14 : Int), vi (2 : Int), vi (1 : Int), vi (6 : Int), vi (8 : Int), vi (30 : Int), vq, vq, vi (11 : Int), vi (6 : Int), vi (3 : Int), vi (3 : Int), vi (14 : Int), vi (6 : Int), vi (2 : Int), vi (1 : Int), vi (14 : Int), vq, vi a0, vi (6 : Int), vi (17 : Int), vq, vq, vq] 42)] from ZiH a0 a1 N _ h) [] n [0] rfl hnd hlt (show 0 ≤ 1 from by decide) (show ∀ j ∈ ([0] : List Nat), j < 1 from by decide) (by rfl) trivial (by rfl) ⟨rfl, trivial⟩ ⟨(by decide), trivial⟩ rfl rfl rfl rfl (Za (ZbX rfl (Zi2 rfl)) rfl))

noncomputable def ZhB (a0 a1 : Int) (n : Nat) : Zx := .call [] (Value.tuple #[vn, vi (240 : Int)]) [] 0
def ZfT (A : Array Value) (a0 a1 : Int) (n : Nat) : Prop := Zj Tryz.prog 5 A [] (Value.tuple #[vn, vi (240 : Int)]) [] n 0

theorem ZhC (A : Array Value) (a0 a1 : Int) (N : Nat) (h : Zbq a0 a1 N = some (.r1)) (n : Nat) (hA : A = #[vi a0, vi a1]) (hnd : ([] : List Nat).Nodup) (hlt : ∀ k ∈ ([] : List Nat), k < n) : ZfT A a0 a1  n :=
 Zm hA (LSpec.callL (show LSpec Tryz.prog 5 #[vi a0, vi a1] [] (Value.tuple #[vn, vi (240 : Int)]) [] from ZiH a0 a1 N _ h) [] n [] rfl hnd hlt (show 0 ≤ 0 from by decide) (show ∀ j ∈ ([] : List Nat), j < 0 from by decide) (by rfl) trivial (by rfl) trivial trivial rfl rfl rfl rfl rfl)

noncomputable def Zk2  : ZcD → Value
 | .r0 => vq
noncomputable def Zjm  : ZcD → List (Option AObj)
 | .r0 => []

theorem Zq8  (N : Nat) : Gx Tryz.prog 30 [] #[Value.agg #[vi (1 : Int), vi (7 : Int), vq, vq]] (Zk2 ) (Zjm ) (Zds  N) := by
 unfold Zds
 exact Zh Zi (r := (.r0 : ZcD)) (fu := 4000) (orc := (Zl [] [] [] [] [])) (live := []) (u := vq) (bl := []) (ob := []) (by kernel_rfl) Zf rfl (by decide) (by rfl) rr trivial (Zg _ rfl)

theorem ZoX  (N : Nat) (r : ZcD) (h : Zds  N = some r) : LSpec Tryz.prog 30 #[Value.agg #[vi (1 : Int), vi (7 : Int), vq, vq]] [] (Zk2  r) (Zjm  r) :=
 (Zq8  N) r h

noncomputable def Zct  (n : Nat) : Zx := .call [] (vq) [] 0
def ZbQ (A : Array Value)  (n : Nat) : Prop := Zj Tryz.prog 30 A [] (vq) [] n 0

theorem Zcu (A : Array Value)  (N : Nat) (h : Zds  N = some (.r0)) (n : Nat) (hA : A = #[Value.agg #[vi (1 : Int), vi (7 : Int), vq, vq]]) (hnd : ([] : List Nat).Nodup) (hlt : ∀ k ∈ ([] : List Nat), k < n) : ZbQ A   n :=
 Zm hA (LSpec.callL (show LSpec Tryz.prog 30 #[Value.agg #[vi (1 : Int), vi (7 : Int), vq, vq]] [] (vq) [] from ZoX  N _ h) [] n [] rfl hnd hlt (show 0 ≤ 0 from by decide) (show ∀ j ∈ ([] : List Nat), j < 0 from by decide) (by rfl) trivial (by rfl) trivial trivial rfl rfl rfl rfl rfl)

noncomputable def Zk3  : ZcE → Value
 | .r0 => vq
noncomputable def Zjn  : ZcE → List (Option AObj)
 | .r0 => []

theorem Zq9  (N : Nat) : Gx Tryz.prog 30 [] #[Value.agg #[vi (9 : Int), vi (2 : Int), vi (15 : Int), vq]] (Zk3 ) (Zjn ) (Zdt  N) := by
 unfold Zdt
 exact Zh Zi (r := (.r0 : ZcE)) (fu := 4000) (orc := (Zl [] [] [] [] [])) (live := []) (u := vq) (bl := []) (ob := []) (by kernel_rfl) Zf rfl (by decide) (by rfl) rr trivial (Zg _ rfl)

theorem ZoY  (N : Nat) (r : ZcE) (h : Zdt  N = some r) : LSpec Tryz.prog 30 #[Value.agg #[vi (9 : Int), vi (2 : Int), vi (15 : Int), vq]] [] (Zk3  r) (Zjn  r) :=
 (Zq9  N) r h

noncomputable def Zfn  (n : Nat) : Zx := .call [] (vq) [] 0
def ZdG (A : Array Value)  (n : Nat) : Prop := Zj Tryz.prog 30 A [] (vq) [] n 0

theorem Zfo (A : Array Value)  (N : Nat) (h : Zdt  N = some (.r0)) (n : Nat) (hA : A = #[Value.agg #[vi (9 : Int), vi (2 : Int), vi (15 : Int), vq]]) (hnd : ([] : List Nat).Nodup) (hlt : ∀ k ∈ ([] : List Nat), k < n) : ZdG A   n :=
 Zm hA (LSpec.callL (show LSpec Tryz.prog 30 #[Value.agg #[vi (9 : Int), vi (2 : Int), vi (15 : Int), vq]] [] (vq) [] from ZoY  N _ h) [] n [] rfl hnd hlt (show 0 ≤ 0 from by decide) (show ∀ j ∈ ([] : List Nat), j < 0 from by decide) (by rfl) trivial (by rfl) trivial trivial rfl rfl rfl rfl rfl)

noncomputable def Zk4  : ZcF → Value
 | .r0 => vq
noncomputable def Zjo  : ZcF → List (Option AObj)
 | .r0 => []

theorem ZqA  (N : Nat) : Gx Tryz.prog 30 [] #[Value.agg #[vi (7 : Int), vi (7 : Int), vi (1 : Int), vi (3 : Int)]] (Zk4 ) (Zjo ) (Zdu  N) := by
 unfold Zdu
 exact Zh Zi (r := (.r0 : ZcF)) (fu := 4000) (orc := (Zl [] [] [] [] [])) (live := []) (u := vq) (bl := []) (ob := []) (by kernel_rfl) Zf rfl (by decide) (by rfl) rr trivial (Zg _ rfl)

theorem ZoZ  (N : Nat) (r : ZcF) (h : Zdu  N = some r) : LSpec Tryz.prog 30 #[Value.agg #[vi (7 : Int), vi (7 : Int), vi (1 : Int), vi (3 : Int)]] [] (Zk4  r) (Zjo  r) :=
 (ZqA  N) r h

noncomputable def Zfp  (n : Nat) : Zx := .call [] (vq) [] 0
def ZdH (A : Array Value)  (n : Nat) : Prop := Zj Tryz.prog 30 A [] (vq) [] n 0

theorem Zfq (A : Array Value)  (N : Nat) (h : Zdu  N = some (.r0)) (n : Nat) (hA : A = #[Value.agg #[vi (7 : Int), vi (7 : Int), vi (1 : Int), vi (3 : Int)]]) (hnd : ([] : List Nat).Nodup) (hlt : ∀ k ∈ ([] : List Nat), k < n) : ZdH A   n :=
 Zm hA (LSpec.callL (show LSpec Tryz.prog 30 #[Value.agg #[vi (7 : Int), vi (7 : Int), vi (1 : Int), vi (3 : Int)]] [] (vq) [] from ZoZ  N _ h) [] n [] rfl hnd hlt (show 0 ≤ 0 from by decide) (show ∀ j ∈ ([] : List Nat), j < 0 from by decide) (by rfl) trivial (by rfl) trivial trivial rfl rfl rfl rfl rfl)

noncomputable def Zk5  : ZcG → Value
 | .r0 => vq
noncomputable def Zjp  : ZcG → List (Option AObj)
 | .r0 => []

theorem ZqB  (N : Nat) : Gx Tryz.prog 30 [] #[Value.agg #[vi (9 : Int), vi (7 : Int), vi (10 : Int), vq]] (Zk5 ) (Zjp ) (Zdv  N) := by
 unfold Zdv
 exact Zh Zi (r := (.r0 : ZcG)) (fu := 4000) (orc := (Zl [] [] [] [] [])) (live := []) (u := vq) (bl := []) (ob := []) (by kernel_rfl) Zf rfl (by decide) (by rfl) rr trivial (Zg _ rfl)

theorem Zpa  (N : Nat) (r : ZcG) (h : Zdv  N = some r) : LSpec Tryz.prog 30 #[Value.agg #[vi (9 : Int), vi (7 : Int), vi (10 : Int), vq]] [] (Zk5  r) (Zjp  r) :=
 (ZqB  N) r h

noncomputable def Zfr  (n : Nat) : Zx := .call [] (vq) [] 0
def ZdI (A : Array Value)  (n : Nat) : Prop := Zj Tryz.prog 30 A [] (vq) [] n 0

theorem Zfs (A : Array Value)  (N : Nat) (h : Zdv  N = some (.r0)) (n : Nat) (hA : A = #[Value.agg #[vi (9 : Int), vi (7 : Int), vi (10 : Int), vq]]) (hnd : ([] : List Nat).Nodup) (hlt : ∀ k ∈ ([] : List Nat), k < n) : ZdI A   n :=
 Zm hA (LSpec.callL (show LSpec Tryz.prog 30 #[Value.agg #[vi (9 : Int), vi (7 : Int), vi (10 : Int), vq]] [] (vq) [] from Zpa  N _ h) [] n [] rfl hnd hlt (show 0 ≤ 0 from by decide) (show ∀ j ∈ ([] : List Nat), j < 0 from by decide) (by rfl) trivial (by rfl) trivial trivial rfl rfl rfl rfl rfl)

noncomputable def Zk6  : ZcH → Value
 | .r0 => vq
noncomputable def Zjq  : ZcH → List (Option AObj)
 | .r0 => []

theorem ZqC  (N : Nat) : Gx Tryz.prog 30 [] #[Value.agg #[vi (8 : Int), vi (15 : Int), vq, vq]] (Zk6 ) (Zjq ) (Zdw  N) := by
 unfold Zdw
 exact Zh Zi (r := (.r0 : ZcH)) (fu := 4000) (orc := (Zl [] [] [] [] [])) (live := []) (u := vq) (bl := []) (ob := []) (by kernel_rfl) Zf rfl (by decide) (by rfl) rr trivial (Zg _ rfl)

theorem Zpb  (N : Nat) (r : ZcH) (h : Zdw  N = some r) : LSpec Tryz.prog 30 #[Value.agg #[vi (8 : Int), vi (15 : Int), vq, vq]] [] (Zk6  r) (Zjq  r) :=
 (ZqC  N) r h

noncomputable def Zft  (n : Nat) : Zx := .call [] (vq) [] 0
def ZdJ (A : Array Value)  (n : Nat) : Prop := Zj Tryz.prog 30 A [] (vq) [] n 0

theorem Zfu (A : Array Value)  (N : Nat) (h : Zdw  N = some (.r0)) (n : Nat) (hA : A = #[Value.agg #[vi (8 : Int), vi (15 : Int), vq, vq]]) (hnd : ([] : List Nat).Nodup) (hlt : ∀ k ∈ ([] : List Nat), k < n) : ZdJ A   n :=
 Zm hA (LSpec.callL (show LSpec Tryz.prog 30 #[Value.agg #[vi (8 : Int), vi (15 : Int), vq, vq]] [] (vq) [] from Zpb  N _ h) [] n [] rfl hnd hlt (show 0 ≤ 0 from by decide) (show ∀ j ∈ ([] : List Nat), j < 0 from by decide) (by rfl) trivial (by rfl) trivial trivial rfl rfl rfl rfl rfl)

noncomputable def Zk7  : ZcI → Value
 | .r0 => vq
noncomputable def Zjr  : ZcI → List (Option AObj)
 | .r0 => []

theorem ZqD  (N : Nat) : Gx Tryz.prog 30 [] #[Value.agg #[vi (9 : Int), vi (4 : Int), vi (17 : Int), vq]] (Zk7 ) (Zjr ) (Zdx  N) := by
 unfold Zdx
 exact Zh Zi (r := (.r0 : ZcI)) (fu := 4000) (orc := (Zl [] [] [] [] [])) (live := []) (u := vq) (bl := []) (ob := []) (by kernel_rfl) Zf rfl (by decide) (by rfl) rr trivial (Zg _ rfl)

theorem Zpc  (N : Nat) (r : ZcI) (h : Zdx  N = some r) : LSpec Tryz.prog 30 #[Value.agg #[vi (9 : Int), vi (4 : Int), vi (17 : Int), vq]] [] (Zk7  r) (Zjr  r) :=
 (ZqD  N) r h

noncomputable def Zfv  (n : Nat) : Zx := .call [] (vq) [] 0
def ZdK (A : Array Value)  (n : Nat) : Prop := Zj Tryz.prog 30 A [] (vq) [] n 0

theorem Zfw (A : Array Value)  (N : Nat) (h : Zdx  N = some (.r0)) (n : Nat) (hA : A = #[Value.agg #[vi (9 : Int), vi (4 : Int), vi (17 : Int), vq]]) (hnd : ([] : List Nat).Nodup) (hlt : ∀ k ∈ ([] : List Nat), k < n) : ZdK A   n :=
 Zm hA (LSpec.callL (show LSpec Tryz.prog 30 #[Value.agg #[vi (9 : Int), vi (4 : Int), vi (17 : Int), vq]] [] (vq) [] from Zpc  N _ h) [] n [] rfl hnd hlt (show 0 ≤ 0 from by decide) (show ∀ j ∈ ([] : List Nat), j < 0 from by decide) (by rfl) trivial (by rfl) trivial trivial rfl rfl rfl rfl rfl)

noncomputable def Zk8  : ZcJ → Value
 | .r0 => vq
noncomputable def Zjs  : ZcJ → List (Option AObj)
 | .r0 => []

theorem ZqE  (N : Nat) : Gx Tryz.prog 30 [] #[Value.agg #[vi (8 : Int), vi (17 : Int), vq, vq]] (Zk8 ) (Zjs ) (Zdy  N) := by
 unfold Zdy
 exact Zh Zi (r := (.r0 : ZcJ)) (fu := 4000) (orc := (Zl [] [] [] [] [])) (live := []) (u := vq) (bl := []) (ob := []) (by kernel_rfl) Zf rfl (by decide) (by rfl) rr trivial (Zg _ rfl)

theorem Zpd  (N : Nat) (r : ZcJ) (h : Zdy  N = some r) : LSpec Tryz.prog 30 #[Value.agg #[vi (8 : Int), vi (17 : Int), vq, vq]] [] (Zk8  r) (Zjs  r) :=
 (ZqE  N) r h

noncomputable def Zfx  (n : Nat) : Zx := .call [] (vq) [] 0
def ZdL (A : Array Value)  (n : Nat) : Prop := Zj Tryz.prog 30 A [] (vq) [] n 0

theorem Zfy (A : Array Value)  (N : Nat) (h : Zdy  N = some (.r0)) (n : Nat) (hA : A = #[Value.agg #[vi (8 : Int), vi (17 : Int), vq, vq]]) (hnd : ([] : List Nat).Nodup) (hlt : ∀ k ∈ ([] : List Nat), k < n) : ZdL A   n :=
 Zm hA (LSpec.callL (show LSpec Tryz.prog 30 #[Value.agg #[vi (8 : Int), vi (17 : Int), vq, vq]] [] (vq) [] from Zpd  N _ h) [] n [] rfl hnd hlt (show 0 ≤ 0 from by decide) (show ∀ j ∈ ([] : List Nat), j < 0 from by decide) (by rfl) trivial (by rfl) trivial trivial rfl rfl rfl rfl rfl)

noncomputable def Zk9  : ZcK → Value
 | .r0 => vq
noncomputable def Zjt  : ZcK → List (Option AObj)
 | .r0 => []

theorem ZqF  (N : Nat) : Gx Tryz.prog 30 [] #[Value.agg #[vi (8 : Int), vi (19 : Int), vq, vq]] (Zk9 ) (Zjt ) (ZbB  N) := by
 unfold ZbB
 exact Zh Zi (r := (.r0 : ZcK)) (fu := 4000) (orc := (Zl [] [] [] [] [])) (live := []) (u := vq) (bl := []) (ob := []) (by kernel_rfl) Zf rfl (by decide) (by rfl) rr trivial (Zg _ rfl)

theorem Zpe  (N : Nat) (r : ZcK) (h : ZbB  N = some r) : LSpec Tryz.prog 30 #[Value.agg #[vi (8 : Int), vi (19 : Int), vq, vq]] [] (Zk9  r) (Zjt  r) :=
 (ZqF  N) r h

noncomputable def Zbl  (n : Nat) : Zx := .call [] (vq) [] 0
def ZaH (A : Array Value)  (n : Nat) : Prop := Zj Tryz.prog 30 A [] (vq) [] n 0

theorem Zbm (A : Array Value)  (N : Nat) (h : ZbB  N = some (.r0)) (n : Nat) (hA : A = #[Value.agg #[vi (8 : Int), vi (19 : Int), vq, vq]]) (hnd : ([] : List Nat).Nodup) (hlt : ∀ k ∈ ([] : List Nat), k < n) : ZaH A   n :=
 Zm hA (LSpec.callL (show LSpec Tryz.prog 30 #[Value.agg #[vi (8 : Int), vi (19 : Int), vq, vq]] [] (vq) [] from Zpe  N _ h) [] n [] rfl hnd hlt (show 0 ≤ 0 from by decide) (show ∀ j ∈ ([] : List Nat), j < 0 from by decide) (by rfl) trivial (by rfl) trivial trivial rfl rfl rfl rfl rfl)

noncomputable def ZkA  : ZcL → Value
 | .r0 => vq
noncomputable def Zju  : ZcL → List (Option AObj)
 | .r0 => []

theorem ZqG  (N : Nat) : Gx Tryz.prog 30 [] #[Value.agg #[vi (19 : Int), vi (7 : Int), vq, vq]] (ZkA ) (Zju ) (ZbC  N) := by
 unfold ZbC
 exact Zh Zi (r := (.r0 : ZcL)) (fu := 4000) (orc := (Zl [] [] [] [] [])) (live := []) (u := vq) (bl := []) (ob := []) (by kernel_rfl) Zf rfl (by decide) (by rfl) rr trivial (Zg _ rfl)

theorem Zpf  (N : Nat) (r : ZcL) (h : ZbC  N = some r) : LSpec Tryz.prog 30 #[Value.agg #[vi (19 : Int), vi (7 : Int), vq, vq]] [] (ZkA  r) (Zju  r) :=
 (ZqG  N) r h

noncomputable def ZbR  (n : Nat) : Zx := .call [] (vq) [] 0
def Zbn (A : Array Value)  (n : Nat) : Prop := Zj Tryz.prog 30 A [] (vq) [] n 0

theorem ZbS (A : Array Value)  (N : Nat) (h : ZbC  N = some (.r0)) (n : Nat) (hA : A = #[Value.agg #[vi (19 : Int), vi (7 : Int), vq, vq]]) (hnd : ([] : List Nat).Nodup) (hlt : ∀ k ∈ ([] : List Nat), k < n) : Zbn A   n :=
 Zm hA (LSpec.callL (show LSpec Tryz.prog 30 #[Value.agg #[vi (19 : Int), vi (7 : Int), vq, vq]] [] (vq) [] from Zpf  N _ h) [] n [] rfl hnd hlt (show 0 ≤ 0 from by decide) (show ∀ j ∈ ([] : List Nat), j < 0 from by decide) (by rfl) trivial (by rfl) trivial trivial rfl rfl rfl rfl rfl)

noncomputable def ZqZ (a0 a1 : Int) : ZV → Value
 | .r0 => Value.tuple #[vs 0 0 21 21, vq]
 | .r1 => Value.tuple #[vn, vq]
 | .r2 => Value.tuple #[vn, vi (240 : Int)]
noncomputable def ZpC (a0 a1 : Int) : ZV → List (Option AObj)
 | .r0 => [some (.cells [vi (10 : Int), vq, vq, vq, vi (1 : Int), vi (1 : Int), vi a1, vq, vi (1 : Int), vi (7 : Int), vq, vq, vi (15 : Int), vq, vq, vq, vi (13 : Int), vi (2 : Int), vq, vi a0, vi (9 : Int), vi (2 : Int), vi (15 : Int), vq, vi (13 : Int), vi (3 : Int), vi (2 : Int), vi (2 : Int), vi (7 : Int), vi (7 : Int), vi (1 : Int), vi (3 : Int), vi (9 : Int), vi (7 : Int), vi (10 : Int), vq, vi (8 : Int), vi (15 : Int), vq, vq, vi (6 : Int), vi (4 : Int), vi (1 : Int), vi (3 : Int), vi (13 : Int), vi (5 : Int), vi (2 : Int), vi (1 : Int), vi (9 : Int), vi (4 : Int), vi (17 : Int), vq, vi (13 : Int), vi (5 : Int), vi (2 : Int), vq, vi (8 : Int), vi (17 : Int), vq, vq, vi (8 : Int), vi (19 : Int), vq, vq, vi (8 : Int), vi (19 : Int), vq, vq, vi (3 : Int), vi (2 : Int), vi (5 : Int), vq, vi (8 : Int), vi (5 : Int), vq, vq, vi (17 : Int), vq, vq, vq, vi (19 : Int), vi (7 : Int), vq, vq] 42)]
 | .r1 => []
 | .r2 => []

theorem Zvc (a0 a1 : Int) (N : Nat) : Gx Tryz.prog 6 [] #[vi a0, vi a1] (ZqZ a0 a1) (ZpC a0 a1) (Zcc a0 a1 N) := by
 unfold Zcc
 refine ZN (fun g0 => ?_) (fun g0 => ?_)
 ·
  refine ZN (fun g1 => ?_) (fun g1 => ?_)
  ·
   refine ZN (fun g2 => ?_) (fun g2 => ?_)
   ·
    refine ZN (fun g3 => ?_) (fun g3 => ?_)
    ·
     refine Zd (fun z4 c4 => ?_)
     cases z4 with
     | r0 =>
      refine Zd (fun z5 c5 => ?_)
      cases z5 with
      | r0 =>
       refine Zd (fun z6 c6 => ?_)
       cases z6 with
       | r0 =>
        refine Zd (fun z7 c7 => ?_)
        cases z7 with
        | r0 =>
         refine Zd (fun z8 c8 => ?_)
         cases z8 with
         | r0 =>
          refine Zd (fun z9 c9 => ?_)
          cases z9 with
          | r0 =>
           refine Zd (fun z10 c10 => ?_)
           cases z10 with
           | r0 =>
            refine Zd (fun z11 c11 => ?_)
            cases z11 with
            | r0 =>
             refine Zd (fun z12 c12 => ?_)
             cases z12 with
             | r0 =>
              refine Zd (fun z13 c13 => ?_)
              cases z13 with
              | r0 =>
               refine Zd (fun z14 c14 => ?_)
               cases z14 with
               | r0 =>
                refine Zd (fun z15 c15 => ?_)
                cases z15 with
                | r0 =>
                 refine Zd (fun z16 c16 => ?_)
                 cases z16 with
                 | r0 =>
                  refine Zd (fun z17 c17 => ?_)
                  cases z17 with
                  | r0 =>
                   refine Zd (fun z18 c18 => ?_)
                   cases z18 with
                   | r0 =>
                    refine Zd (fun z19 c19 => ?_)
                    cases z19 with
                    | r0 =>
                     refine Zd (fun z20 c20 => ?_)
                     cases z20 with
                     | r0 =>
                      refine Zd (fun z21 c21 => ?_)
                      cases z21 with
                      | r0 =>
                       refine Zd (fun z22 c22 => ?_)
                       cases z22 with
                       | r0 =>
                        refine Zd (fun z23 c23 => ?_)
                        cases z23 with
                        | r0 =>
                         refine Zd (fun z24 c24 => ?_)
                         cases z24 with
                         | r0 =>
                          refine Zd (fun z25 c25 => ?_)
                          cases z25 with
                          | r0 =>
                           refine Zd (fun z26 c26 => ?_)
                           cases z26 with
                           | r0 =>
                            refine Zd (fun z27 c27 => ?_)
                            cases z27 with
                            | r0 =>
                             refine Zd (fun z28 c28 => ?_)
                             cases z28 with
                             | r0 =>
                              refine Zd (fun z29 c29 => ?_)
                              cases z29 with
                              | r0 =>
                               refine Zd (fun z30 c30 => ?_)
                               cases z30 with
                               | r0 =>
                                refine Zd (fun z31 c31 => ?_)
                                cases z31 with
                                | r0 =>
                                 refine Zd (fun z32 c32 => ?_)
                                 cases z32 with
                                 | r0 =>
                                  refine Zd (fun z33 c33 => ?_)
                                  cases z33 with
                                  | r0 =>
                                   refine Zd (fun z34 c34 => ?_)
                                   cases z34 with
                                   | r0 =>
                                    refine Zd (fun z35 c35 => ?_)
                                    cases z35 with
                                    | r0 =>
                                     refine Zd (fun z36 c36 => ?_)
                                     cases z36 with
                                     | r0 =>
                                      refine Zd (fun z37 c37 => ?_)
                                      cases z37 with
                                      | r0 =>
                                       refine Zd (fun z38 c38 => ?_)
                                       cases z38 with
                                       | r0 =>
                                        refine Zd (fun z39 c39 => ?_)
                                        cases z39 with
                                        | r0 =>
                                         refine Zd (fun z40 c40 => ?_)
                                         cases z40 with
                                         | r0 =>
                                          refine Zd (fun z41 c41 => ?_)
                                          cases z41 with
                                          | r0 =>
                                           refine Zd (fun z42 c42 => ?_)
                                           cases z42 with
                                           | r0 =>
                                            refine Zd (fun z43 c43 => ?_)
                                            cases z43 with
                                            | r0 =>
                                             refine Zd (fun z44 c44 => ?_)
                                             cases z44 with
                                             | r0 =>
                                              refine Zd (fun z45 c45 => ?_)
                                              cases z45 with
                                              | r0 =>
                                               exact Zh Zi (r := (.r0 : ZV)) (fu := 4000) (orc := (Zl [(0, true), (1, true), (3, true), (4, true)] [] [] [] [(4, (Zs     3)), (8, (ZX (a1)    7)), (12, (Zct     11)), (16, (Zu     15)), (20, (Z2 (a0)    19)), (24, (Zfn     23)), (28, (Zay     27)), (32, (Zfp     31)), (36, (Zfr     35)), (40, (Zft     39)), (44, (Zak     43)), (48, (Zao     47)), (52, (Zfv     51)), (56, (Zam     55)), (60, (Zfx     59)), (64, (Zbl     63)), (68, (Zbl     67)), (72, (ZG     71)), (76, (ZI     75)), (80, (ZO     79)), (84, (ZbR     83)), (87, (Zs     88)), (91, (ZX (a1)    94)), (95, (Zct     100)), (99, (Zu     106)), (103, (Z2 (a0)    112)), (107, (Zfn     118)), (112, (Zay     124)), (116, (Zfp     130)), (120, (Zfr     136)), (125, (Zft     142)), (130, (Zak     148)), (134, (Zao     154)), (138, (Zfv     160)), (143, (Zam     166)), (147, (Zfx     172)), (152, (Zbl     178)), (157, (Zbl     184)), (162, (ZG     190)), (166, (ZI     196)), (171, (ZO     202)), (175, (ZbR     208))])) (live := [211]) (u := Value.tuple #[vs 211 0 21 21, vq]) (bl := [some (.cells [vi (10 : Int), vq, vq, vq, vi (1 : Int), vi (1 : Int), vi a1, vq, vi (1 : Int), vi (7 : Int), vq, vq, vi (15 : Int), vq, vq, vq, vi (13 : Int), vi (2 : Int), vq, vi a0, vi (9 : Int), vi (2 : Int), vi (15 : Int), vq, vi (13 : Int), vi (3 : Int), vi (2 : Int), vi (2 : Int), vi (7 : Int), vi (7 : Int), vi (1 : Int), vi (3 : Int), vi (9 : Int), vi (7 : Int), vi (10 : Int), vq, vi (8 : Int), vi (15 : Int), vq, vq, vi (6 : Int), vi (4 : Int), vi (1 : Int), vi (3 : Int), vi (13 : Int), vi (5 : Int), vi (2 : Int), vi (1 : Int), vi (9 : Int), vi (4 : Int), vi (17 : Int), vq, vi (13 : Int), vi (5 : Int), vi (2 : Int), vq, vi (8 : Int), vi (17 : Int), vq, vq, vi (8 : Int), vi (19 : Int), vq, vq, vi (8 : Int), vi (19 : Int), vq, vq, vi (3 : Int), vi (2 : Int), vi (5 : Int), vq, vi (8 : Int), vi (5 : Int), vq, vq, vi (17 : Int), vq, vq, vq, vi (19 : Int), vi (7 : Int), vq, vq] 42)]) (ob := [(dP (Zbn #[Value.agg #[vi (19 : Int), vi (7 : Int), vq, vq]]     208), true), (dP (ZK #[Value.agg #[vi (17 : Int), vq, vq, vq]]     202), true), (dP (ZF #[Value.agg #[vi (8 : Int), vi (5 : Int), vq, vq]]     196), true), (dP (ZE #[Value.agg #[vi (3 : Int), vi (2 : Int), vi (5 : Int), vq]]     190), true), (dP (ZaH #[Value.agg #[vi (8 : Int), vi (19 : Int), vq, vq]]     184), true), (dP (ZaH #[Value.agg #[vi (8 : Int), vi (19 : Int), vq, vq]]     178), true), (dP (ZdL #[Value.agg #[vi (8 : Int), vi (17 : Int), vq, vq]]     172), true), (dP (Zac #[Value.agg #[vi (13 : Int), vi (5 : Int), vi (2 : Int), vq]]     166), true), (dP (ZdK #[Value.agg #[vi (9 : Int), vi (4 : Int), vi (17 : Int), vq]]     160), true), (dP (Zad #[Value.agg #[vi (13 : Int), vi (5 : Int), vi (2 : Int), vi (1 : Int)]]     154), true), (dP (Zab #[Value.agg #[vi (6 : Int), vi (4 : Int), vi (1 : Int), vi (3 : Int)]]     148), true), (dP (ZdJ #[Value.agg #[vi (8 : Int), vi (15 : Int), vq, vq]]     142), true), (dP (ZdI #[Value.agg #[vi (9 : Int), vi (7 : Int), vi (10 : Int), vq]]     136), true), (dP (ZdH #[Value.agg #[vi (7 : Int), vi (7 : Int), vi (1 : Int), vi (3 : Int)]]     130), true), (dP (Zai #[Value.agg #[vi (13 : Int), vi (3 : Int), vi (2 : Int), vi (2 : Int)]]     124), true), (dP (ZdG #[Value.agg #[vi (9 : Int), vi (2 : Int), vi (15 : Int), vq]]     118), true), (dP (Zz #[Value.agg #[vi (13 : Int), vi (2 : Int), vq, vi a0]] (a0)    112), true), (dP (Zq #[Value.agg #[vi (15 : Int), vq, vq, vq]]     106), true), (dP (ZbQ #[Value.agg #[vi (1 : Int), vi (7 : Int), vq, vq]]     100), true), (dP (ZU #[Value.agg #[vi (1 : Int), vi (1 : Int), vi a1, vq]] (a1)    94), true), (dP (Zr #[Value.agg #[vi (10 : Int), vq, vq, vq]]     88), true), (dP (Zbn #[Value.agg #[vi (19 : Int), vi (7 : Int), vq, vq]]     83), true), (dP (ZK #[Value.agg #[vi (17 : Int), vq, vq, vq]]     79), true), (dP (ZF #[Value.agg #[vi (8 : Int), vi (5 : Int), vq, vq]]     75), true), (dP (ZE #[Value.agg #[vi (3 : Int), vi (2 : Int), vi (5 : Int), vq]]     71), true), (dP (ZaH #[Value.agg #[vi (8 : Int), vi (19 : Int), vq, vq]]     67), true), (dP (ZaH #[Value.agg #[vi (8 : Int), vi (19 : Int), vq, vq]]     63), true), (dP (ZdL #[Value.agg #[vi (8 : Int), vi (17 : Int), vq, vq]]     59), true), (dP (Zac #[Value.agg #[vi (13 : Int), vi (5 : Int), vi (2 : Int), vq]]     55), true), (dP (ZdK #[Value.agg #[vi (9 : Int), vi (4 : Int), vi (17 : Int), vq]]     51), true), (dP (Zad #[Value.agg #[vi (13 : Int), vi (5 : Int), vi (2 : Int), vi (1 : Int)]]     47), true), (dP (Zab #[Value.agg #[vi (6 : Int), vi (4 : Int), vi (1 : Int), vi (3 : Int)]]     43), true), (dP (ZdJ #[Value.agg #[vi (8 : Int), vi (15 : Int), vq, vq]]     39), true), (dP (ZdI #[Value.agg #[vi (9 : Int), vi (7 : Int), vi (10 : Int), vq]]     35), true), (dP (ZdH #[Value.agg #[vi (7 : Int), vi (7 : Int), vi (1 : Int), vi (3 : Int)]]     31), true), (dP (Zai #[Value.agg #[vi (13 : Int), vi (3 : Int), vi (2 : Int), vi (2 : Int)]]     27), true), (dP (ZdG #[Value.agg #[vi (9 : Int), vi (2 : Int), vi (15 : Int), vq]]     23), true), (dP (Zz #[Value.agg #[vi (13 : Int), vi (2 : Int), vq, vi a0]] (a0)    19), true), (dP (Zq #[Value.agg #[vi (15 : Int), vq, vq, vq]]     15), true), (dP (ZbQ #[Value.agg #[vi (1 : Int), vi (7 : Int), vq, vq]]     11), true), (dP (ZU #[Value.agg #[vi (1 : Int), vi (1 : Int), vi a1, vq]] (a1)    7), true), (dP (Zr #[Value.agg #[vi (10 : Int), vq, vq, vq]]     3), true), ((decide (a1 ≤ (1099511627776 : Int))), true), ((decide (a1 ≥ (-1099511627776 : Int))), true), ((decide (a0 ≤ (7 : Int))), true), ((decide (a0 ≥ (0 : Int))), true)]) (by kernel_rfl) (Zb (Zc (ZbS #[Value.agg #[vi (19 : Int), vi (7 : Int), vq, vq]]    N c45  208 rfl (by decide) (by decide))) <| Zb (Zc (ZP #[Value.agg #[vi (17 : Int), vq, vq, vq]]    N c44  202 rfl (by decide) (by decide))) <| Zb (Zc (ZJ #[Value.agg #[vi (8 : Int), vi (5 : Int), vq, vq]]    N c43  196 rfl (by decide) (by decide))) <| Zb (Zc (ZH #[Value.agg #[vi (3 : Int), vi (2 : Int), vi (5 : Int), vq]]    N c42  190 rfl (by decide) (by decide))) <| Zb (Zc (Zbm #[Value.agg #[vi (8 : Int), vi (19 : Int), vq, vq]]    N c41  184 rfl (by decide) (by decide))) <| Zb (Zc (Zbm #[Value.agg #[vi (8 : Int), vi (19 : Int), vq, vq]]    N c40  178 rfl (by decide) (by decide))) <| Zb (Zc (Zfy #[Value.agg #[vi (8 : Int), vi (17 : Int), vq, vq]]    N c39  172 rfl (by decide) (by decide))) <| Zb (Zc (Zan #[Value.agg #[vi (13 : Int), vi (5 : Int), vi (2 : Int), vq]]    N c38  166 rfl (by decide) (by decide))) <| Zb (Zc (Zfw #[Value.agg #[vi (9 : Int), vi (4 : Int), vi (17 : Int), vq]]    N c37  160 rfl (by decide) (by decide))) <| Zb (Zc (Zap #[Value.agg #[vi (13 : Int), vi (5 : Int), vi (2 : Int), vi (1 : Int)]]    N c36  154 rfl (by decide) (by decide))) <| Zb (Zc (Zal #[Value.agg #[vi (6 : Int), vi (4 : Int), vi (1 : Int), vi (3 : Int)]]    N c35  148 rfl (by decide) (by decide))) <| Zb (Zc (Zfu #[Value.agg #[vi (8 : Int), vi (15 : Int), vq, vq]]    N c34  142 rfl (by decide) (by decide))) <| Zb (Zc (Zfs #[Value.agg #[vi (9 : Int), vi (7 : Int), vi (10 : Int), vq]]    N c33  136 rfl (by decide) (by decide))) <| Zb (Zc (Zfq #[Value.agg #[vi (7 : Int), vi (7 : Int), vi (1 : Int), vi (3 : Int)]]    N c32  130 rfl (by decide) (by decide))) <| Zb (Zc (Zaz #[Value.agg #[vi (13 : Int), vi (3 : Int), vi (2 : Int), vi (2 : Int)]]    N c31  124 rfl (by decide) (by decide))) <| Zb (Zc (Zfo #[Value.agg #[vi (9 : Int), vi (2 : Int), vi (15 : Int), vq]]    N c30  118 rfl (by decide) (by decide))) <| Zb (Zc (Z3 #[Value.agg #[vi (13 : Int), vi (2 : Int), vq, vi a0]] (a0)   N c29  112 rfl (by decide) (by decide))) <| Zb (Zc (Zv #[Value.agg #[vi (15 : Int), vq, vq, vq]]    N c28  106 rfl (by decide) (by decide))) <| Zb (Zc (Zcu #[Value.agg #[vi (1 : Int), vi (7 : Int), vq, vq]]    N c27  100 rfl (by decide) (by decide))) <| Zb (Zc (ZY #[Value.agg #[vi (1 : Int), vi (1 : Int), vi a1, vq]] (a1)   N c26  94 rfl (by decide) (by decide))) <| Zb (Zc (Zt #[Value.agg #[vi (10 : Int), vq, vq, vq]]    N c25  88 rfl (by decide) (by decide))) <| Zb (Zc (ZbS #[Value.agg #[vi (19 : Int), vi (7 : Int), vq, vq]]    N c24  83 rfl (by decide) (by decide))) <| Zb (Zc (ZP #[Value.agg #[vi (17 : Int), vq, vq, vq]]    N c23  79 rfl (by decide) (by decide))) <| Zb (Zc (ZJ #[Value.agg #[vi (8 : Int), vi (5 : Int), vq, vq]]    N c22  75 rfl (by decide) (by decide))) <| Zb (Zc (ZH #[Value.agg #[vi (3 : Int), vi (2 : Int), vi (5 : Int), vq]]    N c21  71 rfl (by decide) (by decide))) <| Zb (Zc (Zbm #[Value.agg #[vi (8 : Int), vi (19 : Int), vq, vq]]    N c20  67 rfl (by decide) (by decide))) <| Zb (Zc (Zbm #[Value.agg #[vi (8 : Int), vi (19 : Int), vq, vq]]    N c19  63 rfl (by decide) (by decide))) <| Zb (Zc (Zfy #[Value.agg #[vi (8 : Int), vi (17 : Int), vq, vq]]    N c18  59 rfl (by decide) (by decide))) <| Zb (Zc (Zan #[Value.agg #[vi (13 : Int), vi (5 : Int), vi (2 : Int), vq]]    N c17  55 rfl (by decide) (by decide))) <| Zb (Zc (Zfw #[Value.agg #[vi (9 : Int), vi (4 : Int), vi (17 : Int), vq]]    N c16  51 rfl (by decide) (by decide))) <| Zb (Zc (Zap #[Value.agg #[vi (13 : Int), vi (5 : Int), vi (2 : Int), vi (1 : Int)]]    N c15  47 rfl (by decide) (by decide))) <| Zb (Zc (Zal #[Value.agg #[vi (6 : Int), vi (4 : Int), vi (1 : Int), vi (3 : Int)]]    N c14  43 rfl (by decide) (by decide))) <| Zb (Zc (Zfu #[Value.agg #[vi (8 : Int), vi (15 : Int), vq, vq]]    N c13  39 rfl (by decide) (by decide))) <| Zb (Zc (Zfs #[Value.agg #[vi (9 : Int), vi (7 : Int), vi (10 : Int), vq]]    N c12  35 rfl (by decide) (by decide))) <| Zb (Zc (Zfq #[Value.agg #[vi (7 : Int), vi (7 : Int), vi (1 : Int), vi (3 : Int)]]    N c11  31 rfl (by decide) (by decide))) <| Zb (Zc (Zaz #[Value.agg #[vi (13 : Int), vi (3 : Int), vi (2 : Int), vi (2 : Int)]]    N c10  27 rfl (by decide) (by decide))) <| Zb (Zc (Zfo #[Value.agg #[vi (9 : Int), vi (2 : Int), vi (15 : Int), vq]]    N c9  23 rfl (by decide) (by decide))) <| Zb (Zc (Z3 #[Value.agg #[vi (13 : Int), vi (2 : Int), vq, vi a0]] (a0)   N c8  19 rfl (by decide) (by decide))) <| Zb (Zc (Zv #[Value.agg #[vi (15 : Int), vq, vq, vq]]    N c7  15 rfl (by decide) (by decide))) <| Zb (Zc (Zcu #[Value.agg #[vi (1 : Int), vi (7 : Int), vq, vq]]    N c6  11 rfl (by decide) (by decide))) <| Zb (Zc (ZY #[Value.agg #[vi (1 : Int), vi (1 : Int), vi a1, vq]] (a1)   N c5  7 rfl (by decide) (by decide))) <| Zb (Zc (Zt #[Value.agg #[vi (10 : Int), vq, vq, vq]]    N c4  3 rfl (by decide) (by decide))) <| oY <| oY <| oY <| oY Zf) rfl (by decide) (by rfl) rr ⟨⟨rfl, ⟨[], by rfl⟩, by rfl⟩, trivial⟩ (Zg _ rfl)
                              | r1 =>
                               exact Zh Zi (r := (.r1 : ZV)) (fu := 4000) (orc := (Zl [(0, true), (1, true), (3, true), (4, true)] [] [] [] [(4, (Zs     3)), (8, (ZX (a1)    7)), (12, (Zct     11)), (16, (Zu     15)), (20, (Z2 (a0)    19)), (24, (Zfn     23)), (28, (Zay     27)), (32, (Zfp     31)), (36, (Zfr     35)), (40, (Zft     39)), (44, (Zak     43)), (48, (Zao     47)), (52, (Zfv     51)), (56, (Zam     55)), (60, (Zfx     59)), (64, (Zbl     63)), (68, (Zbl     67)), (72, (ZG     71)), (76, (ZI     75)), (80, (ZO     79)), (84, (ZbR     83)), (87, (Zs     88)), (91, (ZX (a1)    94)), (95, (Zct     100)), (99, (Zu     106)), (103, (Zbv (a0)    112))])) (live := []) (u := Value.tuple #[vn, vq]) (bl := []) (ob := [(dP (ZaZ #[Value.agg #[vi (13 : Int), vi (2 : Int), vq, vi a0]] (a0)    112), true), (dP (Zq #[Value.agg #[vi (15 : Int), vq, vq, vq]]     106), true), (dP (ZbQ #[Value.agg #[vi (1 : Int), vi (7 : Int), vq, vq]]     100), true), (dP (ZU #[Value.agg #[vi (1 : Int), vi (1 : Int), vi a1, vq]] (a1)    94), true), (dP (Zr #[Value.agg #[vi (10 : Int), vq, vq, vq]]     88), true), (dP (Zbn #[Value.agg #[vi (19 : Int), vi (7 : Int), vq, vq]]     83), true), (dP (ZK #[Value.agg #[vi (17 : Int), vq, vq, vq]]     79), true), (dP (ZF #[Value.agg #[vi (8 : Int), vi (5 : Int), vq, vq]]     75), true), (dP (ZE #[Value.agg #[vi (3 : Int), vi (2 : Int), vi (5 : Int), vq]]     71), true), (dP (ZaH #[Value.agg #[vi (8 : Int), vi (19 : Int), vq, vq]]     67), true), (dP (ZaH #[Value.agg #[vi (8 : Int), vi (19 : Int), vq, vq]]     63), true), (dP (ZdL #[Value.agg #[vi (8 : Int), vi (17 : Int), vq, vq]]     59), true), (dP (Zac #[Value.agg #[vi (13 : Int), vi (5 : Int), vi (2 : Int), vq]]     55), true), (dP (ZdK #[Value.agg #[vi (9 : Int), vi (4 : Int), vi (17 : Int), vq]]     51), true), (dP (Zad #[Value.agg #[vi (13 : Int), vi (5 : Int), vi (2 : Int), vi (1 : Int)]]     47), true), (dP (Zab #[Value.agg #[vi (6 : Int), vi (4 : Int), vi (1 : Int), vi (3 : Int)]]     43), true), (dP (ZdJ #[Value.agg #[vi (8 : Int), vi (15 : Int), vq, vq]]     39), true), (dP (ZdI #[Value.agg #[vi (9 : Int), vi (7 : Int), vi (10 : Int), vq]]     35), true), (dP (ZdH #[Value.agg #[vi (7 : Int), vi (7 : Int), vi (1 : Int), vi (3 : Int)]]     31), true), (dP (Zai #[Value.agg #[vi (13 : Int), vi (3 : Int), vi (2 : Int), vi (2 : Int)]]     27), true), (dP (ZdG #[Value.agg #[vi (9 : Int), vi (2 : Int), vi (15 : Int), vq]]     23), true), (dP (Zz #[Value.agg #[vi (13 : Int), vi (2 : Int), vq, vi a0]] (a0)    19), true), (dP (Zq #[Value.agg #[vi (15 : Int), vq, vq, vq]]     15), true), (dP (ZbQ #[Value.agg #[vi (1 : Int), vi (7 : Int), vq, vq]]     11), true), (dP (ZU #[Value.agg #[vi (1 : Int), vi (1 : Int), vi a1, vq]] (a1)    7), true), (dP (Zr #[Value.agg #[vi (10 : Int), vq, vq, vq]]     3), true), ((decide (a1 ≤ (1099511627776 : Int))), true), ((decide (a1 ≥ (-1099511627776 : Int))), true), ((decide (a0 ≤ (7 : Int))), true), ((decide (a0 ≥ (0 : Int))), true)]) (by kernel_rfl) (Zb (Zc (Zbw #[Value.agg #[vi (13 : Int), vi (2 : Int), vq, vi a0]] (a0)   N c29  112 rfl (by decide) (by decide))) <| Zb (Zc (Zv #[Value.agg #[vi (15 : Int), vq, vq, vq]]    N c28  106 rfl (by decide) (by decide))) <| Zb (Zc (Zcu #[Value.agg #[vi (1 : Int), vi (7 : Int), vq, vq]]    N c27  100 rfl (by decide) (by decide))) <| Zb (Zc (ZY #[Value.agg #[vi (1 : Int), vi (1 : Int), vi a1, vq]] (a1)   N c26  94 rfl (by decide) (by decide))) <| Zb (Zc (Zt #[Value.agg #[vi (10 : Int), vq, vq, vq]]    N c25  88 rfl (by decide) (by decide))) <| Zb (Zc (ZbS #[Value.agg #[vi (19 : Int), vi (7 : Int), vq, vq]]    N c24  83 rfl (by decide) (by decide))) <| Zb (Zc (ZP #[Value.agg #[vi (17 : Int), vq, vq, vq]]    N c23  79 rfl (by decide) (by decide))) <| Zb (Zc (ZJ #[Value.agg #[vi (8 : Int), vi (5 : Int), vq, vq]]    N c22  75 rfl (by decide) (by decide))) <| Zb (Zc (ZH #[Value.agg #[vi (3 : Int), vi (2 : Int), vi (5 : Int), vq]]    N c21  71 rfl (by decide) (by decide))) <| Zb (Zc (Zbm #[Value.agg #[vi (8 : Int), vi (19 : Int), vq, vq]]    N c20  67 rfl (by decide) (by decide))) <| Zb (Zc (Zbm #[Value.agg #[vi (8 : Int), vi (19 : Int), vq, vq]]    N c19  63 rfl (by decide) (by decide))) <| Zb (Zc (Zfy #[Value.agg #[vi (8 : Int), vi (17 : Int), vq, vq]]    N c18  59 rfl (by decide) (by decide))) <| Zb (Zc (Zan #[Value.agg #[vi (13 : Int), vi (5 : Int), vi (2 : Int), vq]]    N c17  55 rfl (by decide) (by decide))) <| Zb (Zc (Zfw #[Value.agg #[vi (9 : Int), vi (4 : Int), vi (17 : Int), vq]]    N c16  51 rfl (by decide) (by decide))) <| Zb (Zc (Zap #[Value.agg #[vi (13 : Int), vi (5 : Int), vi (2 : Int), vi (1 : Int)]]    N c15  47 rfl (by decide) (by decide))) <| Zb (Zc (Zal #[Value.agg #[vi (6 : Int), vi (4 : Int), vi (1 : Int), vi (3 : Int)]]    N c14  43 rfl (by decide) (by decide))) <| Zb (Zc (Zfu #[Value.agg #[vi (8 : Int), vi (15 : Int), vq, vq]]    N c13  39 rfl (by decide) (by decide))) <| Zb (Zc (Zfs #[Value.agg #[vi (9 : Int), vi (7 : Int), vi (10 : Int), vq]]    N c12  35 rfl (by decide) (by decide))) <| Zb (Zc (Zfq #[Value.agg #[vi (7 : Int), vi (7 : Int), vi (1 : Int), vi (3 : Int)]]    N c11  31 rfl (by decide) (by decide))) <| Zb (Zc (Zaz #[Value.agg #[vi (13 : Int), vi (3 : Int), vi (2 : Int), vi (2 : Int)]]    N c10  27 rfl (by decide) (by decide))) <| Zb (Zc (Zfo #[Value.agg #[vi (9 : Int), vi (2 : Int), vi (15 : Int), vq]]    N c9  23 rfl (by decide) (by decide))) <| Zb (Zc (Z3 #[Value.agg #[vi (13 : Int), vi (2 : Int), vq, vi a0]] (a0)   N c8  19 rfl (by decide) (by decide))) <| Zb (Zc (Zv #[Value.agg #[vi (15 : Int), vq, vq, vq]]    N c7  15 rfl (by decide) (by decide))) <| Zb (Zc (Zcu #[Value.agg #[vi (1 : Int), vi (7 : Int), vq, vq]]    N c6  11 rfl (by decide) (by decide))) <| Zb (Zc (ZY #[Value.agg #[vi (1 : Int), vi (1 : Int), vi a1, vq]] (a1)   N c5  7 rfl (by decide) (by decide))) <| Zb (Zc (Zt #[Value.agg #[vi (10 : Int), vq, vq, vq]]    N c4  3 rfl (by decide) (by decide))) <| oY <| oY <| oY <| oY Zf) rfl (by decide) (by rfl) rr trivial (Zg _ rfl)
                           | r1 =>
                            exact Zh Zi (r := (.r1 : ZV)) (fu := 4000) (orc := (Zl [(0, true), (1, true), (3, true), (4, true)] [] [] [] [(4, (Zs     3)), (8, (ZX (a1)    7)), (12, (Zct     11)), (16, (Zu     15)), (20, (Z2 (a0)    19)), (24, (Zfn     23)), (28, (Zay     27)), (32, (Zfp     31)), (36, (Zfr     35)), (40, (Zft     39)), (44, (Zak     43)), (48, (Zao     47)), (52, (Zfv     51)), (56, (Zam     55)), (60, (Zfx     59)), (64, (Zbl     63)), (68, (Zbl     67)), (72, (ZG     71)), (76, (ZI     75)), (80, (ZO     79)), (84, (ZbR     83)), (87, (Zs     88)), (91, (ZfG (a1)    94))])) (live := []) (u := Value.tuple #[vn, vq]) (bl := []) (ob := [(dP (Zei #[Value.agg #[vi (1 : Int), vi (1 : Int), vi a1, vq]] (a1)    94), true), (dP (Zr #[Value.agg #[vi (10 : Int), vq, vq, vq]]     88), true), (dP (Zbn #[Value.agg #[vi (19 : Int), vi (7 : Int), vq, vq]]     83), true), (dP (ZK #[Value.agg #[vi (17 : Int), vq, vq, vq]]     79), true), (dP (ZF #[Value.agg #[vi (8 : Int), vi (5 : Int), vq, vq]]     75), true), (dP (ZE #[Value.agg #[vi (3 : Int), vi (2 : Int), vi (5 : Int), vq]]     71), true), (dP (ZaH #[Value.agg #[vi (8 : Int), vi (19 : Int), vq, vq]]     67), true), (dP (ZaH #[Value.agg #[vi (8 : Int), vi (19 : Int), vq, vq]]     63), true), (dP (ZdL #[Value.agg #[vi (8 : Int), vi (17 : Int), vq, vq]]     59), true), (dP (Zac #[Value.agg #[vi (13 : Int), vi (5 : Int), vi (2 : Int), vq]]     55), true), (dP (ZdK #[Value.agg #[vi (9 : Int), vi (4 : Int), vi (17 : Int), vq]]     51), true), (dP (Zad #[Value.agg #[vi (13 : Int), vi (5 : Int), vi (2 : Int), vi (1 : Int)]]     47), true), (dP (Zab #[Value.agg #[vi (6 : Int), vi (4 : Int), vi (1 : Int), vi (3 : Int)]]     43), true), (dP (ZdJ #[Value.agg #[vi (8 : Int), vi (15 : Int), vq, vq]]     39), true), (dP (ZdI #[Value.agg #[vi (9 : Int), vi (7 : Int), vi (10 : Int), vq]]     35), true), (dP (ZdH #[Value.agg #[vi (7 : Int), vi (7 : Int), vi (1 : Int), vi (3 : Int)]]     31), true), (dP (Zai #[Value.agg #[vi (13 : Int), vi (3 : Int), vi (2 : Int), vi (2 : Int)]]     27), true), (dP (ZdG #[Value.agg #[vi (9 : Int), vi (2 : Int), vi (15 : Int), vq]]     23), true), (dP (Zz #[Value.agg #[vi (13 : Int), vi (2 : Int), vq, vi a0]] (a0)    19), true), (dP (Zq #[Value.agg #[vi (15 : Int), vq, vq, vq]]     15), true), (dP (ZbQ #[Value.agg #[vi (1 : Int), vi (7 : Int), vq, vq]]     11), true), (dP (ZU #[Value.agg #[vi (1 : Int), vi (1 : Int), vi a1, vq]] (a1)    7), true), (dP (Zr #[Value.agg #[vi (10 : Int), vq, vq, vq]]     3), true), ((decide (a1 ≤ (1099511627776 : Int))), true), ((decide (a1 ≥ (-1099511627776 : Int))), true), ((decide (a0 ≤ (7 : Int))), true), ((decide (a0 ≥ (0 : Int))), true)]) (by kernel_rfl) (Zb (Zc (ZfH #[Value.agg #[vi (1 : Int), vi (1 : Int), vi a1, vq]] (a1)   N c26  94 rfl (by decide) (by decide))) <| Zb (Zc (Zt #[Value.agg #[vi (10 : Int), vq, vq, vq]]    N c25  88 rfl (by decide) (by decide))) <| Zb (Zc (ZbS #[Value.agg #[vi (19 : Int), vi (7 : Int), vq, vq]]    N c24  83 rfl (by decide) (by decide))) <| Zb (Zc (ZP #[Value.agg #[vi (17 : Int), vq, vq, vq]]    N c23  79 rfl (by decide) (by decide))) <| Zb (Zc (ZJ #[Value.agg #[vi (8 : Int), vi (5 : Int), vq, vq]]    N c22  75 rfl (by decide) (by decide))) <| Zb (Zc (ZH #[Value.agg #[vi (3 : Int), vi (2 : Int), vi (5 : Int), vq]]    N c21  71 rfl (by decide) (by decide))) <| Zb (Zc (Zbm #[Value.agg #[vi (8 : Int), vi (19 : Int), vq, vq]]    N c20  67 rfl (by decide) (by decide))) <| Zb (Zc (Zbm #[Value.agg #[vi (8 : Int), vi (19 : Int), vq, vq]]    N c19  63 rfl (by decide) (by decide))) <| Zb (Zc (Zfy #[Value.agg #[vi (8 : Int), vi (17 : Int), vq, vq]]    N c18  59 rfl (by decide) (by decide))) <| Zb (Zc (Zan #[Value.agg #[vi (13 : Int), vi (5 : Int), vi (2 : Int), vq]]    N c17  55 rfl (by decide) (by decide))) <| Zb (Zc (Zfw #[Value.agg #[vi (9 : Int), vi (4 : Int), vi (17 : Int), vq]]    N c16  51 rfl (by decide) (by decide))) <| Zb (Zc (Zap #[Value.agg #[vi (13 : Int), vi (5 : Int), vi (2 : Int), vi (1 : Int)]]    N c15  47 rfl (by decide) (by decide))) <| Zb (Zc (Zal #[Value.agg #[vi (6 : Int), vi (4 : Int), vi (1 : Int), vi (3 : Int)]]    N c14  43 rfl (by decide) (by decide))) <| Zb (Zc (Zfu #[Value.agg #[vi (8 : Int), vi (15 : Int), vq, vq]]    N c13  39 rfl (by decide) (by decide))) <| Zb (Zc (Zfs #[Value.agg #[vi (9 : Int), vi (7 : Int), vi (10 : Int), vq]]    N c12  35 rfl (by decide) (by decide))) <| Zb (Zc (Zfq #[Value.agg #[vi (7 : Int), vi (7 : Int), vi (1 : Int), vi (3 : Int)]]    N c11  31 rfl (by decide) (by decide))) <| Zb (Zc (Zaz #[Value.agg #[vi (13 : Int), vi (3 : Int), vi (2 : Int), vi (2 : Int)]]    N c10  27 rfl (by decide) (by decide))) <| Zb (Zc (Zfo #[Value.agg #[vi (9 : Int), vi (2 : Int), vi (15 : Int), vq]]    N c9  23 rfl (by decide) (by decide))) <| Zb (Zc (Z3 #[Value.agg #[vi (13 : Int), vi (2 : Int), vq, vi a0]] (a0)   N c8  19 rfl (by decide) (by decide))) <| Zb (Zc (Zv #[Value.agg #[vi (15 : Int), vq, vq, vq]]    N c7  15 rfl (by decide) (by decide))) <| Zb (Zc (Zcu #[Value.agg #[vi (1 : Int), vi (7 : Int), vq, vq]]    N c6  11 rfl (by decide) (by decide))) <| Zb (Zc (ZY #[Value.agg #[vi (1 : Int), vi (1 : Int), vi a1, vq]] (a1)   N c5  7 rfl (by decide) (by decide))) <| Zb (Zc (Zt #[Value.agg #[vi (10 : Int), vq, vq, vq]]    N c4  3 rfl (by decide) (by decide))) <| oY <| oY <| oY <| oY Zf) rfl (by decide) (by rfl) rr trivial (Zg _ rfl)
         | r1 =>
          exact Zh Zi (r := (.r1 : ZV)) (fu := 4000) (orc := (Zl [(0, true), (1, true), (3, true), (4, true)] [] [] [] [(4, (Zs     3)), (8, (ZX (a1)    7)), (12, (Zct     11)), (16, (Zu     15)), (20, (Zbv (a0)    19))])) (live := []) (u := Value.tuple #[vn, vq]) (bl := []) (ob := [(dP (ZaZ #[Value.agg #[vi (13 : Int), vi (2 : Int), vq, vi a0]] (a0)    19), true), (dP (Zq #[Value.agg #[vi (15 : Int), vq, vq, vq]]     15), true), (dP (ZbQ #[Value.agg #[vi (1 : Int), vi (7 : Int), vq, vq]]     11), true), (dP (ZU #[Value.agg #[vi (1 : Int), vi (1 : Int), vi a1, vq]] (a1)    7), true), (dP (Zr #[Value.agg #[vi (10 : Int), vq, vq, vq]]     3), true), ((decide (a1 ≤ (1099511627776 : Int))), true), ((decide (a1 ≥ (-1099511627776 : Int))), true), ((decide (a0 ≤ (7 : Int))), true), ((decide (a0 ≥ (0 : Int))), true)]) (by kernel_rfl) (Zb (Zc (Zbw #[Value.agg #[vi (13 : Int), vi (2 : Int), vq, vi a0]] (a0)   N c8  19 rfl (by decide) (by decide))) <| Zb (Zc (Zv #[Value.agg #[vi (15 : Int), vq, vq, vq]]    N c7  15 rfl (by decide) (by decide))) <| Zb (Zc (Zcu #[Value.agg #[vi (1 : Int), vi (7 : Int), vq, vq]]    N c6  11 rfl (by decide) (by decide))) <| Zb (Zc (ZY #[Value.agg #[vi (1 : Int), vi (1 : Int), vi a1, vq]] (a1)   N c5  7 rfl (by decide) (by decide))) <| Zb (Zc (Zt #[Value.agg #[vi (10 : Int), vq, vq, vq]]    N c4  3 rfl (by decide) (by decide))) <| oY <| oY <| oY <| oY Zf) rfl (by decide) (by rfl) rr trivial (Zg _ rfl)
      | r1 =>
       exact Zh Zi (r := (.r1 : ZV)) (fu := 4000) (orc := (Zl [(0, true), (1, true), (3, true), (4, true)] [] [] [] [(4, (Zs     3)), (8, (ZfG (a1)    7))])) (live := []) (u := Value.tuple #[vn, vq]) (bl := []) (ob := [(dP (Zei #[Value.agg #[vi (1 : Int), vi (1 : Int), vi a1, vq]] (a1)    7), true), (dP (Zr #[Value.agg #[vi (10 : Int), vq, vq, vq]]     3), true), ((decide (a1 ≤ (1099511627776 : Int))), true), ((decide (a1 ≥ (-1099511627776 : Int))), true), ((decide (a0 ≤ (7 : Int))), true), ((decide (a0 ≥ (0 : Int))), true)]) (by kernel_rfl) (Zb (Zc (ZfH #[Value.agg #[vi (1 : Int), vi (1 : Int), vi a1, vq]] (a1)   N c5  7 rfl (by decide) (by decide))) <| Zb (Zc (Zt #[Value.agg #[vi (10 : Int), vq, vq, vq]]    N c4  3 rfl (by decide) (by decide))) <| oY <| oY <| oY <| oY Zf) rfl (by decide) (by rfl) rr trivial (Zg _ rfl)
    ·
     exact Zh Zi (r := (.r2 : ZV)) (fu := 4000) (orc := (Zl [(0, true), (1, true), (3, true), (4, false)] [] [] [] [])) (live := []) (u := Value.tuple #[vn, vi (240 : Int)]) (bl := []) (ob := [((decide (a1 ≤ (1099511627776 : Int))), false), ((decide (a1 ≥ (-1099511627776 : Int))), true), ((decide (a0 ≤ (7 : Int))), true), ((decide (a0 ≥ (0 : Int))), true)]) (by kernel_rfl) (oN <| oY <| oY <| oY Zf) rfl (by decide) (by rfl) rr trivial (Zg _ rfl)
   ·
    exact Zh Zi (r := (.r2 : ZV)) (fu := 4000) (orc := (Zl [(0, true), (1, true), (3, false)] [] [] [] [])) (live := []) (u := Value.tuple #[vn, vi (240 : Int)]) (bl := []) (ob := [((decide (a1 ≥ (-1099511627776 : Int))), false), ((decide (a0 ≤ (7 : Int))), true), ((decide (a0 ≥ (0 : Int))), true)]) (by kernel_rfl) (oN <| oY <| oY Zf) rfl (by decide) (by rfl) rr trivial (Zg _ rfl)
  ·
   exact Zh Zi (r := (.r2 : ZV)) (fu := 4000) (orc := (Zl [(0, true), (1, false)] [] [] [] [])) (live := []) (u := Value.tuple #[vn, vi (240 : Int)]) (bl := []) (ob := [((decide (a0 ≤ (7 : Int))), false), ((decide (a0 ≥ (0 : Int))), true)]) (by kernel_rfl) (oN <| oY Zf) rfl (by decide) (by rfl) rr trivial (Zg _ rfl)
 ·
  exact Zh Zi (r := (.r2 : ZV)) (fu := 4000) (orc := (Zl [(0, false)] [] [] [] [])) (live := []) (u := Value.tuple #[vn, vi (240 : Int)]) (bl := []) (ob := [((decide (a0 ≥ (0 : Int))), false)]) (by kernel_rfl) (oN Zf) rfl (by decide) (by rfl) rr trivial (Zg _ rfl)

theorem Zlp (a0 a1 : Int) (N : Nat) (r : ZV) (h : Zcc a0 a1 N = some r) : LSpec Tryz.prog 6 #[vi a0, vi a1] [] (ZqZ a0 a1 r) (ZpC a0 a1 r) :=
 (Zvc a0 a1 N) r h

noncomputable def ZpD (a0 a1 : Int) (n : Nat) : Zx := .call [] (Value.tuple #[vs n 0 21 21, vq]) [(n, some (.cells [vi (10 : Int), vq, vq, vq, vi (1 : Int), vi (1 : Int), vi a1, vq, vi (1 : Int), vi (7 : Int), vq, vq, vi (15 : Int), vq, vq, vq, vi (13 : Int), vi (2 : Int), vq, vi a0, vi (9 : Int), vi (2 : Int), vi (15 : Int), vq, vi (13 : Int), vi (3 : Int), vi (2 : Int), vi (2 : Int), vi (7 : Int), vi (7 : Int), vi (1 : Int), vi (3 : Int), vi (9 : Int), vi (7 : Int), vi (10 : Int), vq, vi (8 : Int), vi (15 : Int), vq, vq, vi (6 : Int), vi (4 : Int), vi (1 : Int), vi (3 : Int), vi (13 : Int), vi (5 : Int), vi (2 : Int), vi (1 : Int), vi (9 : Int), vi (4 : Int), vi (17 : Int), vq, vi (13 : Int), vi (5 : Int), vi (2 : Int), vq, vi (8 : Int), vi (17 : Int), vq, vq, vi (8 : Int), vi (19 : Int), vq, vq, vi (8 : Int), vi (19 : Int), vq, vq, vi (3 : Int), vi (2 : Int), vi (5 : Int), vq, vi (8 : Int), vi (5 : Int), vq, vq, vi (17 : Int), vq, vq, vq, vi (19 : Int), vi (7 : Int), vq, vq] 42))] 1
def ZjK (A : Array Value) (a0 a1 : Int) (n : Nat) : Prop := Zj Tryz.prog 6 A [] (Value.tuple #[vs n 0 21 21, vq]) [(n, some (.cells [vi (10 : Int), vq, vq, vq, vi (1 : Int), vi (1 : Int), vi a1, vq, vi (1 : Int), vi (7 : Int), vq, vq, vi (15 : Int), vq, vq, vq, vi (13 : Int), vi (2 : Int), vq, vi a0, vi (9 : Int), vi (2 : Int), vi (15 : Int), vq, vi (13 : Int), vi (3 : Int), vi (2 : Int), vi (2 : Int), vi (7 : Int), vi (7 : Int), vi (1 : Int), vi (3 : Int), vi (9 : Int), vi (7 : Int), vi (10 : Int), vq, vi (8 : Int), vi (15 : Int), vq, vq, vi (6 : Int), vi (4 : Int), vi (1 : Int), vi (3 : Int), vi (13 : Int), vi (5 : Int), vi (2 : Int), vi (1 : Int), vi (9 : Int), vi (4 : Int), vi (17 : Int), vq, vi (13 : Int), vi (5 : Int), vi (2 : Int), vq, vi (8 : Int), vi (17 : Int), vq, vq, vi (8 : Int), vi (19 : Int), vq, vq, vi (8 : Int), vi (19 : Int), vq, vq, vi (3 : Int), vi (2 : Int), vi (5 : Int), vq, vi (8 : Int), vi (5 : Int), vq, vq, vi (17 : Int), vq, vq, vq, vi (19 : Int), vi (7 : Int), vq, vq] 42))] n 1

theorem ZpE (A : Array Value) (a0 a1 : Int) (N : Nat) (h : Zcc a0 a1 N = some (.r0)) (n : Nat) (hA : A = #[vi a0, vi a1]) (hnd : ([] : List Nat).Nodup) (hlt : ∀ k ∈ ([] : List Nat), k < n) : ZjK A a0 a1  n :=
 Zm hA (LSpec.callL (show LSpec Tryz.prog 6 #[vi a0, vi a1] [] (Value.tuple #[vs 0 0 21 21, vq]) [some (.cells [vi (10 : Int), vq, vq, vq, vi (1 : Int), vi (1 : Int), vi a1, vq, vi (1 : Int), vi (7 : Int), vq, vq, vi (15 : Int), vq, vq, vq, vi (13 : Int), vi (2 : Int), vq, vi a0, vi (9 : Int), vi (2 : Int), vi (15 : Int), vq, vi (13 : Int), vi (3 : Int), vi (2 : Int), vi (2 : Int), vi (7 : Int), vi (7 : Int), vi (1 : Int), vi (3 : Int), vi (9 : Int), vi (7 : Int), vi (10 : Int), vq, vi (8 : Int), vi (15 : Int), vq, vq, vi (6 : Int), vi (4 : Int), vi (1 : Int), vi (3 : Int), vi (13 : Int), vi (5 : Int), vi (2 : Int), vi (1 : Int), vi (9 : Int), vi (4 : Int), vi (17 : Int), vq, vi (13 : Int), vi (5 : Int), vi (2 : Int), vq, vi (8 : Int), vi (17 : Int), vq, vq, vi (8 : Int), vi (19 : Int), vq, vq, vi (8 : Int), vi (19 : Int), vq, vq, vi (3 : Int), vi (2 : Int), vi (5 : Int), vq, vi (8 : Int), vi (5 : Int), vq, vq, vi (17 : Int), vq, vq, vq, vi (19 : Int), vi (7 : Int), vq, vq] 42)] from Zlp a0 a1 N _ h) [] n [0] rfl hnd hlt (show 0 ≤ 1 from by decide) (show ∀ j ∈ ([0] : List Nat), j < 1 from by decide) (by rfl) trivial (by rfl) ⟨rfl, trivial⟩ ⟨(by decide), trivial⟩ rfl rfl rfl rfl (Za (ZbX rfl (Zi2 rfl)) rfl))

noncomputable def ZjL (a0 a1 : Int) (n : Nat) : Zx := .call [] (Value.tuple #[vn, vi (240 : Int)]) [] 0
def Zht (A : Array Value) (a0 a1 : Int) (n : Nat) : Prop := Zj Tryz.prog 6 A [] (Value.tuple #[vn, vi (240 : Int)]) [] n 0

theorem ZjM (A : Array Value) (a0 a1 : Int) (N : Nat) (h : Zcc a0 a1 N = some (.r2)) (n : Nat) (hA : A = #[vi a0, vi a1]) (hnd : ([] : List Nat).Nodup) (hlt : ∀ k ∈ ([] : List Nat), k < n) : Zht A a0 a1  n :=
 Zm hA (LSpec.callL (show LSpec Tryz.prog 6 #[vi a0, vi a1] [] (Value.tuple #[vn, vi (240 : Int)]) [] from Zlp a0 a1 N _ h) [] n [] rfl hnd hlt (show 0 ≤ 0 from by decide) (show ∀ j ∈ ([] : List Nat), j < 0 from by decide) (by rfl) trivial (by rfl) trivial trivial rfl rfl rfl rfl rfl)

noncomputable def ZpF (a0 a1 : Int) : Za0 → Value
 | .r0 => Value.tuple #[vs 0 0 21 21, vq]
 | .r1 => Value.tuple #[vn, vi (240 : Int)]
noncomputable def ZnB (a0 a1 : Int) : Za0 → List (Option AObj)
 | .r0 => [some (.cells [vi (10 : Int), vq, vq, vq, vi (1 : Int), vi (1 : Int), vi a1, vq, vi (1 : Int), vi (7 : Int), vq, vq, vi (15 : Int), vq, vq, vq, vi (13 : Int), vi (2 : Int), vq, vi a0, vi (9 : Int), vi (2 : Int), vi (15 : Int), vq, vi (13 : Int), vi (3 : Int), vi (2 : Int), vi (2 : Int), vi (7 : Int), vi (7 : Int), vi (1 : Int), vi (3 : Int), vi (9 : Int), vi (7 : Int), vi (10 : Int), vq, vi (8 : Int), vi (15 : Int), vq, vq, vi (6 : Int), vi (4 : Int), vi (1 : Int), vi (3 : Int), vi (13 : Int), vi (5 : Int), vi (2 : Int), vi (1 : Int), vi (9 : Int), vi (4 : Int), vi (17 : Int), vq, vi (13 : Int), vi (5 : Int), vi (2 : Int), vq, vi (8 : Int), vi (17 : Int), vq, vq, vi (8 : Int), vi (19 : Int), vq, vq, vi (8 : Int), vi (19 : Int), vq, vq, vi (3 : Int), vi (2 : Int), vi (5 : Int), vq, vi (8 : Int), vi (5 : Int), vq, vq, vi (17 : Int), vq, vq, vq, vi (19 : Int), vi (7 : Int), vq, vq] 42)]
 | .r1 => []

theorem ZtS (a0 a1 : Int) (N : Nat) : Gx Tryz.prog 7 [] #[vi a0, vi a1] (ZpF a0 a1) (ZnB a0 a1) (Zcm a0 a1 N) := by
 unfold Zcm
 refine ZN (fun g0 => ?_) (fun g0 => ?_)
 ·
  refine ZN (fun g1 => ?_) (fun g1 => ?_)
  ·
   refine ZN (fun g2 => ?_) (fun g2 => ?_)
   ·
    refine ZN (fun g3 => ?_) (fun g3 => ?_)
    ·
     exact Zh Zi (r := (.r0 : Za0)) (fu := 4000) (orc := (Zl [(0, true), (1, true), (3, true), (4, true)] [] [] [] [])) (live := [21]) (u := Value.tuple #[vs 21 0 21 21, vq]) (bl := [some (.cells [vi (10 : Int), vq, vq, vq, vi (1 : Int), vi (1 : Int), vi a1, vq, vi (1 : Int), vi (7 : Int), vq, vq, vi (15 : Int), vq, vq, vq, vi (13 : Int), vi (2 : Int), vq, vi a0, vi (9 : Int), vi (2 : Int), vi (15 : Int), vq, vi (13 : Int), vi (3 : Int), vi (2 : Int), vi (2 : Int), vi (7 : Int), vi (7 : Int), vi (1 : Int), vi (3 : Int), vi (9 : Int), vi (7 : Int), vi (10 : Int), vq, vi (8 : Int), vi (15 : Int), vq, vq, vi (6 : Int), vi (4 : Int), vi (1 : Int), vi (3 : Int), vi (13 : Int), vi (5 : Int), vi (2 : Int), vi (1 : Int), vi (9 : Int), vi (4 : Int), vi (17 : Int), vq, vi (13 : Int), vi (5 : Int), vi (2 : Int), vq, vi (8 : Int), vi (17 : Int), vq, vq, vi (8 : Int), vi (19 : Int), vq, vq, vi (8 : Int), vi (19 : Int), vq, vq, vi (3 : Int), vi (2 : Int), vi (5 : Int), vq, vi (8 : Int), vi (5 : Int), vq, vq, vi (17 : Int), vq, vq, vq, vi (19 : Int), vi (7 : Int), vq, vq] 42)]) (ob := [((decide (a1 ≤ (1099511627776 : Int))), true), ((decide (a1 ≥ (-1099511627776 : Int))), true), ((decide (a0 ≤ (7 : Int))), true), ((decide (a0 ≥ (0 : Int))), true)]) (by kernel_rfl) (oY <| oY <| oY <| oY Zf) rfl (by decide) (by rfl) rr ⟨⟨rfl, ⟨[], by rfl⟩, by rfl⟩, trivial⟩ (Zg _ rfl)
    ·
     exact Zh Zi (r := (.r1 : Za0)) (fu := 4000) (orc := (Zl [(0, true), (1, true), (3, true), (4, false)] [] [] [] [])) (live := []) (u := Value.tuple #[vn, vi (240 : Int)]) (bl := []) (ob := [((decide (a1 ≤ (1099511627776 : Int))), false), ((decide (a1 ≥ (-1099511627776 : Int))), true), ((decide (a0 ≤ (7 : Int))), true), ((decide (a0 ≥ (0 : Int))), true)]) (by kernel_rfl) (oN <| oY <| oY <| oY Zf) rfl (by decide) (by rfl) rr trivial (Zg _ rfl)
   ·
    exact Zh Zi (r := (.r1 : Za0)) (fu := 4000) (orc := (Zl [(0, true), (1, true), (3, false)] [] [] [] [])) (live := []) (u := Value.tuple #[vn, vi (240 : Int)]) (bl := []) (ob := [((decide (a1 ≥ (-1099511627776 : Int))), false), ((decide (a0 ≤ (7 : Int))), true), ((decide (a0 ≥ (0 : Int))), true)]) (by kernel_rfl) (oN <| oY <| oY Zf) rfl (by decide) (by rfl) rr trivial (Zg _ rfl)
  ·
   exact Zh Zi (r := (.r1 : Za0)) (fu := 4000) (orc := (Zl [(0, true), (1, false)] [] [] [] [])) (live := []) (u := Value.tuple #[vn, vi (240 : Int)]) (bl := []) (ob := [((decide (a0 ≤ (7 : Int))), false), ((decide (a0 ≥ (0 : Int))), true)]) (by kernel_rfl) (oN <| oY Zf) rfl (by decide) (by rfl) rr trivial (Zg _ rfl)
 ·
  exact Zh Zi (r := (.r1 : Za0)) (fu := 4000) (orc := (Zl [(0, false)] [] [] [] [])) (live := []) (u := Value.tuple #[vn, vi (240 : Int)]) (bl := []) (ob := [((decide (a0 ≥ (0 : Int))), false)]) (by kernel_rfl) (oN Zf) rfl (by decide) (by rfl) rr trivial (Zg _ rfl)

theorem ZkB (a0 a1 : Int) (N : Nat) (r : Za0) (h : Zcm a0 a1 N = some r) : LSpec Tryz.prog 7 #[vi a0, vi a1] [] (ZpF a0 a1 r) (ZnB a0 a1 r) :=
 (ZtS a0 a1 N) r h

noncomputable def ZnC (a0 a1 : Int) (n : Nat) : Zx := .call [] (Value.tuple #[vs n 0 21 21, vq]) [(n, some (.cells [vi (10 : Int), vq, vq, vq, vi (1 : Int), vi (1 : Int), vi a1, vq, vi (1 : Int), vi (7 : Int), vq, vq, vi (15 : Int), vq, vq, vq, vi (13 : Int), vi (2 : Int), vq, vi a0, vi (9 : Int), vi (2 : Int), vi (15 : Int), vq, vi (13 : Int), vi (3 : Int), vi (2 : Int), vi (2 : Int), vi (7 : Int), vi (7 : Int), vi (1 : Int), vi (3 : Int), vi (9 : Int), vi (7 : Int), vi (10 : Int), vq, vi (8 : Int), vi (15 : Int), vq, vq, vi (6 : Int), vi (4 : Int), vi (1 : Int), vi (3 : Int), vi (13 : Int), vi (5 : Int), vi (2 : Int), vi (1 : Int), vi (9 : Int), vi (4 : Int), vi (17 : Int), vq, vi (13 : Int), vi (5 : Int), vi (2 : Int), vq, vi (8 : Int), vi (17 : Int), vq, vq, vi (8 : Int), vi (19 : Int), vq, vq, vi (8 : Int), vi (19 : Int), vq, vq, vi (3 : Int), vi (2 : Int), vi (5 : Int), vq, vi (8 : Int), vi (5 : Int), vq, vq, vi (17 : Int), vq, vq, vq, vi (19 : Int), vi (7 : Int), vq, vq] 42))] 1
def ZiI (A : Array Value) (a0 a1 : Int) (n : Nat) : Prop := Zj Tryz.prog 7 A [] (Value.tuple #[vs n 0 21 21, vq]) [(n, some (.cells [vi (10 : Int), vq, vq, vq, vi (1 : Int), vi (1 : Int), vi a1, vq, vi (1 : Int), vi (7 : Int), vq, vq, vi (15 : Int), vq, vq, vq, vi (13 : Int), vi (2 : Int), vq, vi a0, vi (9 : Int), vi (2 : Int), vi (15 : Int), vq, vi (13 : Int), vi (3 : Int), vi (2 : Int), vi (2 : Int), vi (7 : Int), vi (7 : Int), vi (1 : Int), vi (3 : Int), vi (9 : Int), vi (7 : Int), vi (10 : Int), vq, vi (8 : Int), vi (15 : Int), vq, vq, vi (6 : Int), vi (4 : Int), vi (1 : Int), vi (3 : Int), vi (13 : Int), vi (5 : Int), vi (2 : Int), vi (1 : Int), vi (9 : Int), vi (4 : Int), vi (17 : Int), vq, vi (13 : Int), vi (5 : Int), vi (2 : Int), vq, vi (8 : Int), vi (17 : Int), vq, vq, vi (8 : Int), vi (19 : Int), vq, vq, vi (8 : Int), vi (19 : Int), vq, vq, vi (3 : Int), vi (2 : Int), vi (5 : Int), vq, vi (8 : Int), vi (5 : Int), vq, vq, vi (17 : Int), vq, vq, vq, vi (19 : Int), vi (7 : Int), vq, vq] 42))] n 1

theorem ZnD (A : Array Value) (a0 a1 : Int) (N : Nat) (h : Zcm a0 a1 N = some (.r0)) (n : Nat) (hA : A = #[vi a0, vi a1]) (hnd : ([] : List Nat).Nodup) (hlt : ∀ k ∈ ([] : List Nat), k < n) : ZiI A a0 a1  n :=
 Zm hA (LSpec.callL (show LSpec Tryz.prog 7 #[vi a0, vi a1] [] (Value.tuple #[vs 0 0 21 21, vq]) [some (.cells [vi (10 : Int), vq, vq, vq, vi (1 : Int), vi (1 : Int), vi a1, vq, vi (1 : Int), vi (7 : Int), vq, vq, vi (15 : Int), vq, vq, vq, vi (13 : Int), vi (2 : Int), vq, vi a0, vi (9 : Int), vi (2 : Int), vi (15 : Int), vq, vi (13 : Int), vi (3 : Int), vi (2 : Int), vi (2 : Int), vi (7 : Int), vi (7 : Int), vi (1 : Int), vi (3 : Int), vi (9 : Int), vi (7 : Int), vi (10 : Int), vq, vi (8 : Int), vi (15 : Int), vq, vq, vi (6 : Int), vi (4 : Int), vi (1 : Int), vi (3 : Int), vi (13 : Int), vi (5 : Int), vi (2 : Int), vi (1 : Int), vi (9 : Int), vi (4 : Int), vi (17 : Int), vq, vi (13 : Int), vi (5 : Int), vi (2 : Int), vq, vi (8 : Int), vi (17 : Int), vq, vq, vi (8 : Int), vi (19 : Int), vq, vq, vi (8 : Int), vi (19 : Int), vq, vq, vi (3 : Int), vi (2 : Int), vi (5 : Int), vq, vi (8 : Int), vi (5 : Int), vq, vq, vi (17 : Int), vq, vq, vq, vi (19 : Int), vi (7 : Int), vq, vq] 42)] from ZkB a0 a1 N _ h) [] n [0] rfl hnd hlt (show 0 ≤ 1 from by decide) (show ∀ j ∈ ([0] : List Nat), j < 1 from by decide) (by rfl) trivial (by rfl) ⟨rfl, trivial⟩ ⟨(by decide), trivial⟩ rfl rfl rfl rfl (Za (ZbX rfl (Zi2 rfl)) rfl))

end Ev
end Go.Proofs.YtgpekgedjmhmeaaGreat
