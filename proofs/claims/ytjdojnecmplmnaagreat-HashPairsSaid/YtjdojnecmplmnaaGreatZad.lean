/- Part 4. -/
import Derived.Test.YtjdojnecmplmnaaGreatZac
set_option linter.unusedSimpArgs false
set_option linter.unusedVariables false
/- Records, and the program's functions as plain ones. -/
namespace Go.Proofs.YtjdojnecmplmnaaGreat
open Go.RowKit
namespace Ev
set_option linter.unusedVariables false
structure R_ii where
 a0 : Int
 a1 : Int
def R_ii.z : R_ii := ⟨0, 0⟩
structure RA where
 a0 : Int
 a1 : Int
 a2 : Int
def RA.z : RA := ⟨0, 0, 0⟩
structure Ro where
 a0 : Int
 a1 : Int
 a2 : Int
 a3 : Int
 a4 : Int
 a5 : Int
 a6 : Int
 a7 : List R_ii
def Ro.z : Ro := ⟨0, 0, 0, 0, 0, 0, 0, []⟩
def Zd3 (L : List RA) (k l : Int) : Bool := L.any fun x => k == x.a0 && l == x.a1
def Zb (L : List RA) (k l : Int) : Int := match L.find? (fun x => k == x.a0 && l == x.a1) with | some x => x.a2 | none => 0
def ZdD : List RA → Int → Int → Int → List RA
 | [], k, l, v => [⟨k, l, v⟩]
 | x :: L, k, l, v => if (k == x.a0 && l == x.a1) = true then ⟨k, l, v⟩ :: L else x :: ZdD L k l v
inductive Zdi where
 | r0

inductive Zcs where
 | h1m0

def ZhS  (N : Nat) : Option (Zcs ⊕ Zdi) :=
 some (.inr (.r0 : Zdi))

def Zgo  (N : Nat) : Zcs → Option (Zcs ⊕ Zdi)
 | .h1m0 => ZhS  N

def Zj7  (N : Nat) : Option (Zcs ⊕ Zdi) :=
 some (.inl (.h1m0 : Zcs))

def Zjf  (N : Nat) : Option Zdi := goM (Zgo  N) N (Zj7  N)

inductive Zdj where
 | r0

inductive Zct where
 | h1m0

def ZhT (a0 : Int) (a1 : Int) (N : Nat) : Option (Zct ⊕ Zdj) :=
 some (.inr (.r0 : Zdj))

def Zgp (a0 : Int) (a1 : Int) (N : Nat) : Zct → Option (Zct ⊕ Zdj)
 | .h1m0 => ZhT a0 a1 N

def Zj8 (a0 : Int) (a1 : Int) (N : Nat) : Option (Zct ⊕ Zdj) :=
 some (.inl (.h1m0 : Zct))

def ZkY (a0 : Int) (a1 : Int) (N : Nat) : Option Zdj := goM (Zgp a0 a1 N) N (Zj8 a0 a1 N)

inductive Zfb where
 | r0

def Zf3  (N : Nat) : Option Zfb :=
 ((ZkY ((2 : Int)) ((1048577 : Int)) N).bind fun r => match r with
 | .r0 =>
  some (.r0 : Zfb)
 )

inductive ZbO where
 | r0

inductive Zbj where
 | h1m0

def Zfr  (N : Nat) : Option (Zbj ⊕ ZbO) :=
 some (.inr (.r0 : ZbO))

def Zeh  (N : Nat) : Zbj → Option (Zbj ⊕ ZbO)
 | .h1m0 => Zfr  N

def Zgy  (N : Nat) : Option (Zbj ⊕ ZbO) :=
 some (.inl (.h1m0 : Zbj))

def ZcK  (N : Nat) : Option ZbO := goM (Zeh  N) N (Zgy  N)

inductive ZD where
 | r0

inductive Ze where
 | h1m0
 | h2m0
 | h3m0
 | h4m0
 | h5m0
 | h5m1
 | h5m2
 | h5m3
 | h5m4
 | h5m5
 | h5m6
 | h5m7
 | h5m8
 | h5m9
 | h5m10
 | h5m11
 | h5m12
 | h5m13
 | h5m14
 | h5m15
 | h5m16
 | h5m17
 | h5m18
 | h5m19
 | h5m20
 | h5m21
 | h5m22
 | h5m23
 | h5m24
 | h5m25
 | h5m26
 | h5m27
 | h5m28
 | h5m29
 | h5m30

def Zhm  (N : Nat) : Option (Ze ⊕ ZD) :=
 some (.inl (.h2m0 : Ze))

def Zhn  (N : Nat) : Option (Ze ⊕ ZD) :=
 some (.inl (.h3m0 : Ze))

def Zho  (N : Nat) : Option (Ze ⊕ ZD) :=
 some (.inl (.h4m0 : Ze))

def Zhp  (N : Nat) : Option (Ze ⊕ ZD) :=
 some (.inl (.h5m0 : Ze))

def Zhq  (N : Nat) : Option (Ze ⊕ ZD) :=
 some (.inl (.h5m1 : Ze))

def Zhr  (N : Nat) : Option (Ze ⊕ ZD) :=
 some (.inl (.h5m2 : Ze))

def Zhs  (N : Nat) : Option (Ze ⊕ ZD) :=
 some (.inl (.h5m3 : Ze))

def Zht  (N : Nat) : Option (Ze ⊕ ZD) :=
 some (.inl (.h5m4 : Ze))

def Zhu  (N : Nat) : Option (Ze ⊕ ZD) :=
 some (.inl (.h5m5 : Ze))

def Zhv  (N : Nat) : Option (Ze ⊕ ZD) :=
 some (.inl (.h5m6 : Ze))

def Zhw  (N : Nat) : Option (Ze ⊕ ZD) :=
 some (.inl (.h5m7 : Ze))

def Zhx  (N : Nat) : Option (Ze ⊕ ZD) :=
 some (.inl (.h5m8 : Ze))

def Zhy  (N : Nat) : Option (Ze ⊕ ZD) :=
 some (.inl (.h5m9 : Ze))

def Zhz  (N : Nat) : Option (Ze ⊕ ZD) :=
 some (.inl (.h5m10 : Ze))

def Zgz  (N : Nat) : Option (Ze ⊕ ZD) :=
 some (.inl (.h5m11 : Ze))

def Zg0  (N : Nat) : Option (Ze ⊕ ZD) :=
 some (.inl (.h5m12 : Ze))

def Zg1  (N : Nat) : Option (Ze ⊕ ZD) :=
 some (.inl (.h5m13 : Ze))

def Zg2  (N : Nat) : Option (Ze ⊕ ZD) :=
 some (.inl (.h5m14 : Ze))

def Zg3  (N : Nat) : Option (Ze ⊕ ZD) :=
 some (.inl (.h5m15 : Ze))

def Zg4  (N : Nat) : Option (Ze ⊕ ZD) :=
 some (.inl (.h5m16 : Ze))

def Zg5  (N : Nat) : Option (Ze ⊕ ZD) :=
 some (.inl (.h5m17 : Ze))

def Zg6  (N : Nat) : Option (Ze ⊕ ZD) :=
 some (.inl (.h5m18 : Ze))

def Zg7  (N : Nat) : Option (Ze ⊕ ZD) :=
 some (.inl (.h5m19 : Ze))

def Zg8  (N : Nat) : Option (Ze ⊕ ZD) :=
 some (.inl (.h5m20 : Ze))

def Zg9  (N : Nat) : Option (Ze ⊕ ZD) :=
 some (.inl (.h5m21 : Ze))

def ZgA  (N : Nat) : Option (Ze ⊕ ZD) :=
 some (.inl (.h5m22 : Ze))

def ZgB  (N : Nat) : Option (Ze ⊕ ZD) :=
 some (.inl (.h5m23 : Ze))

def ZgC  (N : Nat) : Option (Ze ⊕ ZD) :=
 some (.inl (.h5m24 : Ze))

def ZgD  (N : Nat) : Option (Ze ⊕ ZD) :=
 some (.inl (.h5m25 : Ze))

def ZgE  (N : Nat) : Option (Ze ⊕ ZD) :=
 some (.inl (.h5m26 : Ze))

def ZgF  (N : Nat) : Option (Ze ⊕ ZD) :=
 some (.inl (.h5m27 : Ze))

def ZgG  (N : Nat) : Option (Ze ⊕ ZD) :=
 some (.inl (.h5m28 : Ze))

def ZgH  (N : Nat) : Option (Ze ⊕ ZD) :=
 some (.inl (.h5m29 : Ze))

def ZgI  (N : Nat) : Option (Ze ⊕ ZD) :=
 some (.inl (.h5m30 : Ze))

def ZgJ  (N : Nat) : Option (Ze ⊕ ZD) :=
 some (.inr (.r0 : ZD))

def ZA  (N : Nat) : Ze → Option (Ze ⊕ ZD)
 | .h1m0 => Zhm  N
 | .h2m0 => Zhn  N
 | .h3m0 => Zho  N
 | .h4m0 => Zhp  N
 | .h5m0 => Zhq  N
 | .h5m1 => Zhr  N
 | .h5m2 => Zhs  N
 | .h5m3 => Zht  N
 | .h5m4 => Zhu  N
 | .h5m5 => Zhv  N
 | .h5m6 => Zhw  N
 | .h5m7 => Zhx  N
 | .h5m8 => Zhy  N
 | .h5m9 => Zhz  N
 | .h5m10 => Zgz  N
 | .h5m11 => Zg0  N
 | .h5m12 => Zg1  N
 | .h5m13 => Zg2  N
 | .h5m14 => Zg3  N
 | .h5m15 => Zg4  N
 | .h5m16 => Zg5  N
 | .h5m17 => Zg6  N
 | .h5m18 => Zg7  N
 | .h5m19 => Zg8  N
 | .h5m20 => Zg9  N
 | .h5m21 => ZgA  N
 | .h5m22 => ZgB  N
 | .h5m23 => ZgC  N
 | .h5m24 => ZgD  N
 | .h5m25 => ZgE  N
 | .h5m26 => ZgF  N
 | .h5m27 => ZgG  N
 | .h5m28 => ZgH  N
 | .h5m29 => ZgI  N
 | .h5m30 => ZgJ  N

def ZiO  (N : Nat) : Option (Ze ⊕ ZD) :=
 some (.inl (.h1m0 : Ze))

def ZcE  (N : Nat) : Option ZD := goM (ZA  N) N (ZiO  N)

inductive Zad where
 | r0

inductive ZG where
 | h1m0

def Zcf (a0 : Int) (a1 : Int) (N : Nat) : Option (ZG ⊕ Zad) :=
 if a0 = (0 : Int) then
  if a1 = (0 : Int) then
   some (.inr (.r0 : Zad))
  else
  none
 else
 none

def Zb0 (a0 : Int) (a1 : Int) (N : Nat) : ZG → Option (ZG ⊕ Zad)
 | .h1m0 => Zcf a0 a1 N

def Zc0 (a0 : Int) (a1 : Int) (N : Nat) : Option (ZG ⊕ Zad) :=
 if a0 = (0 : Int) then
  if a1 = (0 : Int) then
   some (.inl (.h1m0 : ZG))
  else
  none
 else
 none

def Zc6 (a0 : Int) (a1 : Int) (N : Nat) : Option Zad := goM (Zb0 a0 a1 N) N (Zc0 a0 a1 N)

inductive Zal where
 | r0

inductive Z7 where
 | h1m0
 | h2m0

def ZcG (a0 : Int) (N : Nat) : Option (Z7 ⊕ Zal) :=
 if a0 = (0 : Int) then
  ((Zc6 ((0 : Int)) (a0) N).bind fun r => match r with
  | .r0 =>
   some (.inl (.h2m0 : Z7))
  )
 else
 none

def ZcH (a0 : Int) (N : Nat) : Option (Z7 ⊕ Zal) :=
 if a0 = (0 : Int) then
  some (.inr (.r0 : Zal))
 else
 none

def Zb4 (a0 : Int) (N : Nat) : Z7 → Option (Z7 ⊕ Zal)
 | .h1m0 => ZcG a0 N
 | .h2m0 => ZcH a0 N

def Zdg (a0 : Int) (N : Nat) : Option (Z7 ⊕ Zal) :=
 if a0 = (0 : Int) then
  some (.inl (.h1m0 : Z7))
 else
 none

def Zd0 (a0 : Int) (N : Nat) : Option Zal := goM (Zb4 a0 N) N (Zdg a0 N)

inductive Za9 where
 | r0

def ZaC  (N : Nat) : Option Za9 :=
 ((Zd0 ((0 : Int)) N).bind fun r => match r with
 | .r0 =>
  some (.r0 : Za9)
 )

inductive ZN where
 | r0 (w0 : List R_ii)

inductive Zo where
 | h1m0 (v0 : List R_ii) (v3 : Int)
 | h2m0 (v0 : List R_ii) (v3 : Int) (v4 : Int)

def ZX (L0 : List R_ii) (n1 : Nat) (n2 : Nat) (a3 : Int) (a4 : Int) (N : Nat) (v0 : List R_ii) (v3 : Int) : Option (Zo ⊕ ZN) :=
 if (0 : Int) ≤ a3 then
  if a3 ≤ (1000 : Int) then
   if (0 : Int) ≤ a4 then
    if a4 ≤ (1000 : Int) then
     if n1 = L0.length then
      if n2 = L0.length then
       if L0.length ≤ 1000 then
        if v0.length = L0.length then
         if (0 : Int) ≤ v3 then
          if v3 ≤ (2000 : Int) then
           if v3 < a4 then
            some (.inl (.h2m0 (v0) (v3) (v3) : Zo))
           else
           some (.inr (.r0 (v0) : ZN))
          else
          none
         else
         none
        else
        none
       else
       none
      else
      none
     else
     none
    else
    none
   else
   none
  else
  none
 else
 none

def ZH (L0 : List R_ii) (n1 : Nat) (n2 : Nat) (a3 : Int) (a4 : Int) (N : Nat) (v0 : List R_ii) (v3 : Int) (v4 : Int) : Option (Zo ⊕ ZN) :=
 if (0 : Int) ≤ a3 then
  if a3 ≤ (1000 : Int) then
   if (0 : Int) ≤ a4 then
    if a4 ≤ (1000 : Int) then
     if n1 = L0.length then
      if n2 = L0.length then
       if L0.length ≤ 1000 then
        if v0.length = L0.length then
         if (0 : Int) ≤ v3 then
          if v3 ≤ (2000 : Int) then
           if (0 : Int) ≤ v4 then
            if v4 ≤ (2000 : Int) then
             if a3 < v4 then
              if (v4).toNat < v0.length then
               if (v0.getD (v4).toNat R_ii.z).a0 < (v0.getD ((v4 - (1 : Int))).toNat R_ii.z).a0 then
                some (.inl (.h2m0 (((v0.set (v4).toNat (⟨(v0.getD ((v4 - (1 : Int))).toNat R_ii.z).a0, (v0.getD ((v4 - (1 : Int))).toNat R_ii.z).a1⟩ : R_ii)).set ((v4 - (1 : Int))).toNat (⟨(v0.getD (v4).toNat R_ii.z).a0, (v0.getD (v4).toNat R_ii.z).a1⟩ : R_ii))) (v3) ((v4 - (1 : Int))) : Zo))
               else
               some (.inl (.h1m0 (v0) ((v3 + (1 : Int))) : Zo))
              else
              none
             else
             some (.inl (.h1m0 (v0) ((v3 + (1 : Int))) : Zo))
            else
            none
           else
           none
          else
          none
         else
         none
        else
        none
       else
       none
      else
      none
     else
     none
    else
    none
   else
   none
  else
  none
 else
 none

def Zag (L0 : List R_ii) (n1 : Nat) (n2 : Nat) (a3 : Int) (a4 : Int) (N : Nat) : Zo → Option (Zo ⊕ ZN)
 | .h1m0 v0 v3 => ZX L0 n1 n2 a3 a4 N v0 v3
 | .h2m0 v0 v3 v4 => ZH L0 n1 n2 a3 a4 N v0 v3 v4

def Zb1 (L0 : List R_ii) (n1 : Nat) (n2 : Nat) (a3 : Int) (a4 : Int) (N : Nat) : Option (Zo ⊕ ZN) :=
 if (0 : Int) ≤ a3 then
  if a3 ≤ (1000 : Int) then
   if (0 : Int) ≤ a4 then
    if a4 ≤ (1000 : Int) then
     if n1 = L0.length then
      if n2 = L0.length then
       if L0.length ≤ 1000 then
        some (.inl (.h1m0 (L0) ((a3 + (1 : Int))) : Zo))
       else
       none
      else
      none
     else
     none
    else
    none
   else
   none
  else
  none
 else
 none

def Zas (L0 : List R_ii) (n1 : Nat) (n2 : Nat) (a3 : Int) (a4 : Int) (N : Nat) : Option ZN := goM (Zag L0 n1 n2 a3 a4 N) N (Zb1 L0 n1 n2 a3 a4 N)

inductive Zai where
 | r0 (w0 : List R_ii)

inductive ZE where
 | h1m0 (v0 : List R_ii) (v4 : Nat)

def Za4 (L0 : List R_ii) (n1 : Nat) (n2 : Nat) (a3 : Int) (a4 : Int) (a5 : Int) (N : Nat) (v0 : List R_ii) (v4 : Nat) : Option (ZE ⊕ Zai) :=
 if (0 : Int) ≤ a3 then
  if a3 ≤ (1000 : Int) then
   if (0 : Int) ≤ a4 then
    if a4 ≤ (1000 : Int) then
     if (0 : Int) ≤ a5 then
      if a5 ≤ (1000 : Int) then
       if n1 = L0.length then
        if n2 = L0.length then
         if L0.length ≤ 1000 then
          if v0.length = L0.length then
           if (v4 : Int) < a5 then
            if ((a4 + (v4 : Int))).toNat < v0.length then
             if ((a3 + (v4 : Int))).toNat < v0.length then
              some (.inl (.h1m0 (((v0.set ((a3 + (v4 : Int))).toNat (⟨(v0.getD ((a4 + (v4 : Int))).toNat R_ii.z).a0, (v0.getD ((a4 + (v4 : Int))).toNat R_ii.z).a1⟩ : R_ii)).set ((a4 + (v4 : Int))).toNat (⟨(v0.getD ((a3 + (v4 : Int))).toNat R_ii.z).a0, (v0.getD ((a3 + (v4 : Int))).toNat R_ii.z).a1⟩ : R_ii))) ((v4 + 1)) : ZE))
             else
             none
            else
            none
           else
           some (.inr (.r0 (v0) : Zai))
          else
          none
         else
         none
        else
        none
       else
       none
      else
      none
     else
     none
    else
    none
   else
   none
  else
  none
 else
 none

def Zbm (L0 : List R_ii) (n1 : Nat) (n2 : Nat) (a3 : Int) (a4 : Int) (a5 : Int) (N : Nat) : ZE → Option (ZE ⊕ Zai)
 | .h1m0 v0 v4 => Za4 L0 n1 n2 a3 a4 a5 N v0 v4

def ZbS (L0 : List R_ii) (n1 : Nat) (n2 : Nat) (a3 : Int) (a4 : Int) (a5 : Int) (N : Nat) : Option (ZE ⊕ Zai) :=
 if (0 : Int) ≤ a3 then
  if a3 ≤ (1000 : Int) then
   if (0 : Int) ≤ a4 then
    if a4 ≤ (1000 : Int) then
     if (0 : Int) ≤ a5 then
      if a5 ≤ (1000 : Int) then
       if n1 = L0.length then
        if n2 = L0.length then
         if L0.length ≤ 1000 then
          some (.inl (.h1m0 (L0) (0) : ZE))
         else
         none
        else
        none
       else
       none
      else
      none
     else
     none
    else
    none
   else
   none
  else
  none
 else
 none

def Zar (L0 : List R_ii) (n1 : Nat) (n2 : Nat) (a3 : Int) (a4 : Int) (a5 : Int) (N : Nat) : Option Zai := goM (Zbm L0 n1 n2 a3 a4 a5 N) N (ZbS L0 n1 n2 a3 a4 a5 N)

inductive ZP where
 | r0 (w0 : List R_ii)

inductive slices_rotateCmpFunc_api_PairX where
 | h1m0
 | h1m1 (v0 : List R_ii) (v3 : Int) (v4 : Int)

def Zbu (L0 : List R_ii) (n1 : Nat) (n2 : Nat) (a3 : Int) (a4 : Int) (a5 : Int) (N : Nat) : Option (slices_rotateCmpFunc_api_PairX ⊕ ZP) :=
 if (0 : Int) ≤ a3 then
  if a3 ≤ (1000 : Int) then
   if (0 : Int) ≤ a4 then
    if a4 ≤ (1000 : Int) then
     if (0 : Int) ≤ a5 then
      if a5 ≤ (1000 : Int) then
       if n1 = L0.length then
        if n2 = L0.length then
         if L0.length ≤ 1000 then
          if ¬ ((a4 - a3) = (a5 - a4)) then
           if (a5 - a4) < (a4 - a3) then
            ((Zar (L0) (L0.length) (L0.length) ((a4 - (a4 - a3))) (a4) ((a5 - a4)) N).bind fun r => match r with
            | .r0 y11_0 =>
             some (.inl (.h1m1 (y11_0) (((a4 - a3) - (a5 - a4))) ((a5 - a4)) : slices_rotateCmpFunc_api_PairX))
            )
           else
           ((Zar (L0) (L0.length) (L0.length) ((a4 - (a4 - a3))) (((a4 + (a5 - a4)) - (a4 - a3))) ((a4 - a3)) N).bind fun r => match r with
           | .r0 y11_0 =>
            some (.inl (.h1m1 (y11_0) ((a4 - a3)) (((a5 - a4) - (a4 - a3))) : slices_rotateCmpFunc_api_PairX))
           )
          else
          ((Zar (L0) (L0.length) (L0.length) ((a4 - (a4 - a3))) (a4) ((a4 - a3)) N).bind fun r => match r with
          | .r0 y10_0 =>
           some (.inr (.r0 (y10_0) : ZP))
          )
         else
         none
        else
        none
       else
       none
      else
      none
     else
     none
    else
    none
   else
   none
  else
  none
 else
 none

def Zac (L0 : List R_ii) (n1 : Nat) (n2 : Nat) (a3 : Int) (a4 : Int) (a5 : Int) (N : Nat) (v0 : List R_ii) (v3 : Int) (v4 : Int) : Option (slices_rotateCmpFunc_api_PairX ⊕ ZP) :=
 if (0 : Int) ≤ a3 then
  if a3 ≤ (1000 : Int) then
   if (0 : Int) ≤ a4 then
    if a4 ≤ (1000 : Int) then
     if (0 : Int) ≤ a5 then
      if a5 ≤ (1000 : Int) then
       if n1 = L0.length then
        if n2 = L0.length then
         if L0.length ≤ 1000 then
          if v0.length = L0.length then
           if (0 : Int) ≤ v3 then
            if v3 ≤ (2000 : Int) then
             if (0 : Int) ≤ v4 then
              if v4 ≤ (2000 : Int) then
               if ¬ (v3 = v4) then
                if v4 < v3 then
                 ((Zar (v0) (L0.length) (L0.length) ((a4 - v3)) (a4) (v4) N).bind fun r => match r with
                 | .r0 y16_0 =>
                  some (.inl (.h1m1 (y16_0) ((v3 - v4)) (v4) : slices_rotateCmpFunc_api_PairX))
                 )
                else
                ((Zar (v0) (L0.length) (L0.length) ((a4 - v3)) (((a4 + v4) - v3)) (v3) N).bind fun r => match r with
                | .r0 y16_0 =>
                 some (.inl (.h1m1 (y16_0) (v3) ((v4 - v3)) : slices_rotateCmpFunc_api_PairX))
                )
               else
               ((Zar (v0) (L0.length) (L0.length) ((a4 - v3)) (a4) (v3) N).bind fun r => match r with
               | .r0 y15_0 =>
                some (.inr (.r0 (y15_0) : ZP))
               )
              else
              none
             else
             none
            else
            none
           else
           none
          else
          none
         else
         none
        else
        none
       else
       none
      else
      none
     else
     none
    else
    none
   else
   none
  else
  none
 else
 none

def Zaj (L0 : List R_ii) (n1 : Nat) (n2 : Nat) (a3 : Int) (a4 : Int) (a5 : Int) (N : Nat) : slices_rotateCmpFunc_api_PairX → Option (slices_rotateCmpFunc_api_PairX ⊕ ZP)
 | .h1m0 => Zbu L0 n1 n2 a3 a4 a5 N
 | .h1m1 v0 v3 v4 => Zac L0 n1 n2 a3 a4 a5 N v0 v3 v4

def Zco (L0 : List R_ii) (n1 : Nat) (n2 : Nat) (a3 : Int) (a4 : Int) (a5 : Int) (N : Nat) : Option (slices_rotateCmpFunc_api_PairX ⊕ ZP) :=
 if (0 : Int) ≤ a3 then
  if a3 ≤ (1000 : Int) then
   if (0 : Int) ≤ a4 then
    if a4 ≤ (1000 : Int) then
     if (0 : Int) ≤ a5 then
      if a5 ≤ (1000 : Int) then
       if n1 = L0.length then
        if n2 = L0.length then
         if L0.length ≤ 1000 then
          some (.inl (.h1m0 : slices_rotateCmpFunc_api_PairX))
         else
         none
        else
        none
       else
       none
      else
      none
     else
     none
    else
    none
   else
   none
  else
  none
 else
 none

def ZbQ (L0 : List R_ii) (n1 : Nat) (n2 : Nat) (a3 : Int) (a4 : Int) (a5 : Int) (N : Nat) : Option ZP := goM (Zaj L0 n1 n2 a3 a4 a5 N) N (Zco L0 n1 n2 a3 a4 a5 N)

inductive Zf where
 | r0 (w0 : List R_ii)

inductive Zg where
 | h1m0 (v2 : Int) (v3 : Int)
 | h2m0 (v2 : Int) (v3 : Int)
 | h3m0 (v6 : Int) (v7 : Int)
 | h4m0 (v0 : List R_ii) (v1 : Int) (v2 : Int)
 | h5m0 (v0 : List R_ii) (v1 : Int) (v2 : Int)

def ZV (rec : List R_ii → Nat → Nat → Int → Int → Int → Option Zf) (L0 : List R_ii) (n1 : Nat) (n2 : Nat) (a3 : Int) (a4 : Int) (a5 : Int) (N : Nat) (v2 : Int) (v3 : Int) : Option (Zg ⊕ Zf) :=
 if (0 : Int) ≤ a3 then
  if a3 ≤ (1000 : Int) then
   if (0 : Int) ≤ a4 then
    if a4 ≤ (1000 : Int) then
     if (0 : Int) ≤ a5 then
      if a5 ≤ (1000 : Int) then
       if n1 = L0.length then
        if n2 = L0.length then
         if L0.length ≤ 1000 then
          if (0 : Int) ≤ v2 then
           if v2 ≤ (2000 : Int) then
            if (0 : Int) ≤ v3 then
             if v3 ≤ (2000 : Int) then
              if v2 < v3 then
               if (((v2 + v3) / (2 : Int))).toNat < L0.length then
                if (a3).toNat < L0.length then
                 if (L0.getD (((v2 + v3) / (2 : Int))).toNat R_ii.z).a0 < (L0.getD (a3).toNat R_ii.z).a0 then
                  some (.inl (.h1m0 ((((v2 + v3) / (2 : Int)) + (1 : Int))) (v3) : Zg))
                 else
                 some (.inl (.h1m0 (v2) (((v2 + v3) / (2 : Int))) : Zg))
                else
                none
               else
               none
              else
              some (.inl (.h4m0 (L0) (v2) (a3) : Zg))
             else
             none
            else
            none
           else
           none
          else
          none
         else
         none
        else
        none
       else
       none
      else
      none
     else
     none
    else
    none
   else
   none
  else
  none
 else
 none

def ZW (rec : List R_ii → Nat → Nat → Int → Int → Int → Option Zf) (L0 : List R_ii) (n1 : Nat) (n2 : Nat) (a3 : Int) (a4 : Int) (a5 : Int) (N : Nat) (v2 : Int) (v3 : Int) : Option (Zg ⊕ Zf) :=
 if (0 : Int) ≤ a3 then
  if a3 ≤ (1000 : Int) then
   if (0 : Int) ≤ a4 then
    if a4 ≤ (1000 : Int) then
     if (0 : Int) ≤ a5 then
      if a5 ≤ (1000 : Int) then
       if n1 = L0.length then
        if n2 = L0.length then
         if L0.length ≤ 1000 then
          if (0 : Int) ≤ v2 then
           if v2 ≤ (2000 : Int) then
            if (0 : Int) ≤ v3 then
             if v3 ≤ (2000 : Int) then
              if v2 < v3 then
               if (a4).toNat < L0.length then
                if (((v2 + v3) / (2 : Int))).toNat < L0.length then
                 if (L0.getD (a4).toNat R_ii.z).a0 < (L0.getD (((v2 + v3) / (2 : Int))).toNat R_ii.z).a0 then
                  some (.inl (.h2m0 (v2) (((v2 + v3) / (2 : Int))) : Zg))
                 else
                 some (.inl (.h2m0 ((((v2 + v3) / (2 : Int)) + (1 : Int))) (v3) : Zg))
                else
                none
               else
               none
              else
              some (.inl (.h5m0 (L0) (v2) (a4) : Zg))
             else
             none
            else
            none
           else
           none
          else
          none
         else
         none
        else
        none
       else
       none
      else
      none
     else
     none
    else
    none
   else
   none
  else
  none
 else
 none

def Z6 (rec : List R_ii → Nat → Nat → Int → Int → Int → Option Zf) (L0 : List R_ii) (n1 : Nat) (n2 : Nat) (a3 : Int) (a4 : Int) (a5 : Int) (N : Nat) (v6 : Int) (v7 : Int) : Option (Zg ⊕ Zf) :=
 if (0 : Int) ≤ a3 then
  if a3 ≤ (1000 : Int) then
   if (0 : Int) ≤ a4 then
    if a4 ≤ (1000 : Int) then
     if (0 : Int) ≤ a5 then
      if a5 ≤ (1000 : Int) then
       if n1 = L0.length then
        if n2 = L0.length then
         if L0.length ≤ 1000 then
          if (0 : Int) ≤ v6 then
           if v6 ≤ (2000 : Int) then
            if (0 : Int) ≤ v7 then
             if v7 ≤ (2000 : Int) then
              if v6 < v7 then
               if (0 : Int) ≤ (((((a3 + a5) / (2 : Int)) + a4) - (1 : Int)) - ((v6 + v7) / (2 : Int))) then
                if ((((((a3 + a5) / (2 : Int)) + a4) - (1 : Int)) - ((v6 + v7) / (2 : Int)))).toNat < L0.length then
                 if (((v6 + v7) / (2 : Int))).toNat < L0.length then
                  if (L0.getD ((((((a3 + a5) / (2 : Int)) + a4) - (1 : Int)) - ((v6 + v7) / (2 : Int)))).toNat R_ii.z).a0 < (L0.getD (((v6 + v7) / (2 : Int))).toNat R_ii.z).a0 then
                   some (.inl (.h3m0 (v6) (((v6 + v7) / (2 : Int))) : Zg))
                  else
                  some (.inl (.h3m0 ((((v6 + v7) / (2 : Int)) + (1 : Int))) (v7) : Zg))
                 else
                 none
                else
                none
               else
               none
              else
              if v6 < a4 then
               if a4 < ((((a3 + a5) / (2 : Int)) + a4) - v6) then
                ((ZbQ (L0) (L0.length) (L0.length) (v6) (a4) (((((a3 + a5) / (2 : Int)) + a4) - v6)) N).bind fun r => match r with
                | .r0 y16_0 =>
                 if a3 < v6 then
                  ((rec (y16_0) (L0.length) (L0.length) (a3) (v6) (((a3 + a5) / (2 : Int)))).bind fun r => match r with
                  | .r0 y18_0 =>
                   if ((((a3 + a5) / (2 : Int)) + a4) - v6) < a5 then
                    ((rec (y18_0) (L0.length) (L0.length) (((a3 + a5) / (2 : Int))) (((((a3 + a5) / (2 : Int)) + a4) - v6)) (a5)).bind fun r => match r with
                    | .r0 y20_0 =>
                     some (.inr (.r0 (y20_0) : Zf))
                    )
                   else
                   some (.inr (.r0 (y18_0) : Zf))
                  )
                 else
                 if ((((a3 + a5) / (2 : Int)) + a4) - v6) < a5 then
                  ((rec (y16_0) (L0.length) (L0.length) (((a3 + a5) / (2 : Int))) (((((a3 + a5) / (2 : Int)) + a4) - v6)) (a5)).bind fun r => match r with
                  | .r0 y19_0 =>
                   some (.inr (.r0 (y19_0) : Zf))
                  )
                 else
                 some (.inr (.r0 (y16_0) : Zf))
                )
               else
               if a3 < v6 then
                if ((((a3 + a5) / (2 : Int)) + a4) - v6) < a5 then
                 ((rec (L0) (L0.length) (L0.length) (((a3 + a5) / (2 : Int))) (((((a3 + a5) / (2 : Int)) + a4) - v6)) (a5)).bind fun r => match r with
                 | .r0 y18_0 =>
                  some (.inr (.r0 (y18_0) : Zf))
                 )
                else
                some (.inr (.r0 (L0) : Zf))
               else
               some (.inr (.r0 (L0) : Zf))
              else
              if a3 < v6 then
               if v6 < ((a3 + a5) / (2 : Int)) then
                ((rec (L0) (L0.length) (L0.length) (a3) (v6) (((a3 + a5) / (2 : Int)))).bind fun r => match r with
                | .r0 y17_0 =>
                 some (.inr (.r0 (y17_0) : Zf))
                )
               else
               some (.inr (.r0 (L0) : Zf))
              else
              some (.inr (.r0 (L0) : Zf))
             else
             none
            else
            none
           else
           none
          else
          none
         else
         none
        else
        none
       else
       none
      else
      none
     else
     none
    else
    none
   else
   none
  else
  none
 else
 none

def Zam (rec : List R_ii → Nat → Nat → Int → Int → Int → Option Zf) (L0 : List R_ii) (n1 : Nat) (n2 : Nat) (a3 : Int) (a4 : Int) (a5 : Int) (N : Nat) (v0 : List R_ii) (v1 : Int) (v2 : Int) : Option (Zg ⊕ Zf) :=
 if (0 : Int) ≤ a3 then
  if a3 ≤ (1000 : Int) then
   if (0 : Int) ≤ a4 then
    if a4 ≤ (1000 : Int) then
     if (0 : Int) ≤ a5 then
      if a5 ≤ (1000 : Int) then
       if n1 = L0.length then
        if n2 = L0.length then
         if L0.length ≤ 1000 then
          if v0.length = L0.length then
           if (0 : Int) ≤ v1 then
            if v1 ≤ (2000 : Int) then
             if (0 : Int) ≤ v2 then
              if v2 ≤ (2000 : Int) then
               if v2 < (v1 - (1 : Int)) then
                if ((v2 + (1 : Int))).toNat < v0.length then
                 some (.inl (.h4m0 (((v0.set (v2).toNat (⟨(v0.getD ((v2 + (1 : Int))).toNat R_ii.z).a0, (v0.getD ((v2 + (1 : Int))).toNat R_ii.z).a1⟩ : R_ii)).set ((v2 + (1 : Int))).toNat (⟨(v0.getD (v2).toNat R_ii.z).a0, (v0.getD (v2).toNat R_ii.z).a1⟩ : R_ii))) (v1) ((v2 + (1 : Int))) : Zg))
                else
                none
               else
               some (.inr (.r0 (v0) : Zf))
              else
              none
             else
             none
            else
            none
           else
           none
          else
          none
         else
         none
        else
        none
       else
       none
      else
      none
     else
     none
    else
    none
   else
   none
  else
  none
 else
 none

def Zan (rec : List R_ii → Nat → Nat → Int → Int → Int → Option Zf) (L0 : List R_ii) (n1 : Nat) (n2 : Nat) (a3 : Int) (a4 : Int) (a5 : Int) (N : Nat) (v0 : List R_ii) (v1 : Int) (v2 : Int) : Option (Zg ⊕ Zf) :=
 if (0 : Int) ≤ a3 then
  if a3 ≤ (1000 : Int) then
   if (0 : Int) ≤ a4 then
    if a4 ≤ (1000 : Int) then
     if (0 : Int) ≤ a5 then
      if a5 ≤ (1000 : Int) then
       if n1 = L0.length then
        if n2 = L0.length then
         if L0.length ≤ 1000 then
          if v0.length = L0.length then
           if (0 : Int) ≤ v1 then
            if v1 ≤ (2000 : Int) then
             if (0 : Int) ≤ v2 then
              if v2 ≤ (2000 : Int) then
               if v1 < v2 then
                if ((v2 - (1 : Int))).toNat < v0.length then
                 if (v2).toNat < v0.length then
                  some (.inl (.h5m0 (((v0.set (v2).toNat (⟨(v0.getD ((v2 - (1 : Int))).toNat R_ii.z).a0, (v0.getD ((v2 - (1 : Int))).toNat R_ii.z).a1⟩ : R_ii)).set ((v2 - (1 : Int))).toNat (⟨(v0.getD (v2).toNat R_ii.z).a0, (v0.getD (v2).toNat R_ii.z).a1⟩ : R_ii))) (v1) ((v2 - (1 : Int))) : Zg))
                 else
                 none
                else
                none
               else
               some (.inr (.r0 (v0) : Zf))
              else
              none
             else
             none
            else
            none
           else
           none
          else
          none
         else
         none
        else
        none
       else
       none
      else
      none
     else
     none
    else
    none
   else
   none
  else
  none
 else
 none

def ZF (rec : List R_ii → Nat → Nat → Int → Int → Int → Option Zf) (L0 : List R_ii) (n1 : Nat) (n2 : Nat) (a3 : Int) (a4 : Int) (a5 : Int) (N : Nat) : Zg → Option (Zg ⊕ Zf)
 | .h1m0 v2 v3 => ZV rec L0 n1 n2 a3 a4 a5 N v2 v3
 | .h2m0 v2 v3 => ZW rec L0 n1 n2 a3 a4 a5 N v2 v3
 | .h3m0 v6 v7 => Z6 rec L0 n1 n2 a3 a4 a5 N v6 v7
 | .h4m0 v0 v1 v2 => Zam rec L0 n1 n2 a3 a4 a5 N v0 v1 v2
 | .h5m0 v0 v1 v2 => Zan rec L0 n1 n2 a3 a4 a5 N v0 v1 v2

def ZaJ (rec : List R_ii → Nat → Nat → Int → Int → Int → Option Zf) (L0 : List R_ii) (n1 : Nat) (n2 : Nat) (a3 : Int) (a4 : Int) (a5 : Int) (N : Nat) : Option (Zg ⊕ Zf) :=
 if (0 : Int) ≤ a3 then
  if a3 ≤ (1000 : Int) then
   if (0 : Int) ≤ a4 then
    if a4 ≤ (1000 : Int) then
     if (0 : Int) ≤ a5 then
      if a5 ≤ (1000 : Int) then
       if n1 = L0.length then
        if n2 = L0.length then
         if L0.length ≤ 1000 then
          if (a4 - a3) = (1 : Int) then
           some (.inl (.h1m0 (a4) (a5) : Zg))
          else
          if (a5 - a4) = (1 : Int) then
           some (.inl (.h2m0 (a3) (a4) : Zg))
          else
          if ((a3 + a5) / (2 : Int)) < a4 then
           some (.inl (.h3m0 (((((a3 + a5) / (2 : Int)) + a4) - a5)) (((a3 + a5) / (2 : Int))) : Zg))
          else
          some (.inl (.h3m0 (a3) (a4) : Zg))
         else
         none
        else
        none
       else
       none
      else
      none
     else
     none
    else
    none
   else
   none
  else
  none
 else
 none

def Z4 (N : Nat) : Nat → List R_ii → Nat → Nat → Int → Int → Int → Option Zf
 | 0, _, _, _, _, _, _ => none
 | n + 1, L0, n1, n2, a3, a4, a5 => goM (ZF (Z4 N n) L0 n1 n2 a3 a4 a5 N) N (ZaJ (Z4 N n) L0 n1 n2 a3 a4 a5 N)

def ZaP (L0 : List R_ii) (n1 : Nat) (n2 : Nat) (a3 : Int) (a4 : Int) (a5 : Int) (N : Nat) : Option Zf := Z4 N N L0 n1 n2 a3 a4 a5

inductive ZC where
 | r0 (w0 : List R_ii)

inductive Zh where
 | h1m0
 | h1m1 (v0 : List R_ii) (v4 : Nat) (v5 : Nat)
 | h2m0 (v0 : List R_ii) (v1 : Nat) (v3 : Int)
 | h2m1 (v0 : List R_ii) (v2 : Int)
 | h3m0 (v0 : List R_ii) (v2 : Int) (v4 : Int)
 | h3m1 (v0 : List R_ii) (v1 : Nat) (v3 : Int) (v4 : Int) (v5 : Int)

def Za6 (L0 : List R_ii) (n1 : Nat) (n2 : Nat) (a3 : Int) (N : Nat) : Option (Zh ⊕ ZC) :=
 if (0 : Int) ≤ a3 then
  if a3 ≤ (1000 : Int) then
   if n1 = L0.length then
    if n2 = L0.length then
     if L0.length ≤ 1000 then
      if (20 : Int) ≤ a3 then
       ((Zas (L0) (L0.length) (L0.length) ((0 : Int)) ((20 : Int)) N).bind fun r => match r with
       | .r0 y6_0 =>
        some (.inl (.h1m1 (y6_0) (20) (40) : Zh))
       )
      else
      ((Zas (L0) (L0.length) (L0.length) ((0 : Int)) (a3) N).bind fun r => match r with
      | .r0 y6_0 =>
       some (.inl (.h2m0 (y6_0) (L0.length) ((20 : Int)) : Zh))
      )
     else
     none
    else
    none
   else
   none
  else
  none
 else
 none

def Zao (L0 : List R_ii) (n1 : Nat) (n2 : Nat) (a3 : Int) (N : Nat) (v0 : List R_ii) (v4 : Nat) (v5 : Nat) : Option (Zh ⊕ ZC) :=
 if (0 : Int) ≤ a3 then
  if a3 ≤ (1000 : Int) then
   if n1 = L0.length then
    if n2 = L0.length then
     if L0.length ≤ 1000 then
      if v0.length = L0.length then
       if (v5 : Int) ≤ a3 then
        ((Zas (v0) (L0.length) (L0.length) ((v4 : Int)) ((v5 : Int)) N).bind fun r => match r with
        | .r0 y7_0 =>
         some (.inl (.h1m1 (y7_0) (v5) ((v5 + 20)) : Zh))
        )
       else
       ((Zas (v0) (L0.length) (L0.length) ((v4 : Int)) (a3) N).bind fun r => match r with
       | .r0 y7_0 =>
        some (.inl (.h2m0 (y7_0) (L0.length) ((20 : Int)) : Zh))
       )
      else
      none
     else
     none
    else
    none
   else
   none
  else
  none
 else
 none

def Za7 (L0 : List R_ii) (n1 : Nat) (n2 : Nat) (a3 : Int) (N : Nat) (v0 : List R_ii) (v1 : Nat) (v3 : Int) : Option (Zh ⊕ ZC) :=
 if (0 : Int) ≤ a3 then
  if a3 ≤ (1000 : Int) then
   if n1 = L0.length then
    if n2 = L0.length then
     if L0.length ≤ 1000 then
      if v0.length = L0.length then
       if (0 : Int) ≤ v3 then
        if v3 ≤ (2000 : Int) then
         if v3 < a3 then
          some (.inl (.h3m1 (v0) (v1) (v3) ((0 : Int)) (((2 : Int) * v3)) : Zh))
         else
         some (.inr (.r0 (v0) : ZC))
        else
        none
       else
       none
      else
      none
     else
     none
    else
    none
   else
   none
  else
  none
 else
 none

def Zc7 (L0 : List R_ii) (n1 : Nat) (n2 : Nat) (a3 : Int) (N : Nat) (v0 : List R_ii) (v2 : Int) : Option (Zh ⊕ ZC) :=
 if (0 : Int) ≤ a3 then
  if a3 ≤ (1000 : Int) then
   if n1 = L0.length then
    if n2 = L0.length then
     if L0.length ≤ 1000 then
      if v0.length = L0.length then
       if (0 : Int) ≤ v2 then
        if v2 ≤ (2000 : Int) then
         if v2 < a3 then
          some (.inl (.h3m0 (v0) (v2) (((2 : Int) * v2)) : Zh))
         else
         some (.inr (.r0 (v0) : ZC))
        else
        none
       else
       none
      else
      none
     else
     none
    else
    none
   else
   none
  else
  none
 else
 none

def Zc8 (L0 : List R_ii) (n1 : Nat) (n2 : Nat) (a3 : Int) (N : Nat) (v0 : List R_ii) (v2 : Int) (v4 : Int) : Option (Zh ⊕ ZC) :=
 if (0 : Int) ≤ a3 then
  if a3 ≤ (1000 : Int) then
   if n1 = L0.length then
    if n2 = L0.length then
     if L0.length ≤ 1000 then
      if v0.length = L0.length then
       if (0 : Int) ≤ v2 then
        if v2 ≤ (2000 : Int) then
         if (0 : Int) ≤ v4 then
          if v4 ≤ (2000 : Int) then
           if v4 ≤ a3 then
            ((ZaP (v0) (v0.length) (v0.length) ((0 : Int)) (v2) (v4) N).bind fun r => match r with
            | .r0 y11_0 =>
             some (.inl (.h3m1 (y11_0) (v0.length) (v2) (v4) ((v4 + ((2 : Int) * v2))) : Zh))
            )
           else
           if v2 < a3 then
            ((ZaP (v0) (v0.length) (v0.length) ((0 : Int)) (v2) (a3) N).bind fun r => match r with
            | .r0 y12_0 =>
             some (.inl (.h2m0 (y12_0) (v0.length) ((v2 * (2 : Int))) : Zh))
            )
           else
           some (.inl (.h2m1 (v0) ((v2 * (2 : Int))) : Zh))
          else
          none
         else
         none
        else
        none
       else
       none
      else
      none
     else
     none
    else
    none
   else
   none
  else
  none
 else
 none

def Zap (L0 : List R_ii) (n1 : Nat) (n2 : Nat) (a3 : Int) (N : Nat) (v0 : List R_ii) (v1 : Nat) (v3 : Int) (v4 : Int) (v5 : Int) : Option (Zh ⊕ ZC) :=
 if (0 : Int) ≤ a3 then
  if a3 ≤ (1000 : Int) then
   if n1 = L0.length then
    if n2 = L0.length then
     if L0.length ≤ 1000 then
      if v0.length = L0.length then
       if (0 : Int) ≤ v3 then
        if v3 ≤ (2000 : Int) then
         if (0 : Int) ≤ v4 then
          if v4 ≤ (2000 : Int) then
           if (0 : Int) ≤ v5 then
            if v5 ≤ (2000 : Int) then
             if v5 ≤ a3 then
              ((ZaP (v0) (v1) (v1) (v4) ((v4 + v3)) (v5) N).bind fun r => match r with
              | .r0 y13_0 =>
               some (.inl (.h3m1 (y13_0) (v1) (v3) (v5) ((v5 + ((2 : Int) * v3))) : Zh))
              )
             else
             if (v4 + v3) < a3 then
              ((ZaP (v0) (v1) (v1) (v4) ((v4 + v3)) (a3) N).bind fun r => match r with
              | .r0 y14_0 =>
               some (.inl (.h2m0 (y14_0) (v1) ((v3 * (2 : Int))) : Zh))
              )
             else
             some (.inl (.h2m0 (v0) (v1) ((v3 * (2 : Int))) : Zh))
            else
            none
           else
           none
          else
          none
         else
         none
        else
        none
       else
       none
      else
      none
     else
     none
    else
    none
   else
   none
  else
  none
 else
 none

def ZO (L0 : List R_ii) (n1 : Nat) (n2 : Nat) (a3 : Int) (N : Nat) : Zh → Option (Zh ⊕ ZC)
 | .h1m0 => Za6 L0 n1 n2 a3 N
 | .h1m1 v0 v4 v5 => Zao L0 n1 n2 a3 N v0 v4 v5
 | .h2m0 v0 v1 v3 => Za7 L0 n1 n2 a3 N v0 v1 v3
 | .h2m1 v0 v2 => Zc7 L0 n1 n2 a3 N v0 v2
 | .h3m0 v0 v2 v4 => Zc8 L0 n1 n2 a3 N v0 v2 v4
 | .h3m1 v0 v1 v3 v4 v5 => Zap L0 n1 n2 a3 N v0 v1 v3 v4 v5

def ZbZ (L0 : List R_ii) (n1 : Nat) (n2 : Nat) (a3 : Int) (N : Nat) : Option (Zh ⊕ ZC) :=
 if (0 : Int) ≤ a3 then
  if a3 ≤ (1000 : Int) then
   if n1 = L0.length then
    if n2 = L0.length then
     if L0.length ≤ 1000 then
      some (.inl (.h1m0 : Zh))
     else
     none
    else
    none
   else
   none
  else
  none
 else
 none

def ZbD (L0 : List R_ii) (n1 : Nat) (n2 : Nat) (a3 : Int) (N : Nat) : Option ZC := goM (ZO L0 n1 n2 a3 N) N (ZbZ L0 n1 n2 a3 N)

inductive Za0 where
 | r0 (w0 : List R_ii)

def ZZ (L0 : List R_ii) (n1 : Nat) (n2 : Nat) (N : Nat) : Option Za0 :=
 if n1 = L0.length then
  if n2 = L0.length then
   if L0.length ≤ 1000 then
    ((ZbD (L0) (n1) (n2) ((n1 : Int)) N).bind fun r => match r with
    | .r0 y3_0 =>
     some (.r0 (y3_0) : Za0)
    )
   else
   none
  else
  none
 else
 none

inductive hash_Pairs_2R where
 | r0 (w1 : Bool)
 | r1 (w1 : List R_ii) (w2 : Nat)

inductive Zu where
 | h1m0 (v1 : List RA) (v2 : Int)
 | h2m0 (v1 : List RA) (v2 : List R_ii) (v3 : Nat) (v4 : Nat)
 | h2m1 (v1 : List RA) (v2 : List R_ii) (v3 : List R_ii) (v4 : Nat) (v5 : Nat)
 | h3m0 (v1 : List RA) (v2 : Nat) (v3 : List R_ii) (v4 : Nat) (v5 : Nat) (v6 : Int) (v7 : Int)
 | h3m1 (v1 : List RA) (v2 : List R_ii) (v3 : Nat) (v4 : List R_ii) (v5 : Nat) (v6 : Nat) (v7 : Int) (v8 : Int)
 | h4m0
 | h4m1 (v1 : List R_ii) (v2 : Nat) (v3 : Nat)

def Zbv (L0 : List Ro) (N : Nat) (v1 : List RA) (v2 : Int) : Option (Zu ⊕ hash_Pairs_2R) :=
 if (0 : Int) ≤ v2 then
  if (v2).toNat < L0.length then
   some (.inl (.h1m0 ((ZdD v1 (L0.getD (v2).toNat Ro.z).a0 (L0.getD (v2).toNat Ro.z).a1 v2)) ((IntKind.i64.wrap (v2 - (1 : Int)))) : Zu))
  else
  none
 else
 if (Zd3 v1 (2 : Int) (1048577 : Int)) = true then
  if (0 : Int) ≤ (Zb v1 (2 : Int) (1048577 : Int)) then
   if ((Zb v1 (2 : Int) (1048577 : Int))).toNat < L0.length then
    if (((L0.getD ((Zb v1 (2 : Int) (1048577 : Int))).toNat Ro.z).a7.length : Nat) : Int) < (8 : Int) then
     some (.inr (.r0 (false) : hash_Pairs_2R))
    else
    some (.inl (.h2m0 (v1) (((L0.getD ((Zb v1 (2 : Int) (1048577 : Int))).toNat Ro.z).a7.take 8)) (((L0.getD ((Zb v1 (2 : Int) (1048577 : Int))).toNat Ro.z).a7.take 8).length) (0) : Zu))
   else
   none
  else
  none
 else
 some (.inr (.r0 (false) : hash_Pairs_2R))

def ZbT (L0 : List Ro) (N : Nat) (v1 : List RA) (v2 : List R_ii) (v3 : Nat) (v4 : Nat) : Option (Zu ⊕ hash_Pairs_2R) :=
 if (v4 : Int) < (v3 : Int) then
  if v4 < v2.length then
   some (.inl (.h3m0 (v1) (v4) (v2) (v3) (v4) ((v2.getD v4 R_ii.z).a0) ((v2.getD v4 R_ii.z).a1) : Zu))
  else
  none
 else
 ((ZaC N).bind fun r => match r with
 | .r0 =>
  some (.inl (.h4m0 : Zu))
 )

def ZcI (L0 : List Ro) (N : Nat) (v1 : List RA) (v2 : List R_ii) (v3 : List R_ii) (v4 : Nat) (v5 : Nat) : Option (Zu ⊕ hash_Pairs_2R) :=
 if (v5 : Int) < (v4 : Int) then
  if v5 < v3.length then
   some (.inl (.h3m1 (v1) (v2) (v5) (v3) (v4) (v5) ((v3.getD v5 R_ii.z).a0) ((v3.getD v5 R_ii.z).a1) : Zu))
  else
  none
 else
 ((ZZ (v2) (v2.length) (v2.length) N).bind fun r => match r with
 | .r0 y1_0 =>
  some (.inl (.h4m1 (y1_0) (v2.length) (1) : Zu))
 )

def ZaY (L0 : List Ro) (N : Nat) (v1 : List RA) (v2 : Nat) (v3 : List R_ii) (v4 : Nat) (v5 : Nat) (v6 : Int) (v7 : Int) : Option (Zu ⊕ hash_Pairs_2R) :=
 if ¬ (v6 = (2 : Int)) then
  some (.inr (.r0 (false) : hash_Pairs_2R))
 else
 if ¬ (v7 = (0 : Int)) then
  if (Zd3 v1 v6 v7) = true then
   if (0 : Int) ≤ (Zb v1 v6 v7) then
    if ((Zb v1 v6 v7)).toNat < L0.length then
     if ¬ ((L0.getD ((Zb v1 v6 v7)).toNat Ro.z).a5 = (3 : Int)) then
      if (((L0.getD ((Zb v1 v6 v7)).toNat Ro.z).a7.length : Nat) : Int) = (3 : Int) then
       if ((L0.getD ((Zb v1 v6 v7)).toNat Ro.z).a7.getD 0 R_ii.z).a0 = (2 : Int) then
        if ((L0.getD ((Zb v1 v6 v7)).toNat Ro.z).a7.getD 1 R_ii.z).a0 = (1 : Int) then
         if ((L0.getD ((Zb v1 v6 v7)).toNat Ro.z).a7.getD 2 R_ii.z).a0 = (1 : Int) then
          if ¬ ((((L0.getD ((Zb v1 v6 v7)).toNat Ro.z).a7.getD 1 R_ii.z).a1 % (8 : Int)) = (v2 : Int)) then
           some (.inr (.r0 (false) : hash_Pairs_2R))
          else
          some (.inl (.h3m1 (v1) (([(⟨((L0.getD ((Zb v1 v6 v7)).toNat Ro.z).a7.getD 1 R_ii.z).a1, ((L0.getD ((Zb v1 v6 v7)).toNat Ro.z).a7.getD 2 R_ii.z).a1⟩ : R_ii)] : List R_ii)) (v2) (v3) (v4) (v5) (((L0.getD ((Zb v1 v6 v7)).toNat Ro.z).a7.getD 0 R_ii.z).a0) (((L0.getD ((Zb v1 v6 v7)).toNat Ro.z).a7.getD 0 R_ii.z).a1) : Zu))
         else
         some (.inr (.r0 (false) : hash_Pairs_2R))
        else
        some (.inr (.r0 (false) : hash_Pairs_2R))
       else
       some (.inr (.r0 (false) : hash_Pairs_2R))
      else
      some (.inr (.r0 (false) : hash_Pairs_2R))
     else
     some (.inr (.r0 (false) : hash_Pairs_2R))
    else
    none
   else
   none
  else
  some (.inr (.r0 (false) : hash_Pairs_2R))
 else
 if (((v5 + 1) : Nat) : Int) ≤ (9223372036854775807 : Int) then
  some (.inl (.h2m0 (v1) (v3) (v4) ((v5 + 1)) : Zu))
 else
 none

def ZaZ (L0 : List Ro) (N : Nat) (v1 : List RA) (v2 : List R_ii) (v3 : Nat) (v4 : List R_ii) (v5 : Nat) (v6 : Nat) (v7 : Int) (v8 : Int) : Option (Zu ⊕ hash_Pairs_2R) :=
 if ¬ (v7 = (2 : Int)) then
  some (.inr (.r0 (false) : hash_Pairs_2R))
 else
 if ¬ (v8 = (0 : Int)) then
  if (Zd3 v1 v7 v8) = true then
   if (0 : Int) ≤ (Zb v1 v7 v8) then
    if ((Zb v1 v7 v8)).toNat < L0.length then
     if ¬ ((L0.getD ((Zb v1 v7 v8)).toNat Ro.z).a5 = (3 : Int)) then
      if (((L0.getD ((Zb v1 v7 v8)).toNat Ro.z).a7.length : Nat) : Int) = (3 : Int) then
       if ((L0.getD ((Zb v1 v7 v8)).toNat Ro.z).a7.getD 0 R_ii.z).a0 = (2 : Int) then
        if ((L0.getD ((Zb v1 v7 v8)).toNat Ro.z).a7.getD 1 R_ii.z).a0 = (1 : Int) then
         if ((L0.getD ((Zb v1 v7 v8)).toNat Ro.z).a7.getD 2 R_ii.z).a0 = (1 : Int) then
          if ¬ ((((L0.getD ((Zb v1 v7 v8)).toNat Ro.z).a7.getD 1 R_ii.z).a1 % (8 : Int)) = (v3 : Int)) then
           some (.inr (.r0 (false) : hash_Pairs_2R))
          else
          if (v2.length : Int) = (L0.length : Int) then
           some (.inr (.r0 (false) : hash_Pairs_2R))
          else
          if v2.length ≤ 100000 then
           some (.inl (.h3m1 (v1) ((v2 ++ ([(⟨((L0.getD ((Zb v1 v7 v8)).toNat Ro.z).a7.getD 1 R_ii.z).a1, ((L0.getD ((Zb v1 v7 v8)).toNat Ro.z).a7.getD 2 R_ii.z).a1⟩ : R_ii)] : List R_ii))) (v3) (v4) (v5) (v6) (((L0.getD ((Zb v1 v7 v8)).toNat Ro.z).a7.getD 0 R_ii.z).a0) (((L0.getD ((Zb v1 v7 v8)).toNat Ro.z).a7.getD 0 R_ii.z).a1) : Zu))
          else
          none
         else
         some (.inr (.r0 (false) : hash_Pairs_2R))
        else
        some (.inr (.r0 (false) : hash_Pairs_2R))
       else
       some (.inr (.r0 (false) : hash_Pairs_2R))
      else
      some (.inr (.r0 (false) : hash_Pairs_2R))
     else
     some (.inr (.r0 (false) : hash_Pairs_2R))
    else
    none
   else
   none
  else
  some (.inr (.r0 (false) : hash_Pairs_2R))
 else
 if (((v6 + 1) : Nat) : Int) ≤ (9223372036854775807 : Int) then
  some (.inl (.h2m1 (v1) (v2) (v4) (v5) ((v6 + 1)) : Zu))
 else
 none

def ZgK (L0 : List Ro) (N : Nat) : Option (Zu ⊕ hash_Pairs_2R) :=
 some (.inr (.r0 (true) : hash_Pairs_2R))

def ZbU (L0 : List Ro) (N : Nat) (v1 : List R_ii) (v2 : Nat) (v3 : Nat) : Option (Zu ⊕ hash_Pairs_2R) :=
 if (v3 : Int) < (v2 : Int) then
  if v3 < v1.length then
   if ((v3 : Int) - (1 : Int)) ≤ (9223372036854775807 : Int) then
    if (0 : Int) ≤ ((v3 : Int) - (1 : Int)) then
     if (v1.getD v3 R_ii.z).a0 = (v1.getD (((v3 : Int) - (1 : Int))).toNat R_ii.z).a0 then
      some (.inr (.r0 (false) : hash_Pairs_2R))
     else
     if (((v3 + 1) : Nat) : Int) ≤ (9223372036854775807 : Int) then
      some (.inl (.h4m1 (v1) (v2) ((v3 + 1)) : Zu))
     else
     none
    else
    none
   else
   none
  else
  none
 else
 some (.inr (.r1 (v1) (v2) : hash_Pairs_2R))

def Zaw (L0 : List Ro) (N : Nat) : Zu → Option (Zu ⊕ hash_Pairs_2R)
 | .h1m0 v1 v2 => Zbv L0 N v1 v2
 | .h2m0 v1 v2 v3 v4 => ZbT L0 N v1 v2 v3 v4
 | .h2m1 v1 v2 v3 v4 v5 => ZcI L0 N v1 v2 v3 v4 v5
 | .h3m0 v1 v2 v3 v4 v5 v6 v7 => ZaY L0 N v1 v2 v3 v4 v5 v6 v7
 | .h3m1 v1 v2 v3 v4 v5 v6 v7 v8 => ZaZ L0 N v1 v2 v3 v4 v5 v6 v7 v8
 | .h4m0 => ZgK L0 N
 | .h4m1 v1 v2 v3 => ZbU L0 N v1 v2 v3

def Zgq (L0 : List Ro) (N : Nat) : Option (Zu ⊕ hash_Pairs_2R) :=
 if ((L0.length : Int) - (1 : Int)) ≤ (9223372036854775807 : Int) then
  some (.inl (.h1m0 (([] : List RA)) (((L0.length : Int) - (1 : Int))) : Zu))
 else
 none

def Zdn (L0 : List Ro) (N : Nat) : Option hash_Pairs_2R := goM (Zaw L0 N) N (Zgq L0 N)

inductive ZbH where
 | r0 (w1 : Int) (w2 : Int) (w3 : Int) (w4 : Int) (w5 : Int) (w6 : Int) (w7 : Int) (w8 : List R_ii)
 | r1

inductive Zbs where
 | h1m0 (v1 : Nat)

def ZbV (L0 : List Ro) (a1 : Int) (a2 : Int) (N : Nat) (v1 : Nat) : Option (Zbs ⊕ ZbH) :=
 if (v1 : Int) < (L0.length : Int) then
  if ((L0.getD v1 Ro.z).a0 = a1 ∧ (L0.getD v1 Ro.z).a1 = a2) then
   some (.inr (.r0 ((L0.getD v1 Ro.z).a0) ((L0.getD v1 Ro.z).a1) ((L0.getD v1 Ro.z).a2) ((L0.getD v1 Ro.z).a3) ((L0.getD v1 Ro.z).a4) ((L0.getD v1 Ro.z).a5) ((L0.getD v1 Ro.z).a6) ((L0.getD v1 Ro.z).a7) : ZbH))
  else
  if (((v1 + 1) : Nat) : Int) ≤ (9223372036854775807 : Int) then
   some (.inl (.h1m0 ((v1 + 1)) : Zbs))
  else
  none
 else
 some (.inr (.r1 : ZbH))

def Zc9 (L0 : List Ro) (a1 : Int) (a2 : Int) (N : Nat) : Zbs → Option (Zbs ⊕ ZbH)
 | .h1m0 v1 => ZbV L0 a1 a2 N v1

def Zin (L0 : List Ro) (a1 : Int) (a2 : Int) (N : Nat) : Option (Zbs ⊕ ZbH) :=
 some (.inl (.h1m0 (0) : Zbs))

def Zdo (L0 : List Ro) (a1 : Int) (a2 : Int) (N : Nat) : Option ZbH := goM (Zc9 L0 a1 a2 N) N (Zin L0 a1 a2 N)

inductive Zdk where
 | r0

inductive Zcu where
 | h1m0

def ZhU (a0 : Int) (a1 : Int) (N : Nat) : Option (Zcu ⊕ Zdk) :=
 some (.inr (.r0 : Zdk))

def Zgr (a0 : Int) (a1 : Int) (N : Nat) : Zcu → Option (Zcu ⊕ Zdk)
 | .h1m0 => ZhU a0 a1 N

def Zj9 (a0 : Int) (a1 : Int) (N : Nat) : Option (Zcu ⊕ Zdk) :=
 some (.inl (.h1m0 : Zcu))

def Zjg (a0 : Int) (a1 : Int) (N : Nat) : Option Zdk := goM (Zgr a0 a1 N) N (Zj9 a0 a1 N)

inductive ZaQ where
 | r0
 | r1 (w1 : List R_ii)

inductive Zbt where
 | h1m0 (v1 : Nat)

def Zbw (L0 : List R_ii) (a1 : Int) (a2 : Int) (N : Nat) (v1 : Nat) : Option (Zbt ⊕ ZaQ) :=
 if (v1 : Int) < (L0.length : Int) then
  if (L0.getD v1 R_ii.z).a0 < a1 then
   if (((v1 + 1) : Nat) : Int) ≤ (9223372036854775807 : Int) then
    some (.inl (.h1m0 ((v1 + 1)) : Zbt))
   else
   none
  else
  if (L0.getD v1 R_ii.z).a0 = a1 then
   some (.inr (.r0 : ZaQ))
  else
  if (v1 - 0) = 0 then
   if (L0.length - v1) ≤ 100000 then
    some (.inr (.r1 ((([(⟨a1, a2⟩ : R_ii)] : List R_ii) ++ ((L0.drop v1).take (L0.length - v1)))) : ZaQ))
   else
   none
  else
  if (v1 - 0) ≤ 100000 then
   if (L0.length - v1) ≤ 100000 then
    if ((0 + (v1 - 0)) + 1) ≤ 100000 then
     some (.inr (.r1 ((((L0.take (v1 - 0)) ++ ([(⟨a1, a2⟩ : R_ii)] : List R_ii)) ++ ((L0.drop v1).take (L0.length - v1)))) : ZaQ))
    else
    none
   else
   none
  else
  none
 else
 if (v1 : Int) ≤ (L0.length : Int) then
  if (v1 - 0) = 0 then
   some (.inr (.r1 (([(⟨a1, a2⟩ : R_ii)] : List R_ii)) : ZaQ))
  else
  if (v1 - 0) ≤ 100000 then
   some (.inr (.r1 (((L0.take (v1 - 0)) ++ ([(⟨a1, a2⟩ : R_ii)] : List R_ii))) : ZaQ))
  else
  none
 else
 none

def ZcA (L0 : List R_ii) (a1 : Int) (a2 : Int) (N : Nat) : Zbt → Option (Zbt ⊕ ZaQ)
 | .h1m0 v1 => Zbw L0 a1 a2 N v1

def Zio (L0 : List R_ii) (a1 : Int) (a2 : Int) (N : Nat) : Option (Zbt ⊕ ZaQ) :=
 some (.inl (.h1m0 (0) : Zbt))

def ZdE (L0 : List R_ii) (a1 : Int) (a2 : Int) (N : Nat) : Option ZaQ := goM (ZcA L0 a1 a2 N) N (Zio L0 a1 a2 N)

inductive Zt where
 | r0 (w1 : Bool)
 | r1 (w1 : List R_ii)

inductive ref31_Pairs_2X where
 | h1m0 (v2 : Nat) (v3 : Int) (v4 : Int) (v5 : Int) (v6 : Int) (v7 : Int) (v8 : Int) (v9 : Int) (v10 : List R_ii)
 | h1m1 (v1 : List R_ii) (v2 : Nat) (v3 : Nat) (v4 : Int) (v5 : Int) (v6 : Int) (v7 : Int) (v8 : Int) (v9 : Int) (v10 : Int) (v11 : List R_ii)
 | h2m0 (v2 : Nat) (v3 : Int) (v4 : Int) (v5 : Int) (v6 : Int) (v7 : Int) (v8 : Int) (v9 : Int) (v10 : List R_ii) (v11 : Int) (v12 : Int)
 | h2m1 (v1 : List R_ii) (v2 : Nat) (v3 : Nat) (v4 : Int) (v5 : Int) (v6 : Int) (v7 : Int) (v8 : Int) (v9 : Int) (v10 : Int) (v11 : List R_ii) (v12 : Int) (v13 : Int)

def ZcB (L0 : List Ro) (N : Nat) (v2 : Nat) (v3 : Int) (v4 : Int) (v5 : Int) (v6 : Int) (v7 : Int) (v8 : Int) (v9 : Int) (v10 : List R_ii) : Option (ref31_Pairs_2X ⊕ Zt) :=
 if (v2 : Int) < (8 : Int) then
  if v2 < v10.length then
   some (.inl (.h2m0 (v2) (v3) (v4) (v5) (v6) (v7) (v8) (v9) (v10) ((v10.getD v2 R_ii.z).a0) ((v10.getD v2 R_ii.z).a1) : ref31_Pairs_2X))
  else
  none
 else
 some (.inr (.r0 (true) : Zt))

def ZcC (L0 : List Ro) (N : Nat) (v1 : List R_ii) (v2 : Nat) (v3 : Nat) (v4 : Int) (v5 : Int) (v6 : Int) (v7 : Int) (v8 : Int) (v9 : Int) (v10 : Int) (v11 : List R_ii) : Option (ref31_Pairs_2X ⊕ Zt) :=
 if (v3 : Int) < (8 : Int) then
  if v3 < v11.length then
   some (.inl (.h2m1 (v1) (v2) (v3) (v4) (v5) (v6) (v7) (v8) (v9) (v10) (v11) ((v11.getD v3 R_ii.z).a0) ((v11.getD v3 R_ii.z).a1) : ref31_Pairs_2X))
  else
  none
 else
 some (.inr (.r1 (v1) : Zt))

def Zbn (L0 : List Ro) (N : Nat) (v2 : Nat) (v3 : Int) (v4 : Int) (v5 : Int) (v6 : Int) (v7 : Int) (v8 : Int) (v9 : Int) (v10 : List R_ii) (v11 : Int) (v12 : Int) : Option (ref31_Pairs_2X ⊕ Zt) :=
 if ¬ ((v11 = (2 : Int) ∧ v12 = (0 : Int))) then
  ((Zdo (L0) (v11) (v12) N).bind fun r => match r with
  | .r0 y1_0 y1_1 y1_2 y1_3 y1_4 y1_5 y1_6 y1_7 =>
   if (L0.length : Int) < (1 : Int) then
    some (.inr (.r0 (false) : Zt))
   else
   if ¬ (v11 = (2 : Int)) then
    some (.inr (.r0 (false) : Zt))
   else
   if y1_5 = (3 : Int) then
    some (.inr (.r0 (false) : Zt))
   else
   if ¬ ((y1_7.length : Int) = (3 : Int)) then
    some (.inr (.r0 (false) : Zt))
   else
   if ¬ ((y1_7.getD 0 R_ii.z).a0 = (2 : Int)) then
    some (.inr (.r0 (false) : Zt))
   else
   if ¬ ((y1_7.getD 1 R_ii.z).a0 = (1 : Int)) then
    some (.inr (.r0 (false) : Zt))
   else
   if ¬ ((y1_7.getD 2 R_ii.z).a0 = (1 : Int)) then
    some (.inr (.r0 (false) : Zt))
   else
   if ¬ ((((Int.tmod (y1_7.getD 1 R_ii.z).a1 (8 : Int)) + (8 : Int)) % (8 : Int)) = (v2 : Int)) then
    some (.inr (.r0 (false) : Zt))
   else
   ((Zjg ((y1_7.getD 1 R_ii.z).a1) ((y1_7.getD 2 R_ii.z).a1) N).bind fun r => match r with
   | .r0 =>
    some (.inl (.h2m1 (([(⟨(y1_7.getD 1 R_ii.z).a1, (y1_7.getD 2 R_ii.z).a1⟩ : R_ii)] : List R_ii)) (1) (v2) (v3) (v4) (v5) (v6) (v7) (v8) (v9) (v10) ((y1_7.getD 0 R_ii.z).a0) ((y1_7.getD 0 R_ii.z).a1) : ref31_Pairs_2X))
   )
  | .r1 =>
   some (.inr (.r0 (false) : Zt))
  )
 else
 if (((v2 + 1) : Nat) : Int) ≤ (9223372036854775807 : Int) then
  some (.inl (.h1m0 ((v2 + 1)) (v3) (v4) (v5) (v6) (v7) (v8) (v9) (v10) : ref31_Pairs_2X))
 else
 none

def Zbo (L0 : List Ro) (N : Nat) (v1 : List R_ii) (v2 : Nat) (v3 : Nat) (v4 : Int) (v5 : Int) (v6 : Int) (v7 : Int) (v8 : Int) (v9 : Int) (v10 : Int) (v11 : List R_ii) (v12 : Int) (v13 : Int) : Option (ref31_Pairs_2X ⊕ Zt) :=
 if ¬ ((v12 = (2 : Int) ∧ v13 = (0 : Int))) then
  ((Zdo (L0) (v12) (v13) N).bind fun r => match r with
  | .r0 y1_0 y1_1 y1_2 y1_3 y1_4 y1_5 y1_6 y1_7 =>
   if (((v2 + 1) : Nat) : Int) ≤ (9223372036854775807 : Int) then
    if (L0.length : Int) < (((v2 + 1) : Nat) : Int) then
     some (.inr (.r0 (false) : Zt))
    else
    if ¬ (v12 = (2 : Int)) then
     some (.inr (.r0 (false) : Zt))
    else
    if y1_5 = (3 : Int) then
     some (.inr (.r0 (false) : Zt))
    else
    if ¬ ((y1_7.length : Int) = (3 : Int)) then
     some (.inr (.r0 (false) : Zt))
    else
    if ¬ ((y1_7.getD 0 R_ii.z).a0 = (2 : Int)) then
     some (.inr (.r0 (false) : Zt))
    else
    if ¬ ((y1_7.getD 1 R_ii.z).a0 = (1 : Int)) then
     some (.inr (.r0 (false) : Zt))
    else
    if ¬ ((y1_7.getD 2 R_ii.z).a0 = (1 : Int)) then
     some (.inr (.r0 (false) : Zt))
    else
    if ¬ ((((Int.tmod (y1_7.getD 1 R_ii.z).a1 (8 : Int)) + (8 : Int)) % (8 : Int)) = (v3 : Int)) then
     some (.inr (.r0 (false) : Zt))
    else
    ((ZdE (v1) ((y1_7.getD 1 R_ii.z).a1) ((y1_7.getD 2 R_ii.z).a1) N).bind fun r => match r with
    | .r0 =>
     some (.inr (.r0 (false) : Zt))
    | .r1 y11_0 =>
     some (.inl (.h2m1 (y11_0) ((v2 + 1)) (v3) (v4) (v5) (v6) (v7) (v8) (v9) (v10) (v11) ((y1_7.getD 0 R_ii.z).a0) ((y1_7.getD 0 R_ii.z).a1) : ref31_Pairs_2X))
    )
   else
   none
  | .r1 =>
   if (((v2 + 1) : Nat) : Int) ≤ (9223372036854775807 : Int) then
    some (.inr (.r0 (false) : Zt))
   else
   none
  )
 else
 if (((v3 + 1) : Nat) : Int) ≤ (9223372036854775807 : Int) then
  some (.inl (.h1m1 (v1) (v2) ((v3 + 1)) (v4) (v5) (v6) (v7) (v8) (v9) (v10) (v11) : ref31_Pairs_2X))
 else
 none

def ZaL (L0 : List Ro) (N : Nat) : ref31_Pairs_2X → Option (ref31_Pairs_2X ⊕ Zt)
 | .h1m0 v2 v3 v4 v5 v6 v7 v8 v9 v10 => ZcB L0 N v2 v3 v4 v5 v6 v7 v8 v9 v10
 | .h1m1 v1 v2 v3 v4 v5 v6 v7 v8 v9 v10 v11 => ZcC L0 N v1 v2 v3 v4 v5 v6 v7 v8 v9 v10 v11
 | .h2m0 v2 v3 v4 v5 v6 v7 v8 v9 v10 v11 v12 => Zbn L0 N v2 v3 v4 v5 v6 v7 v8 v9 v10 v11 v12
 | .h2m1 v1 v2 v3 v4 v5 v6 v7 v8 v9 v10 v11 v12 v13 => Zbo L0 N v1 v2 v3 v4 v5 v6 v7 v8 v9 v10 v11 v12 v13

def ZdJ (L0 : List Ro) (N : Nat) : Option (ref31_Pairs_2X ⊕ Zt) :=
 ((Zdo (L0) ((2 : Int)) ((1048577 : Int)) N).bind fun r => match r with
 | .r0 y0_0 y0_1 y0_2 y0_3 y0_4 y0_5 y0_6 y0_7 =>
  if (y0_7.length : Int) < (8 : Int) then
   some (.inr (.r0 (false) : Zt))
  else
  some (.inl (.h1m0 (0) (y0_0) (y0_1) (y0_2) (y0_3) (y0_4) (y0_5) (y0_6) (y0_7) : ref31_Pairs_2X))
 | .r1 =>
  some (.inr (.r0 (false) : Zt))
 )

def ZbI (L0 : List Ro) (N : Nat) : Option Zt := goM (ZaL L0 N) N (ZdJ L0 N)

inductive Zbd where
 | r0 (w1 : Bool)

inductive ZaM where
 | h1m0

def ZeF (L0 : List R_ii) (N : Nat) : Option (ZaM ⊕ Zbd) :=
 some (.inr (.r0 (true) : Zbd))

def ZdK (L0 : List R_ii) (N : Nat) : ZaM → Option (ZaM ⊕ Zbd)
 | .h1m0 => ZeF L0 N

def Zf6 (L0 : List R_ii) (N : Nat) : Option (ZaM ⊕ Zbd) :=
 if ¬ ((0 : Int) = (L0.length : Int)) then
  some (.inr (.r0 (false) : Zbd))
 else
 some (.inl (.h1m0 : ZaM))

def ZeS (L0 : List R_ii) (N : Nat) : Option Zbd := goM (ZdK L0 N) N (Zf6 L0 N)

inductive Zbe where
 | r0 (w1 : Bool)

inductive ZaN where
 | h1m0

def ZeG (L0 : List R_ii) (n1 : Nat) (N : Nat) : Option (ZaN ⊕ Zbe) :=
 if (0 : Int) < (n1 : Int) then
  none
 else
 some (.inr (.r0 (true) : Zbe))

def ZdL (L0 : List R_ii) (n1 : Nat) (N : Nat) : ZaN → Option (ZaN ⊕ Zbe)
 | .h1m0 => ZeG L0 n1 N

def Zf7 (L0 : List R_ii) (n1 : Nat) (N : Nat) : Option (ZaN ⊕ Zbe) :=
 if ¬ ((n1 : Int) = (0 : Int)) then
  some (.inr (.r0 (false) : Zbe))
 else
 some (.inl (.h1m0 : ZaN))

def ZeT (L0 : List R_ii) (n1 : Nat) (N : Nat) : Option Zbe := goM (ZdL L0 n1 N) N (Zf7 L0 n1 N)

inductive ZaG where
 | r0 (w2 : Bool)

inductive Za8 where
 | h1m0 (v3 : Nat)

def ZbP (L0 : List R_ii) (n1 : Nat) (L2 : List R_ii) (N : Nat) (v3 : Nat) : Option (Za8 ⊕ ZaG) :=
 if (v3 : Int) < (n1 : Int) then
  if v3 < L0.length then
   if v3 < L2.length then
    if ¬ (((L0.getD v3 R_ii.z).a0 = (L2.getD v3 R_ii.z).a0 ∧ (L0.getD v3 R_ii.z).a1 = (L2.getD v3 R_ii.z).a1)) then
     some (.inr (.r0 (false) : ZaG))
    else
    if (((v3 + 1) : Nat) : Int) ≤ (9223372036854775807 : Int) then
     some (.inl (.h1m0 ((v3 + 1)) : Za8))
    else
    none
   else
   none
  else
  none
 else
 some (.inr (.r0 (true) : ZaG))

def Zdb (L0 : List R_ii) (n1 : Nat) (L2 : List R_ii) (N : Nat) : Za8 → Option (Za8 ⊕ ZaG)
 | .h1m0 v3 => ZbP L0 n1 L2 N v3

def Zei (L0 : List R_ii) (n1 : Nat) (L2 : List R_ii) (N : Nat) : Option (Za8 ⊕ ZaG) :=
 if ¬ ((n1 : Int) = (L2.length : Int)) then
  some (.inr (.r0 (false) : ZaG))
 else
 some (.inl (.h1m0 (0) : Za8))

def Zdu (L0 : List R_ii) (n1 : Nat) (L2 : List R_ii) (N : Nat) : Option ZaG := goM (Zdb L0 n1 L2 N) N (Zei L0 n1 L2 N)

inductive Zs where
 | r0 (w0 : Bool)

inductive law31_HashPairsX where
 | h1m0
 | h1m1 (v1 : List Ro) (v2 : Nat)

def Zck (L0 : List Ro) (N : Nat) : Option (law31_HashPairsX ⊕ Zs) :=
 if (0 : Int) < (L0.length : Int) then
  some (.inl (.h1m1 (([(⟨(L0.getD 0 Ro.z).a0, (L0.getD 0 Ro.z).a1, (L0.getD 0 Ro.z).a2, (L0.getD 0 Ro.z).a3, (L0.getD 0 Ro.z).a4, (L0.getD 0 Ro.z).a5, (L0.getD 0 Ro.z).a6, ((L0.getD 0 Ro.z).a7.take ((if (16 : Int) < (((L0.getD 0 Ro.z).a7.length : Nat) : Int) then (16 : Int) else (((L0.getD 0 Ro.z).a7.length : Nat) : Int))).toNat)⟩ : Ro)] : List Ro)) (1) : law31_HashPairsX))
 else
 ((Zjf N).bind fun r => match r with
 | .r0 =>
  ((Zf3 N).bind fun r => match r with
  | .r0 =>
   ((ZcK N).bind fun r => match r with
   | .r0 =>
    ((ZcE N).bind fun r => match r with
    | .r0 =>
     some (.inr (.r0 (true) : Zs))
    )
   )
  )
 )

def Zcl (L0 : List Ro) (N : Nat) (v1 : List Ro) (v2 : Nat) : Option (law31_HashPairsX ⊕ Zs) :=
 if (v2 : Int) < (L0.length : Int) then
  if (v2 : Int) < (40 : Int) then
   if v1.length ≤ 100000 then
    some (.inl (.h1m1 ((v1 ++ ([(⟨(L0.getD v2 Ro.z).a0, (L0.getD v2 Ro.z).a1, (L0.getD v2 Ro.z).a2, (L0.getD v2 Ro.z).a3, (L0.getD v2 Ro.z).a4, (L0.getD v2 Ro.z).a5, (L0.getD v2 Ro.z).a6, ((L0.getD v2 Ro.z).a7.take ((if (16 : Int) < (((L0.getD v2 Ro.z).a7.length : Nat) : Int) then (16 : Int) else (((L0.getD v2 Ro.z).a7.length : Nat) : Int))).toNat)⟩ : Ro)] : List Ro))) ((v2 + 1)) : law31_HashPairsX))
   else
   none
  else
  ((Zdn (v1) N).bind fun r => match r with
  | .r0 y2_0 =>
   ((ZbI (v1) N).bind fun r => match r with
   | .r0 y3_0 =>
    ((ZcK N).bind fun r => match r with
    | .r0 =>
     if y2_0 = y3_0 then
      ((ZcE N).bind fun r => match r with
      | .r0 =>
       some (.inr (.r0 (true) : Zs))
      )
     else
     some (.inr (.r0 (false) : Zs))
    )
   | .r1 y3_0 =>
    ((ZeS (y3_0) N).bind fun r => match r with
    | .r0 y4_0 =>
     if y4_0 = true then
      if y2_0 = true then
       ((ZcE N).bind fun r => match r with
       | .r0 =>
        some (.inr (.r0 (true) : Zs))
       )
      else
      some (.inr (.r0 (false) : Zs))
     else
     some (.inr (.r0 (false) : Zs))
    )
   )
  | .r1 y2_0 y2_1 =>
   ((ZbI (v1) N).bind fun r => match r with
   | .r0 y3_0 =>
    ((ZeT (y2_0) (y2_1) N).bind fun r => match r with
    | .r0 y4_0 =>
     if y4_0 = true then
      if true = y3_0 then
       ((ZcE N).bind fun r => match r with
       | .r0 =>
        some (.inr (.r0 (true) : Zs))
       )
      else
      some (.inr (.r0 (false) : Zs))
     else
     some (.inr (.r0 (false) : Zs))
    )
   | .r1 y3_0 =>
    ((Zdu (y2_0) (y2_1) (y3_0) N).bind fun r => match r with
    | .r0 y4_0 =>
     if y4_0 = true then
      ((ZcE N).bind fun r => match r with
      | .r0 =>
       some (.inr (.r0 (true) : Zs))
      )
     else
     some (.inr (.r0 (false) : Zs))
    )
   )
  )
 else
 ((Zdn (v1) N).bind fun r => match r with
 | .r0 y1_0 =>
  ((ZbI (v1) N).bind fun r => match r with
  | .r0 y2_0 =>
   ((ZcK N).bind fun r => match r with
   | .r0 =>
    if y1_0 = y2_0 then
     ((ZcE N).bind fun r => match r with
     | .r0 =>
      some (.inr (.r0 (true) : Zs))
     )
    else
    some (.inr (.r0 (false) : Zs))
   )
  | .r1 y2_0 =>
   ((ZeS (y2_0) N).bind fun r => match r with
   | .r0 y3_0 =>
    if y3_0 = true then
     if y1_0 = true then
      ((ZcE N).bind fun r => match r with
      | .r0 =>
       some (.inr (.r0 (true) : Zs))
      )
     else
     some (.inr (.r0 (false) : Zs))
    else
    some (.inr (.r0 (false) : Zs))
   )
  )
 | .r1 y1_0 y1_1 =>
  ((ZbI (v1) N).bind fun r => match r with
  | .r0 y2_0 =>
   ((ZeT (y1_0) (y1_1) N).bind fun r => match r with
   | .r0 y3_0 =>
    if y3_0 = true then
     if true = y2_0 then
      ((ZcE N).bind fun r => match r with
      | .r0 =>
       some (.inr (.r0 (true) : Zs))
      )
     else
     some (.inr (.r0 (false) : Zs))
    else
    some (.inr (.r0 (false) : Zs))
   )
  | .r1 y2_0 =>
   ((Zdu (y1_0) (y1_1) (y2_0) N).bind fun r => match r with
   | .r0 y3_0 =>
    if y3_0 = true then
     ((ZcE N).bind fun r => match r with
     | .r0 =>
      some (.inr (.r0 (true) : Zs))
     )
    else
    some (.inr (.r0 (false) : Zs))
   )
  )
 )

def ZcL (L0 : List Ro) (N : Nat) : law31_HashPairsX → Option (law31_HashPairsX ⊕ Zs)
 | .h1m0 => Zck L0 N
 | .h1m1 v1 v2 => Zcl L0 N v1 v2

def ZgL (L0 : List Ro) (N : Nat) : Option (law31_HashPairsX ⊕ Zs) :=
 some (.inl (.h1m0 : law31_HashPairsX))

def ZhV (L0 : List Ro) (N : Nat) : Option Zs := goM (ZcL L0 N) N (ZgL L0 N)
end Ev
end Go.Proofs.YtjdojnecmplmnaaGreat
/- How records are written, and which functions are told. -/
namespace Go.Proofs.YtjdojnecmplmnaaGreat
open Go.RowKit
namespace Ev
set_option linter.unusedVariables false
theorem Zu3 {P : Program} {ext : FuncId → Option Ext} (F : Fit P ext) (p : FuncId → Bool) : Fit P (fun f => bif p f then none else ext f) :=
 have h : ∀ f e, (bif p f then none else ext f) = some e → ext f = some e := fun f e h => by cases hp : p f <;> rw [hp] at h <;> first | cases h; done | exact h
 ⟨F.mixed, F.go, fun f g e => F.fn f g (h _ _ e), fun f g e => F.hp f g (h _ _ e), fun f S e => F.tc f S (h _ _ e), fun f n e => F.mark f n (h _ _ e), fun f k e' he => F.ext f k e' (h _ _ he)⟩
theorem ZiE (n : Int) : IntKind.i64.wrap (((BitVec.ofInt IntKind.i64.bits n &&& BitVec.ofInt IntKind.i64.bits 7).toNat : Nat) : Int) = n % 8 := by
 have e1 : (BitVec.ofInt 64 n &&& BitVec.ofInt 64 7).toNat = (BitVec.ofInt 64 n).toNat % 8 := by
  rw [BitVec.toNat_and]
  have : (BitVec.ofInt 64 7).toNat = 2 ^ 3 - 1 := by decide
  rw [this, Nat.and_two_pow_sub_one_eq_mod]
 have e2 : ((BitVec.ofInt 64 n).toNat : Int) = n % 18446744073709551616 := by
  rw [BitVec.toNat_ofInt]
  omega
 show IntKind.i64.wrap (((BitVec.ofInt 64 n &&& BitVec.ofInt 64 7).toNat : Nat) : Int) = n % 8
 rw [e1, wrap_i64 (by omega)]
 omega
theorem sm {ρ : Nat → Nat} {o p : AObj} (h : Zjn ρ o p := by exact ⟨rfl, ⟨[], by rfl⟩, by rfl⟩) : Zjn ρ o p := h
abbrev vq : Value := .int .i64 0
abbrev vf : Value := .bool false
abbrev vT : Value := .bool true
abbrev vn : Value := .slice none 0 0
abbrev vtt : Value := .tuple #[]
noncomputable abbrev dS {α : Type} (a : α) : Bool := dP (a = a)
theorem ltA {p : Prop} (h : p := by first | omega | (simp only [List.length_set, List.length_append, List.length_cons, List.length_nil, List.length_replicate, List.length_take, List.length_drop] at * <;> omega)) : p := h
theorem eqA {p : Prop} (h : p := by first | rfl | omega | (simp only [List.length_set, List.length_append, List.length_cons, List.length_nil, List.length_replicate, List.length_take, List.length_drop] at * <;> omega)) : p := h
theorem rr {p q : Prop} (h : p := by rfl) (h2 : q := by rfl) : p ∧ q := ⟨h, h2⟩
section
variable {l : List (Bool × Bool)}
theorem oT {a b : Int} (hl : ∀ q ∈ l, q.1 = q.2) (h : a = b := by omega) : ∀ q ∈ ((a == b), true) :: l, q.1 = q.2 := Zc (bT h) hl
theorem oF {a b : Int} (hl : ∀ q ∈ l, q.1 = q.2) (h : ¬ a = b := by omega) : ∀ q ∈ ((a == b), false) :: l, q.1 = q.2 := Zc (bF h) hl
theorem oD {a b : Int} (hl : ∀ q ∈ l, q.1 = q.2) (h : a ≠ b := by omega) : ∀ q ∈ ((a != b), true) :: l, q.1 = q.2 := Zc (bne_iff_ne.2 h) hl
theorem oE {a b : Int} (hl : ∀ q ∈ l, q.1 = q.2) (h : a = b := by omega) : ∀ q ∈ ((a != b), false) :: l, q.1 = q.2 := Zc (bne_eq_false_iff_eq.2 h) hl
theorem oY {p : Prop} [Decidable p] (hl : ∀ q ∈ l, q.1 = q.2) (h : p := by omega) : ∀ q ∈ (decide p, true) :: l, q.1 = q.2 := Zc (decide_eq_true h) hl
theorem oN {p : Prop} [Decidable p] (hl : ∀ q ∈ l, q.1 = q.2) (h : ¬ p := by omega) : ∀ q ∈ (decide p, false) :: l, q.1 = q.2 := Zc (decide_eq_false h) hl
theorem oR {α : Type} {a b : α} (hl : ∀ q ∈ l, q.1 = q.2) (h : a = b := by rfl) : ∀ q ∈ (dP (a = b), true) :: l, q.1 = q.2 := Zc (Zl h) hl
theorem oB {a b : Nat} (hl : ∀ q ∈ l, q.1 = q.2) (h : a < b := by omega) : ∀ q ∈ (Nat.blt a b, true) :: l, q.1 = q.2 := Zc (Zt3 h) hl
theorem oL {a b : Nat} (hl : ∀ q ∈ l, q.1 = q.2) (h : a < b := by first | omega | (simp only [List.length_set, List.length_append, List.length_cons, List.length_nil, List.length_replicate, List.length_take, List.length_drop] at * <;> omega)) : ∀ q ∈ (Nat.blt a b, true) :: l, q.1 = q.2 := Zc (Zt3 h) hl
theorem oI {a b : Int} (hl : ∀ q ∈ l, q.1 = q.2) (h : a = b := by first | rfl | exact Zv0 (by omega)) : ∀ q ∈ ((a == b), true) :: l, q.1 = q.2 := Zc (bT h) hl
end
def E_ii : Enc R_ii := ⟨fun x => [.i x.a0, .i x.a1], 2, R_ii.z, fun _ => rfl, fun _ => rfl⟩
noncomputable def Eo : Enc Ro := ⟨fun x => [.i x.a0, .i x.a1, .i x.a2, .i x.a3, .i x.a4, .i x.a5, .i x.a6, (mc E_ii x.a7)], 8, Ro.z, fun _ => rfl, fun _ => rfl⟩
def mapE (L : List R_ii) : List MapEntry := L.map fun x => ⟨.int .i64 x.a0, .int .i64 x.a1, 0⟩
def Zaq (L : List R_ii) : Obj := .map (mapE L).toArray 0
def ZaS (L : List RA) : List MapEntry := L.map fun x => ⟨.agg #[.int .i64 x.a0, .int .i64 x.a1], .int .i64 x.a2, 0⟩
def ZbF (L : List RA) : Obj := .map (ZaS L).toArray 0
section
variable {P : Program} {kt : TypeId}
theorem Zsm (he : ∀ a b c d : Int, ZmR P kt (.agg #[.int .i64 a, .int .i64 b]) (.agg #[.int .i64 c, .int .i64 d]) = some ((a == c) && ((b == d) && true))) (k l : Int) : ∀ (L : List RA) (i : Nat), Zjv P kt (.agg #[.int .i64 k, .int .i64 l]) (ZaS L) i = some ((L.findIdx? (fun x => k == x.a0 && l == x.a1)).map fun j => (i + j, .int .i64 (Zb L k l)))
 | [], i => rfl
 | x :: L, i => by
  have ih := Zsm he k l L (i + 1)
  simp only [ZaS, List.map_cons, Zjv, he, Bool.and_true]
  simp only [ZaS] at ih
  have hf : Zcn (.agg #[.int .i64 x.a0, .int .i64 x.a1]) = true := rfl
  rw [hf, cond_true, List.findIdx?_cons]
  cases h : (k == x.a0 && l == x.a1) with
  | true => simp [Zb, List.find?_cons, h]
  | false =>
   have hg : Zb (x :: L) k l = Zb L k l := by simp only [Zb, List.find?_cons, h]
   rw [hg]
   simp only [ih, Bool.false_eq_true, if_false]
   cases L.findIdx? (fun x => k == x.a0 && l == x.a1) with
   | none => rfl
   | some j => simp; omega
theorem ZtD {L : List RA} {k l : Int} : Zd3 L k l = (L.findIdx? (fun x => k == x.a0 && l == x.a1)).isSome := by
 induction L with
 | nil => rfl
 | cons x L ih =>
  unfold Zd3 at ih ⊢
  rw [List.any_cons, List.findIdx?_cons, ih]
  cases h : (k == x.a0 && l == x.a1) with
  | true => rfl
  | false => cases L.findIdx? (fun x => k == x.a0 && l == x.a1) <;> rfl
variable {fs : Array Field} (hu : P.underlying kt = some (.struct fs)) (hk : ∀ a b : Int, ZmT P #[.int .i64 a, .int .i64 b] fs.toList = true) (he : ∀ a b c d : Int, ZmR P kt (.agg #[.int .i64 a, .int .i64 b]) (.agg #[.int .i64 c, .int .i64 d]) = some ((a == c) && ((b == d) && true)))
include hu hk he
theorem ZnS (k l : Int) (L : List RA) : Zbk P kt (.agg #[.int .i64 k, .int .i64 l]) (ZaS L) = some ((L.findIdx? (fun x => k == x.a0 && l == x.a1)).map fun j => (j, .int .i64 (Zb L k l))) := by
 unfold Zbk
 rw [hu]
 show (bif ZmT P #[.int .i64 k, .int .i64 l] fs.toList then _ else _) = _
 rw [hk, cond_true, Zsm he]
 simp
theorem Zvj {L : List RA} {k l : Int} (h : Zd3 L k l = true) : (Zbk P kt (.agg #[.int .i64 k, .int .i64 l]) (ZaS L)).map (Option.map Prod.snd) = some (some (.int .i64 (Zb L k l))) := by
 rw [ZnS hu hk he]
 rw [ZtD] at h
 cases hi : L.findIdx? (fun x => k == x.a0 && l == x.a1) with
 | none => rw [hi] at h; cases h
 | some j => rfl
theorem Zvk {L : List RA} {k l : Int} (h : ¬ (Zd3 L k l = true)) : (Zbk P kt (.agg #[.int .i64 k, .int .i64 l]) (ZaS L)).map (Option.map Prod.snd) = some none := by
 rw [ZnS hu hk he]
 rw [ZtD] at h
 cases hi : L.findIdx? (fun x => k == x.a0 && l == x.a1) with
 | none => rfl
 | some j => rw [hi] at h; exact absurd rfl h
omit hu hk he in
theorem Zsn (k l v : Int) : ∀ (L : List RA), (match L.findIdx? (fun x => k == x.a0 && l == x.a1) with | none => ZaS L ++ [⟨.agg #[.int .i64 k, .int .i64 l], .int .i64 v, 0⟩] | some j => (ZaS L).modify j fun e => ⟨.agg #[.int .i64 k, .int .i64 l], .int .i64 v, e.born⟩) = ZaS (ZdD L k l v)
 | [] => rfl
 | x :: L => by
  rw [List.findIdx?_cons]
  cases h : (k == x.a0 && l == x.a1) with
  | true =>
   simp only [if_true, ZdD, h]
   simp [ZaS]
  | false =>
   simp only [Bool.false_eq_true, if_false, ZdD, h]
   have ih := Zsn k l v L
   cases hi : L.findIdx? (fun x => k == x.a0 && l == x.a1) with
   | none =>
    rw [hi] at ih
    simp only [Option.map_none]
    simp only [ZaS, List.map_cons, List.cons_append] at ih ⊢
    rw [ih]
   | some j =>
    rw [hi] at ih
    simp only [Option.map_some]
    simp only [ZaS, List.map_cons, List.modify_succ_cons] at ih ⊢
    rw [ih]
omit hu hk he in
theorem Zv4 {k l : Int} : ∀ {L : List RA} {j : Nat}, L.findIdx? (fun x => k == x.a0 && l == x.a1) = some j → (((ZaS L)[j]?).map (·.key)).getD (.agg #[.int .i64 k, .int .i64 l]) = .agg #[.int .i64 k, .int .i64 l] := by
 intro L j h
 obtain ⟨hj, hp, _⟩ := List.findIdx?_eq_some_iff_getElem.1 h
 simp only [Bool.and_eq_true, beq_iff_eq] at hp
 simp [ZaS, hj, hp.1, hp.2]
theorem Zv5 (L : List RA) (k l v : Int) : putM P kt (.agg #[.int .i64 k, .int .i64 l]) (.int .i64 v) (ZaS L) = some (ZaS (ZdD L k l v)) := by
 unfold putM
 rw [ZnS hu hk he]
 have h := Zsn k l v L
 cases hi : L.findIdx? (fun x => k == x.a0 && l == x.a1) with
 | none => rw [hi] at h; exact congrArg some h
 | some j =>
  rw [hi] at h
  simp only [Option.map_some]
  rw [Zv4 hi]
  have hs : Instr.sameBits 10000 (.agg #[.int .i64 k, .int .i64 l]) (.agg #[.int .i64 k, .int .i64 l]) = true := by
   simp [Instr.sameBits]
  rw [hs]
  exact congrArg some h
end
theorem Zdp {L : List RA} {k l : Int} (h : Zd3 L k l = true) : (Zbk Tryz.prog 25 (.agg #[.int .i64 k, .int .i64 l]) (ZaS L)).map (Option.map Prod.snd) = some (some (.int .i64 (Zb L k l))) := Zvj Tryz.underlying25 (fun _ _ => by kernel_rfl) (fun _ _ _ _ => by kernel_rfl) h
theorem ZlZ {L : List RA} {k l : Int} (h : ¬ (Zd3 L k l = true)) : (Zbk Tryz.prog 25 (.agg #[.int .i64 k, .int .i64 l]) (ZaS L)).map (Option.map Prod.snd) = some none := Zvk Tryz.underlying25 (fun _ _ => by kernel_rfl) (fun _ _ _ _ => by kernel_rfl) h
theorem Zv6 (L : List RA) (k l v : Int) : putM Tryz.prog 25 (.agg #[.int .i64 k, .int .i64 l]) (.int .i64 v) (ZaS L) = some (ZaS (ZdD L k l v)) := Zv5 Tryz.underlying25 (fun _ _ => by kernel_rfl) (fun _ _ _ _ => by kernel_rfl) L k l v
instance : Inhabited R_ii := ⟨R_ii.z⟩
instance : Inhabited RA := ⟨RA.z⟩
instance : Inhabited Ro := ⟨Ro.z⟩
def ZuR : FuncId → Bool := fun f => Nat.beq f 3 || Nat.beq f 7 || Nat.beq f 5 || Nat.beq f 6 || Nat.beq f 15 || Nat.beq f 13 || Nat.beq f 4 || Nat.beq f 10 || Nat.beq f 38 || Nat.beq f 60 || Nat.beq f 23 || Nat.beq f 82 || Nat.beq f 39
noncomputable def Zw : FuncId → Option Ext := ZsT (Zuu ZqH) ZuR
theorem ZcD : Fit Tryz.prog Zw := fitT (fitS ZoR) (fun f h => by
 simp only [ZuR, Bool.or_eq_true] at h
 simp only [Nat.beq_eq] at h
 rcases h with (((((((((((rfl | rfl) | rfl) | rfl) | rfl) | rfl) | rfl) | rfl) | rfl) | rfl) | rfl) | rfl) | rfl
 ·exact ⟨_, _, Tryz.func3, rfl⟩
 ·exact ⟨_, _, Tryz.func7, rfl⟩
 ·exact ⟨_, _, Tryz.func5, rfl⟩
 ·exact ⟨_, _, Tryz.func6, rfl⟩
 ·exact ⟨_, _, Tryz.func15, rfl⟩
 ·exact ⟨_, _, Tryz.func13, rfl⟩
 ·exact ⟨_, _, Tryz.func4, rfl⟩
 ·exact ⟨_, _, Tryz.func10, rfl⟩
 ·exact ⟨_, _, Tryz.func38, rfl⟩
 ·exact ⟨_, _, Tryz.func60, rfl⟩
 ·exact ⟨_, _, Tryz.func23, rfl⟩
 ·exact ⟨_, _, Tryz.func82, rfl⟩
 ·exact ⟨_, _, Tryz.func39, rfl⟩
 )
end Ev
end Go.Proofs.YtjdojnecmplmnaaGreat
/- Calls do what the plain functions say. -/
namespace Go.Proofs.YtjdojnecmplmnaaGreat
open Go.RowKit
namespace Ev
set_option linter.unusedVariables false
abbrev cz0 : AObj := .cells [vi (1 : Int), vq, vq, vq, vq, vq, vi (1 : Int), vq, vq, vq, vq, vq, vi (1 : Int), vq, vq, vq, vq, vq, vi (13 : Int), vq, vq, vq, vq, vi (4 : Int), vi (8 : Int), vq, vq, vq, vq, vi (4 : Int), vi (2 : Int), vq, vq, vq, vq, vi (4 : Int), vi (3 : Int), vq, vq, vq, vq, vi (4 : Int), vi (4 : Int), vq, vi (2 : Int), vi (1048577 : Int), vi (5 : Int), vi (4 : Int), vi (3 : Int), vq, vq, vq, vq, vi (4 : Int), vi (1 : Int), vq, vq, vq, vq, vq, vi (12 : Int), vq, vi (2 : Int), vi (1048594 : Int), vq, vi (4 : Int), vi (5 : Int), vq, vi (2 : Int), vi (1048594 : Int), vi (1 : Int), vi (4 : Int), vi (5 : Int), vq, vi (2 : Int), vi (1048594 : Int), vi (2 : Int), vi (4 : Int), vi (2 : Int), vq, vq, vq, vq, vi (4 : Int), vi (3 : Int), vq, vq, vq, vq, vi (4 : Int), vi (4 : Int), vq, vi (2 : Int), vi (1048577 : Int), vi (5 : Int), vi (4 : Int), vi (3 : Int), vq, vq, vq, vq, vi (4 : Int), vi (5 : Int), vq, vi (2 : Int), vi (1048594 : Int), vq, vi (4 : Int), vi (2 : Int), vq, vq, vq, vq, vi (4 : Int), vi (11 : Int), vq, vi (2 : Int), vi (1048594 : Int), vq, vi (4 : Int), vi (3 : Int), vq, vq, vq, vq, vi (4 : Int), vi (6 : Int), vq, vq, vq, vq, vi (4 : Int), vi (5 : Int), vq, vi (2 : Int), vi (1048577 : Int), vi (5 : Int), vi (4 : Int), vi (8 : Int), vq, vq, vq, vq, vi (4 : Int), vi (9 : Int), vq, vq, vq, vq, vi (4 : Int), vi (7 : Int), vq, vq, vq, vq, vi (4 : Int), vi (13 : Int), vq, vq, vq, vq, vi (4 : Int), vi (13 : Int), vq, vq, vq, vq, vi (4 : Int), vi (13 : Int), vq, vq, vq, vq, vi (4 : Int), vi (1 : Int), vq, vq, vq, vq, vq] 65
abbrev cz1 : AObj := .cells [vi (1 : Int), vq, vq, vq, vq, vq, vi (1 : Int), vq, vq, vq, vq, vq, vi (1 : Int), vq, vq, vq, vq, vq, vi (13 : Int), vq, vq, vq, vq, vi (4 : Int), vi (8 : Int), vq, vq, vq, vq, vi (4 : Int), vi (2 : Int), vq, vq, vq, vq, vi (4 : Int), vi (3 : Int), vq, vq, vq, vq, vi (4 : Int), vi (4 : Int), vq, vi (2 : Int), vi (1048577 : Int), vi (5 : Int), vi (4 : Int), vi (3 : Int), vq, vq, vq, vq, vi (4 : Int), vi (1 : Int), vq, vq, vq, vq, vq, vi (12 : Int), vq, vi (2 : Int), vi (1048594 : Int), vq, vi (4 : Int), vi (5 : Int), vq, vi (2 : Int), vi (1048594 : Int), vi (1 : Int), vi (4 : Int), vi (5 : Int), vq, vi (2 : Int), vi (1048594 : Int), vi (2 : Int), vi (4 : Int), vi (2 : Int), vq, vq, vq, vq, vi (4 : Int), vi (3 : Int), vq, vq, vq, vq, vi (4 : Int), vi (4 : Int), vq, vi (2 : Int), vi (1048577 : Int), vi (5 : Int), vi (4 : Int), vi (3 : Int), vq, vq, vq, vq, vi (4 : Int), vi (5 : Int), vq, vi (2 : Int), vi (1048594 : Int), vq, vi (4 : Int), vi (2 : Int), vq, vq, vq, vq, vi (4 : Int), vi (11 : Int), vq, vi (2 : Int), vi (1048594 : Int), vq, vi (4 : Int), vi (3 : Int), vq, vq, vq, vq, vi (4 : Int), vi (6 : Int), vq, vq, vq, vq, vi (4 : Int), vi (5 : Int), vq, vi (2 : Int), vi (1048577 : Int), vi (5 : Int), vi (4 : Int), vi (8 : Int), vq, vq, vq, vq, vi (4 : Int), vi (9 : Int), vq, vq, vq, vq, vi (4 : Int), vi (7 : Int), vq, vq, vq, vq, vi (4 : Int), vi (13 : Int), vq, vq, vq, vq, vi (4 : Int), vi (13 : Int), vq, vq, vq, vq, vi (4 : Int), vi (13 : Int), vq, vq, vq, vq, vi (4 : Int)] 65
abbrev cz2 : AObj := .cells [vi (1 : Int), vq, vq, vq, vq, vq, vi (1 : Int), vq, vq, vq, vq, vq, vi (1 : Int), vq, vq, vq, vq, vq, vi (13 : Int), vq, vq, vq, vq, vi (4 : Int), vi (8 : Int), vq, vq, vq, vq, vi (4 : Int), vi (2 : Int), vq, vq, vq, vq, vi (4 : Int), vi (3 : Int), vq, vq, vq, vq, vi (4 : Int), vi (4 : Int), vq, vi (2 : Int), vi (1048577 : Int), vi (5 : Int), vi (4 : Int), vi (3 : Int), vq, vq, vq, vq, vi (4 : Int), vi (1 : Int), vq, vq, vq, vq, vq, vi (12 : Int), vq, vi (2 : Int), vi (1048594 : Int), vq, vi (4 : Int), vi (5 : Int), vq, vi (2 : Int), vi (1048594 : Int), vi (1 : Int), vi (4 : Int), vi (5 : Int), vq, vi (2 : Int), vi (1048594 : Int), vi (2 : Int), vi (4 : Int), vi (2 : Int), vq, vq, vq, vq, vi (4 : Int), vi (3 : Int), vq, vq, vq, vq, vi (4 : Int), vi (4 : Int), vq, vi (2 : Int), vi (1048577 : Int), vi (5 : Int), vi (4 : Int), vi (3 : Int), vq, vq, vq, vq, vi (4 : Int), vi (5 : Int), vq, vi (2 : Int), vi (1048594 : Int), vq, vi (4 : Int), vi (2 : Int), vq, vq, vq, vq, vi (4 : Int), vi (11 : Int), vq, vi (2 : Int), vi (1048594 : Int), vq, vi (4 : Int), vi (3 : Int), vq, vq, vq, vq, vi (4 : Int), vi (6 : Int), vq, vq, vq, vq, vi (4 : Int), vi (5 : Int), vq, vi (2 : Int), vi (1048577 : Int), vi (5 : Int), vi (4 : Int), vi (8 : Int), vq, vq, vq, vq, vi (4 : Int), vi (9 : Int), vq, vq, vq, vq, vi (4 : Int), vi (7 : Int), vq, vq, vq, vq, vi (4 : Int), vi (13 : Int), vq, vq, vq, vq, vi (4 : Int), vi (13 : Int), vq, vq, vq, vq, vi (4 : Int)] 65
abbrev cz3 : AObj := .cells [vi (1 : Int), vq, vq, vq, vq, vq, vi (1 : Int), vq, vq, vq, vq, vq, vi (1 : Int), vq, vq, vq, vq, vq, vi (13 : Int), vq, vq, vq, vq, vi (4 : Int), vi (8 : Int), vq, vq, vq, vq, vi (4 : Int), vi (2 : Int), vq, vq, vq, vq, vi (4 : Int), vi (3 : Int), vq, vq, vq, vq, vi (4 : Int), vi (4 : Int), vq, vi (2 : Int), vi (1048577 : Int), vi (5 : Int), vi (4 : Int), vi (3 : Int), vq, vq, vq, vq, vi (4 : Int), vi (1 : Int), vq, vq, vq, vq, vq, vi (12 : Int), vq, vi (2 : Int), vi (1048594 : Int), vq, vi (4 : Int), vi (5 : Int), vq, vi (2 : Int), vi (1048594 : Int), vi (1 : Int), vi (4 : Int), vi (5 : Int), vq, vi (2 : Int), vi (1048594 : Int), vi (2 : Int), vi (4 : Int), vi (2 : Int), vq, vq, vq, vq, vi (4 : Int), vi (3 : Int), vq, vq, vq, vq, vi (4 : Int), vi (4 : Int), vq, vi (2 : Int), vi (1048577 : Int), vi (5 : Int), vi (4 : Int), vi (3 : Int), vq, vq, vq, vq, vi (4 : Int), vi (5 : Int), vq, vi (2 : Int), vi (1048594 : Int), vq, vi (4 : Int), vi (2 : Int), vq, vq, vq, vq, vi (4 : Int), vi (11 : Int), vq, vi (2 : Int), vi (1048594 : Int), vq, vi (4 : Int), vi (3 : Int), vq, vq, vq, vq, vi (4 : Int), vi (6 : Int), vq, vq, vq, vq, vi (4 : Int), vi (5 : Int), vq, vi (2 : Int), vi (1048577 : Int), vi (5 : Int), vi (4 : Int), vi (8 : Int), vq, vq, vq, vq, vi (4 : Int), vi (9 : Int), vq, vq, vq, vq, vi (4 : Int), vi (7 : Int), vq, vq, vq, vq, vi (4 : Int), vi (13 : Int), vq, vq, vq, vq, vi (4 : Int)] 65
abbrev cz4 : AObj := .cells [vi (1 : Int), vq, vq, vq, vq, vq, vi (1 : Int), vq, vq, vq, vq, vq, vi (1 : Int), vq, vq, vq, vq, vq, vi (13 : Int), vq, vq, vq, vq, vi (4 : Int), vi (8 : Int), vq, vq, vq, vq, vi (4 : Int), vi (2 : Int), vq, vq, vq, vq, vi (4 : Int), vi (3 : Int), vq, vq, vq, vq, vi (4 : Int), vi (4 : Int), vq, vi (2 : Int), vi (1048577 : Int), vi (5 : Int), vi (4 : Int), vi (3 : Int), vq, vq, vq, vq, vi (4 : Int), vi (1 : Int), vq, vq, vq, vq, vq, vi (12 : Int), vq, vi (2 : Int), vi (1048594 : Int), vq, vi (4 : Int), vi (5 : Int), vq, vi (2 : Int), vi (1048594 : Int), vi (1 : Int), vi (4 : Int), vi (5 : Int), vq, vi (2 : Int), vi (1048594 : Int), vi (2 : Int), vi (4 : Int), vi (2 : Int), vq, vq, vq, vq, vi (4 : Int), vi (3 : Int), vq, vq, vq, vq, vi (4 : Int), vi (4 : Int), vq, vi (2 : Int), vi (1048577 : Int), vi (5 : Int), vi (4 : Int), vi (3 : Int), vq, vq, vq, vq, vi (4 : Int), vi (5 : Int), vq, vi (2 : Int), vi (1048594 : Int), vq, vi (4 : Int), vi (2 : Int), vq, vq, vq, vq, vi (4 : Int), vi (11 : Int), vq, vi (2 : Int), vi (1048594 : Int), vq, vi (4 : Int), vi (3 : Int), vq, vq, vq, vq, vi (4 : Int), vi (6 : Int), vq, vq, vq, vq, vi (4 : Int), vi (5 : Int), vq, vi (2 : Int), vi (1048577 : Int), vi (5 : Int), vi (4 : Int), vi (8 : Int), vq, vq, vq, vq, vi (4 : Int), vi (9 : Int), vq, vq, vq, vq, vi (4 : Int), vi (7 : Int), vq, vq, vq, vq, vi (4 : Int)] 65
abbrev cz5 : AObj := .cells [vi (1 : Int), vq, vq, vq, vq, vq, vi (1 : Int), vq, vq, vq, vq, vq, vi (1 : Int), vq, vq, vq, vq, vq, vi (13 : Int), vq, vq, vq, vq, vi (4 : Int), vi (8 : Int), vq, vq, vq, vq, vi (4 : Int), vi (2 : Int), vq, vq, vq, vq, vi (4 : Int), vi (3 : Int), vq, vq, vq, vq, vi (4 : Int), vi (4 : Int), vq, vi (2 : Int), vi (1048577 : Int), vi (5 : Int), vi (4 : Int), vi (3 : Int), vq, vq, vq, vq, vi (4 : Int), vi (1 : Int), vq, vq, vq, vq, vq, vi (12 : Int), vq, vi (2 : Int), vi (1048594 : Int), vq, vi (4 : Int), vi (5 : Int), vq, vi (2 : Int), vi (1048594 : Int), vi (1 : Int), vi (4 : Int), vi (5 : Int), vq, vi (2 : Int), vi (1048594 : Int), vi (2 : Int), vi (4 : Int), vi (2 : Int), vq, vq, vq, vq, vi (4 : Int), vi (3 : Int), vq, vq, vq, vq, vi (4 : Int), vi (4 : Int), vq, vi (2 : Int), vi (1048577 : Int), vi (5 : Int), vi (4 : Int), vi (3 : Int), vq, vq, vq, vq, vi (4 : Int), vi (5 : Int), vq, vi (2 : Int), vi (1048594 : Int), vq, vi (4 : Int), vi (2 : Int), vq, vq, vq, vq, vi (4 : Int), vi (11 : Int), vq, vi (2 : Int), vi (1048594 : Int), vq, vi (4 : Int), vi (3 : Int), vq, vq, vq, vq, vi (4 : Int), vi (6 : Int), vq, vq, vq, vq, vi (4 : Int), vi (5 : Int), vq, vi (2 : Int), vi (1048577 : Int), vi (5 : Int), vi (4 : Int), vi (8 : Int), vq, vq, vq, vq, vi (4 : Int), vi (9 : Int), vq, vq, vq, vq, vi (4 : Int)] 65
abbrev cz6 : AObj := .cells [vi (1 : Int), vq, vq, vq, vq, vq, vi (1 : Int), vq, vq, vq, vq, vq, vi (1 : Int), vq, vq, vq, vq, vq, vi (13 : Int), vq, vq, vq, vq, vi (4 : Int), vi (8 : Int), vq, vq, vq, vq, vi (4 : Int), vi (2 : Int), vq, vq, vq, vq, vi (4 : Int), vi (3 : Int), vq, vq, vq, vq, vi (4 : Int), vi (4 : Int), vq, vi (2 : Int), vi (1048577 : Int), vi (5 : Int), vi (4 : Int), vi (3 : Int), vq, vq, vq, vq, vi (4 : Int), vi (1 : Int), vq, vq, vq, vq, vq, vi (12 : Int), vq, vi (2 : Int), vi (1048594 : Int), vq, vi (4 : Int), vi (5 : Int), vq, vi (2 : Int), vi (1048594 : Int), vi (1 : Int), vi (4 : Int), vi (5 : Int), vq, vi (2 : Int), vi (1048594 : Int), vi (2 : Int), vi (4 : Int), vi (2 : Int), vq, vq, vq, vq, vi (4 : Int), vi (3 : Int), vq, vq, vq, vq, vi (4 : Int), vi (4 : Int), vq, vi (2 : Int), vi (1048577 : Int), vi (5 : Int), vi (4 : Int), vi (3 : Int), vq, vq, vq, vq, vi (4 : Int), vi (5 : Int), vq, vi (2 : Int), vi (1048594 : Int), vq, vi (4 : Int), vi (2 : Int), vq, vq, vq, vq, vi (4 : Int), vi (11 : Int), vq, vi (2 : Int), vi (1048594 : Int), vq, vi (4 : Int), vi (3 : Int), vq, vq, vq, vq, vi (4 : Int), vi (6 : Int), vq, vq, vq, vq, vi (4 : Int), vi (5 : Int), vq, vi (2 : Int), vi (1048577 : Int), vi (5 : Int), vi (4 : Int), vi (8 : Int), vq, vq, vq, vq, vi (4 : Int)] 65
abbrev cz7 : AObj := .cells [vi (1 : Int), vq, vq, vq, vq, vq, vi (1 : Int), vq, vq, vq, vq, vq, vi (1 : Int), vq, vq, vq, vq, vq, vi (13 : Int), vq, vq, vq, vq, vi (4 : Int), vi (8 : Int), vq, vq, vq, vq, vi (4 : Int), vi (2 : Int), vq, vq, vq, vq, vi (4 : Int), vi (3 : Int), vq, vq, vq, vq, vi (4 : Int), vi (4 : Int), vq, vi (2 : Int), vi (1048577 : Int), vi (5 : Int), vi (4 : Int), vi (3 : Int), vq, vq, vq, vq, vi (4 : Int), vi (1 : Int), vq, vq, vq, vq, vq, vi (12 : Int), vq, vi (2 : Int), vi (1048594 : Int), vq, vi (4 : Int), vi (5 : Int), vq, vi (2 : Int), vi (1048594 : Int), vi (1 : Int), vi (4 : Int), vi (5 : Int), vq, vi (2 : Int), vi (1048594 : Int), vi (2 : Int), vi (4 : Int), vi (2 : Int), vq, vq, vq, vq, vi (4 : Int), vi (3 : Int), vq, vq, vq, vq, vi (4 : Int), vi (4 : Int), vq, vi (2 : Int), vi (1048577 : Int), vi (5 : Int), vi (4 : Int), vi (3 : Int), vq, vq, vq, vq, vi (4 : Int), vi (5 : Int), vq, vi (2 : Int), vi (1048594 : Int), vq, vi (4 : Int), vi (2 : Int), vq, vq, vq, vq, vi (4 : Int), vi (11 : Int), vq, vi (2 : Int), vi (1048594 : Int), vq, vi (4 : Int), vi (3 : Int), vq, vq, vq, vq, vi (4 : Int), vi (6 : Int), vq, vq, vq, vq, vi (4 : Int), vi (5 : Int), vq, vi (2 : Int), vi (1048577 : Int), vi (5 : Int), vi (4 : Int)] 65
abbrev cz8 : AObj := .cells [vi (1 : Int), vq, vq, vq, vq, vq, vi (1 : Int), vq, vq, vq, vq, vq, vi (1 : Int), vq, vq, vq, vq, vq, vi (13 : Int), vq, vq, vq, vq, vi (4 : Int), vi (8 : Int), vq, vq, vq, vq, vi (4 : Int), vi (2 : Int), vq, vq, vq, vq, vi (4 : Int), vi (3 : Int), vq, vq, vq, vq, vi (4 : Int), vi (4 : Int), vq, vi (2 : Int), vi (1048577 : Int), vi (5 : Int), vi (4 : Int), vi (3 : Int), vq, vq, vq, vq, vi (4 : Int), vi (1 : Int), vq, vq, vq, vq, vq, vi (12 : Int), vq, vi (2 : Int), vi (1048594 : Int), vq, vi (4 : Int), vi (5 : Int), vq, vi (2 : Int), vi (1048594 : Int), vi (1 : Int), vi (4 : Int), vi (5 : Int), vq, vi (2 : Int), vi (1048594 : Int), vi (2 : Int), vi (4 : Int), vi (2 : Int), vq, vq, vq, vq, vi (4 : Int), vi (3 : Int), vq, vq, vq, vq, vi (4 : Int), vi (4 : Int), vq, vi (2 : Int), vi (1048577 : Int), vi (5 : Int), vi (4 : Int), vi (3 : Int), vq, vq, vq, vq, vi (4 : Int), vi (5 : Int), vq, vi (2 : Int), vi (1048594 : Int), vq, vi (4 : Int), vi (2 : Int), vq, vq, vq, vq, vi (4 : Int), vi (11 : Int), vq, vi (2 : Int), vi (1048594 : Int), vq, vi (4 : Int), vi (3 : Int), vq, vq, vq, vq, vi (4 : Int), vi (6 : Int), vq, vq, vq, vq, vi (4 : Int)] 65
abbrev cz9 : AObj := .cells [vi (1 : Int), vq, vq, vq, vq, vq, vi (1 : Int), vq, vq, vq, vq, vq, vi (1 : Int), vq, vq, vq, vq, vq, vi (13 : Int), vq, vq, vq, vq, vi (4 : Int), vi (8 : Int), vq, vq, vq, vq, vi (4 : Int), vi (2 : Int), vq, vq, vq, vq, vi (4 : Int), vi (3 : Int), vq, vq, vq, vq, vi (4 : Int), vi (4 : Int), vq, vi (2 : Int), vi (1048577 : Int), vi (5 : Int), vi (4 : Int), vi (3 : Int), vq, vq, vq, vq, vi (4 : Int), vi (1 : Int), vq, vq, vq, vq, vq, vi (12 : Int), vq, vi (2 : Int), vi (1048594 : Int), vq, vi (4 : Int), vi (5 : Int), vq, vi (2 : Int), vi (1048594 : Int), vi (1 : Int), vi (4 : Int), vi (5 : Int), vq, vi (2 : Int), vi (1048594 : Int), vi (2 : Int), vi (4 : Int), vi (2 : Int), vq, vq, vq, vq, vi (4 : Int), vi (3 : Int), vq, vq, vq, vq, vi (4 : Int), vi (4 : Int), vq, vi (2 : Int), vi (1048577 : Int), vi (5 : Int), vi (4 : Int), vi (3 : Int), vq, vq, vq, vq, vi (4 : Int), vi (5 : Int), vq, vi (2 : Int), vi (1048594 : Int), vq, vi (4 : Int), vi (2 : Int), vq, vq, vq, vq, vi (4 : Int), vi (11 : Int), vq, vi (2 : Int), vi (1048594 : Int), vq, vi (4 : Int), vi (3 : Int), vq, vq, vq, vq, vi (4 : Int)] 65
abbrev cz10 : AObj := .cells [vi (1 : Int), vq, vq, vq, vq, vq, vi (1 : Int), vq, vq, vq, vq, vq, vi (1 : Int), vq, vq, vq, vq, vq, vi (13 : Int), vq, vq, vq, vq, vi (4 : Int), vi (8 : Int), vq, vq, vq, vq, vi (4 : Int), vi (2 : Int), vq, vq, vq, vq, vi (4 : Int), vi (3 : Int), vq, vq, vq, vq, vi (4 : Int), vi (4 : Int), vq, vi (2 : Int), vi (1048577 : Int), vi (5 : Int), vi (4 : Int), vi (3 : Int), vq, vq, vq, vq, vi (4 : Int), vi (1 : Int), vq, vq, vq, vq, vq, vi (12 : Int), vq, vi (2 : Int), vi (1048594 : Int), vq, vi (4 : Int), vi (5 : Int), vq, vi (2 : Int), vi (1048594 : Int), vi (1 : Int), vi (4 : Int), vi (5 : Int), vq, vi (2 : Int), vi (1048594 : Int), vi (2 : Int), vi (4 : Int), vi (2 : Int), vq, vq, vq, vq, vi (4 : Int), vi (3 : Int), vq, vq, vq, vq, vi (4 : Int), vi (4 : Int), vq, vi (2 : Int), vi (1048577 : Int), vi (5 : Int), vi (4 : Int), vi (3 : Int), vq, vq, vq, vq, vi (4 : Int), vi (5 : Int), vq, vi (2 : Int), vi (1048594 : Int), vq, vi (4 : Int), vi (2 : Int), vq, vq, vq, vq, vi (4 : Int), vi (11 : Int), vq, vi (2 : Int), vi (1048594 : Int), vq, vi (4 : Int)] 65
abbrev cz11 : AObj := .cells [vi (1 : Int), vq, vq, vq, vq, vq, vi (1 : Int), vq, vq, vq, vq, vq, vi (1 : Int), vq, vq, vq, vq, vq, vi (13 : Int), vq, vq, vq, vq, vi (4 : Int), vi (8 : Int), vq, vq, vq, vq, vi (4 : Int), vi (2 : Int), vq, vq, vq, vq, vi (4 : Int), vi (3 : Int), vq, vq, vq, vq, vi (4 : Int), vi (4 : Int), vq, vi (2 : Int), vi (1048577 : Int), vi (5 : Int), vi (4 : Int), vi (3 : Int), vq, vq, vq, vq, vi (4 : Int), vi (1 : Int), vq, vq, vq, vq, vq, vi (12 : Int), vq, vi (2 : Int), vi (1048594 : Int), vq, vi (4 : Int), vi (5 : Int), vq, vi (2 : Int), vi (1048594 : Int), vi (1 : Int), vi (4 : Int), vi (5 : Int), vq, vi (2 : Int), vi (1048594 : Int), vi (2 : Int), vi (4 : Int), vi (2 : Int), vq, vq, vq, vq, vi (4 : Int), vi (3 : Int), vq, vq, vq, vq, vi (4 : Int), vi (4 : Int), vq, vi (2 : Int), vi (1048577 : Int), vi (5 : Int), vi (4 : Int), vi (3 : Int), vq, vq, vq, vq, vi (4 : Int), vi (5 : Int), vq, vi (2 : Int), vi (1048594 : Int), vq, vi (4 : Int), vi (2 : Int), vq, vq, vq, vq, vi (4 : Int)] 65
abbrev cz12 : AObj := .cells [vi (1 : Int), vq, vq, vq, vq, vq, vi (1 : Int), vq, vq, vq, vq, vq, vi (1 : Int), vq, vq, vq, vq, vq, vi (13 : Int), vq, vq, vq, vq, vi (4 : Int), vi (8 : Int), vq, vq, vq, vq, vi (4 : Int), vi (2 : Int), vq, vq, vq, vq, vi (4 : Int), vi (3 : Int), vq, vq, vq, vq, vi (4 : Int), vi (4 : Int), vq, vi (2 : Int), vi (1048577 : Int), vi (5 : Int), vi (4 : Int), vi (3 : Int), vq, vq, vq, vq, vi (4 : Int), vi (1 : Int), vq, vq, vq, vq, vq, vi (12 : Int), vq, vi (2 : Int), vi (1048594 : Int), vq, vi (4 : Int), vi (5 : Int), vq, vi (2 : Int), vi (1048594 : Int), vi (1 : Int), vi (4 : Int), vi (5 : Int), vq, vi (2 : Int), vi (1048594 : Int), vi (2 : Int), vi (4 : Int), vi (2 : Int), vq, vq, vq, vq, vi (4 : Int), vi (3 : Int), vq, vq, vq, vq, vi (4 : Int), vi (4 : Int), vq, vi (2 : Int), vi (1048577 : Int), vi (5 : Int), vi (4 : Int), vi (3 : Int), vq, vq, vq, vq, vi (4 : Int), vi (5 : Int), vq, vi (2 : Int), vi (1048594 : Int), vq, vi (4 : Int)] 65
abbrev Zcg : AObj := .cells [vi (1 : Int), vi (1 : Int), vf, vf, vq, vf, vf, vq, vf, vf, vq, vf, vf, vq, vf, vf, vq, vf, vf, vq, vf, vf, vq, vf, vf, vq, vf, vf, vq, vf, vf, vq, vf, vf, vq, vf, vf, vq, vf, vf, vq, vf, vf, vq, vf, vf, vq, vf, vf, vq, vf, vf, vq, vf, vf, vq, vf, vf, vq, vf, vf, vq, vf, vf, vq, vf, vf, vq, vf, vf, vq, vf, vf, vq, vf, vf, vq, vf, vf, vq, vf, vf, vq, vf, vf, vq, vf, vf, vq, vf, vf, vq, vf, vf, vq, vf, vf, vq, vf, vf, vq, vf, vf, vq, vf, vf, vq, vf, vf, vq, vf, vf, vq, vf, vf, vq, vf, vf, vq, vf, vf, vq, vf, vf, vq, vf, vf, vq, vf, vf, vq, vf, vf, vq, vf, vf, vq, vf, vf, vq, vf, vf, vq, vf, vf, vq, vf, vf, vq, vf, vf, vq, vf, vf, vq, vf, vf, vq, vf, vf, vq, vf, vf, vq, vf, vf, vq, vf, vf, vq, vf, vf, vq, vf, vf, vq, vf, vf, vq, vf, vf, vq, vf, vf, vq, vf, vf, vq, vf, vf, vq, vf, vf, vi (400 : Int), vi (16 : Int), vi (64 : Int), vi (64 : Int), vi (1073741824 : Int), vi (1 : Int), vq, vp 4 0, vp 5 0, vp 6 0, vp 7 0] 126
abbrev Zu4 : AObj := .cells [vi (1 : Int), vi (1 : Int), vT, vf, vq, vf, vf, vq, vf, vf, vq, vf, vf, vq, vf, vf, vq, vf, vf, vq, vf, vf, vq, vf, vf, vq, vf, vf, vq, vf, vf, vq, vf, vf, vq, vf, vf, vq, vf, vf, vq, vf, vf, vq, vf, vf, vq, vf, vf, vq, vf, vf, vq, vf, vf, vq, vf, vf, vq, vf, vf, vq, vf, vf, vq, vf, vf, vq, vf, vf, vq, vf, vf, vq, vf, vf, vq, vf, vf, vq, vf, vf, vq, vf, vf, vq, vf, vf, vq, vf, vf, vq, vf, vf, vq, vf, vf, vq, vf, vf, vq, vf, vf, vq, vf, vf, vq, vf, vf, vq, vf, vf, vq, vf, vf, vq, vf, vf, vq, vf, vf, vq, vf, vf, vq, vf, vf, vq, vf, vf, vq, vf, vf, vq, vf, vf, vq, vf, vf, vq, vf, vf, vq, vf, vf, vq, vf, vf, vq, vf, vf, vq, vf, vf, vq, vf, vf, vq, vf, vf, vq, vf, vf, vq, vf, vf, vq, vf, vf, vq, vf, vf, vq, vf, vf, vq, vf, vf, vq, vf, vf, vq, vf, vf, vq, vf, vf, vq, vf, vf, vq, vf, vf, vi (400 : Int), vi (16 : Int), vi (64 : Int), vi (64 : Int), vi (1073741824 : Int), vi (1 : Int), vq, vp 4 0, vp 5 0, vp 6 0, vp 7 0] 126
abbrev Zu5 : AObj := .cells [vi (1 : Int), vi (1 : Int), vT, vf, vq, vf, vf, vq, vf, vf, vq, vf, vf, vq, vf, vf, vq, vf, vf, vq, vf, vf, vq, vf, vf, vq, vf, vf, vq, vf, vf, vq, vf, vf, vq, vf, vf, vq, vf, vf, vq, vf, vf, vq, vf, vf, vq, vf, vf, vq, vf, vf, vq, vf, vf, vq, vf, vf, vq, vf, vf, vq, vf, vf, vq, vf, vf, vq, vf, vf, vq, vf, vf, vq, vf, vf, vq, vf, vf, vq, vf, vf, vq, vf, vf, vq, vf, vf, vq, vf, vf, vq, vf, vf, vq, vf, vf, vq, vf, vf, vq, vf, vf, vq, vf, vf, vq, vf, vf, vq, vf, vf, vq, vf, vf, vq, vf, vf, vq, vf, vf, vq, vf, vf, vq, vf, vf, vq, vf, vf, vq, vf, vf, vq, vf, vf, vq, vf, vf, vq, vf, vf, vq, vf, vf, vq, vf, vf, vq, vf, vf, vq, vf, vf, vq, vf, vf, vq, vf, vf, vq, vf, vf, vq, vf, vf, vq, vf, vf, vq, vf, vf, vq, vf, vf, vq, vf, vf, vq, vf, vf, vq, vf, vf, vq, vf, vf, vq, vf, vf, vq, vf, vf, vi (400 : Int), vi (16 : Int), vi (64 : Int), vi (64 : Int), vi (1073741824 : Int), vi (1 : Int), vq, vp 6 0, vp 7 0, vp 8 0, vp 9 0] 126
abbrev ZaD : AObj := .cells [vi (10 : Int), vq, vq, vq, vi (1 : Int), vi (1 : Int), vi (13 : Int), vq, vi (1 : Int), vi (6 : Int), vi (7 : Int), vq, vi (15 : Int), vq, vq, vq, vi (13 : Int), vi (3 : Int), vq, vi (5 : Int), vi (9 : Int), vi (3 : Int), vi (13 : Int), vq, vi (13 : Int), vi (4 : Int), vi (3 : Int), vi (1 : Int), vi (7 : Int), vi (5 : Int), vi (4 : Int), vi (1 : Int), vi (9 : Int), vi (5 : Int), vi (11 : Int), vq, vi (14 : Int), vi (3 : Int), vi (2 : Int), vi (6 : Int), vi (8 : Int), vi (19 : Int), vq, vq, vi (13 : Int), vi (3 : Int), vi (3 : Int), vq, vi (8 : Int), vi (5 : Int), vq, vq, vi (11 : Int), vi (2 : Int), vi (3 : Int), vi (1 : Int), vi (14 : Int), vi (2 : Int), vi (1 : Int), vi (1 : Int), vi (14 : Int), vi (2 : Int), vi (2 : Int), vi (6 : Int), vi (13 : Int), vi (3 : Int), vq, vi (5 : Int), vi (14 : Int), vi (2 : Int), vq, vi (3 : Int), vi (14 : Int), vq, vi (5 : Int), vi (2 : Int), vi (17 : Int), vq, vq, vq] 104
abbrev ZoV : AObj := .cells [vi (1 : Int), vq, vf, vf, vq, vf, vf, vq, vf, vf, vq, vf, vf, vq, vf, vf, vq, vf, vf, vq, vf, vf, vq, vf, vf, vq, vf, vf, vq, vf, vf, vq, vf, vf, vq, vf, vf, vq, vf, vf, vq, vf, vf, vq, vf, vf, vq, vf, vf, vq, vf, vf, vq, vf, vf, vq, vf, vf, vq, vf, vf, vq, vf, vf, vq, vf, vf, vq, vf, vf, vq, vf, vf, vq, vf, vf, vq, vf, vf, vq, vf, vf, vq, vf, vf, vq, vf, vf, vq, vf, vf, vq, vf, vf, vq, vf, vf, vq, vf, vf, vq, vf, vf, vq, vf, vf, vq, vf, vf, vq, vf, vf, vq, vf, vf, vq, vf, vf, vq, vf, vf, vq, vf, vf, vq, vf, vf, vq, vf, vf, vq, vf, vf, vq, vf, vf, vq, vf, vf, vq, vf, vf, vq, vf, vf, vq, vf, vf, vq, vf, vf, vq, vf, vf, vq, vf, vf, vq, vf, vf, vq, vf, vf, vq, vf, vf, vq, vf, vf, vq, vf, vf, vq, vf, vf, vq, vf, vf, vq, vf, vf, vq, vf, vf, vq, vf, vf, vq, vf, vf, vq, vf, vf, vi (400 : Int), vi (16 : Int), vi (64 : Int), vi (64 : Int), vi (1073741824 : Int), vi (1 : Int), vq, vp 3 0, vp 4 0, vp 5 0, vp 6 0] 126
abbrev ZqU : AObj := .cells [vi (1 : Int), vq, vf, vf, vq, vf, vf, vq, vf, vf, vq, vf, vf, vq, vf, vf, vq, vf, vf, vq, vf, vf, vq, vf, vf, vq, vf, vf, vq, vf, vf, vq, vf, vf, vq, vf, vf, vq, vf, vf, vq, vf, vf, vq, vf, vf, vq, vf, vf, vq, vf, vf, vq, vf, vf, vq, vf, vf, vq, vf, vf, vq, vf, vf, vq, vf, vf, vq, vf, vf, vq, vf, vf, vq, vf, vf, vq, vf, vf, vq, vf, vf, vq, vf, vf, vq, vf, vf, vq, vf, vf, vq, vf, vf, vq, vf, vf, vq, vf, vf, vq, vf, vf, vq, vf, vf, vq, vf, vf, vq, vf, vf, vq, vf, vf, vq, vf, vf, vq, vf, vf, vq, vf, vf, vq, vf, vf, vq, vf, vf, vq, vf, vf, vq, vf, vf, vq, vf, vf, vq, vf, vf, vq, vf, vf, vq, vf, vf, vq, vf, vf, vq, vf, vf, vq, vf, vf, vq, vf, vf, vq, vf, vf, vq, vf, vf, vq, vf, vf, vq, vf, vf, vq, vf, vf, vq, vf, vf, vq, vf, vf, vq, vf, vf, vq, vf, vf, vq, vf, vf, vq, vf, vf, vi (400 : Int), vi (16 : Int), vi (64 : Int), vi (64 : Int), vi (1073741824 : Int), vi (1 : Int), vq, vp 4 0, vp 5 0, vp 6 0, vp 7 0] 126
abbrev Zma : AObj := .cells [vi (1 : Int), vq, vf, vf, vq, vf, vf, vq, vf, vf, vq, vf, vf, vq, vf, vf, vq, vf, vf, vq, vf, vf, vq, vf, vf, vq, vf, vf, vq, vf, vf, vq, vf, vf, vq, vf, vf, vq, vf, vf, vq, vf, vf, vq, vf, vf, vq, vf, vf, vq, vf, vf, vq, vf, vf, vq, vf, vf, vq, vf, vf, vq, vf, vf, vq, vf, vf, vq, vf, vf, vq, vf, vf, vq, vf, vf, vq, vf, vf, vq, vf, vf, vq, vf, vf, vq, vf, vf, vq, vf, vf, vq, vf, vf, vq, vf, vf, vq, vf, vf, vq, vf, vf, vq, vf, vf, vq, vf, vf, vq, vf, vf, vq, vf, vf, vq, vf, vf, vq, vf, vf, vq, vf, vf, vq, vf, vf, vq, vf, vf, vq, vf, vf, vq, vf, vf, vq, vf, vf, vq, vf, vf, vq, vf, vf, vq, vf, vf, vq, vf, vf, vq, vf, vf, vq, vf, vf, vq, vf, vf, vq, vf, vf, vq, vf, vf, vq, vf, vf, vq, vf, vf, vq, vf, vf, vq, vf, vf, vq, vf, vf, vq, vf, vf, vq, vf, vf, vq, vf, vf, vq, vf, vf, vi (400 : Int), vi (16 : Int), vi (64 : Int), vi (64 : Int), vi (1073741824 : Int), vi (1 : Int), vq, vp 6 0, vp 7 0, vp 8 0, vp 9 0] 126
abbrev cz20 : AObj := .cells [vi (1 : Int), vq, vq, vq, vq, vq, vi (1 : Int), vq, vq, vq, vq, vq, vi (1 : Int), vq, vq, vq, vq, vq, vi (13 : Int), vq, vq, vq, vq, vi (4 : Int), vi (8 : Int), vq, vq, vq, vq, vi (4 : Int), vi (2 : Int), vq, vq, vq, vq, vi (4 : Int), vi (3 : Int), vq, vq, vq, vq, vi (4 : Int), vi (4 : Int), vq, vi (2 : Int), vi (1048577 : Int), vi (5 : Int), vi (4 : Int), vi (3 : Int), vq, vq, vq, vq, vi (4 : Int), vi (1 : Int), vq, vq, vq, vq, vq, vi (12 : Int), vq, vi (2 : Int), vi (1048594 : Int), vq, vi (4 : Int), vi (5 : Int), vq, vi (2 : Int), vi (1048594 : Int), vi (1 : Int), vi (4 : Int), vi (5 : Int), vq, vi (2 : Int), vi (1048594 : Int), vi (2 : Int), vi (4 : Int), vi (2 : Int), vq, vq, vq, vq, vi (4 : Int), vi (3 : Int), vq, vq, vq, vq, vi (4 : Int), vi (4 : Int), vq, vi (2 : Int), vi (1048577 : Int), vi (5 : Int), vi (4 : Int), vi (3 : Int), vq, vq, vq, vq, vi (4 : Int)] 65
abbrev cz21 : AObj := .cells [vi (1 : Int), vq, vq, vq, vq, vq, vi (1 : Int), vq, vq, vq, vq, vq, vi (1 : Int), vq, vq, vq, vq, vq, vi (13 : Int), vq, vq, vq, vq, vi (4 : Int), vi (8 : Int), vq, vq, vq, vq, vi (4 : Int), vi (2 : Int), vq, vq, vq, vq, vi (4 : Int), vi (3 : Int), vq, vq, vq, vq, vi (4 : Int), vi (4 : Int), vq, vi (2 : Int), vi (1048577 : Int), vi (5 : Int), vi (4 : Int), vi (3 : Int), vq, vq, vq, vq, vi (4 : Int), vi (1 : Int), vq, vq, vq, vq, vq, vi (12 : Int), vq, vi (2 : Int), vi (1048594 : Int), vq, vi (4 : Int), vi (5 : Int), vq, vi (2 : Int), vi (1048594 : Int), vi (1 : Int), vi (4 : Int), vi (5 : Int), vq, vi (2 : Int), vi (1048594 : Int), vi (2 : Int), vi (4 : Int), vi (2 : Int), vq, vq, vq, vq, vi (4 : Int), vi (3 : Int), vq, vq, vq, vq, vi (4 : Int), vi (4 : Int), vq, vi (2 : Int), vi (1048577 : Int), vi (5 : Int), vi (4 : Int)] 65
abbrev cz22 : AObj := .cells [vi (1 : Int), vq, vq, vq, vq, vq, vi (1 : Int), vq, vq, vq, vq, vq, vi (1 : Int), vq, vq, vq, vq, vq, vi (13 : Int), vq, vq, vq, vq, vi (4 : Int), vi (8 : Int), vq, vq, vq, vq, vi (4 : Int), vi (2 : Int), vq, vq, vq, vq, vi (4 : Int), vi (3 : Int), vq, vq, vq, vq, vi (4 : Int), vi (4 : Int), vq, vi (2 : Int), vi (1048577 : Int), vi (5 : Int), vi (4 : Int), vi (3 : Int), vq, vq, vq, vq, vi (4 : Int), vi (1 : Int), vq, vq, vq, vq, vq, vi (12 : Int), vq, vi (2 : Int), vi (1048594 : Int), vq, vi (4 : Int), vi (5 : Int), vq, vi (2 : Int), vi (1048594 : Int), vi (1 : Int), vi (4 : Int), vi (5 : Int), vq, vi (2 : Int), vi (1048594 : Int), vi (2 : Int), vi (4 : Int), vi (2 : Int), vq, vq, vq, vq, vi (4 : Int), vi (3 : Int), vq, vq, vq, vq, vi (4 : Int)] 65
abbrev cz23 : AObj := .cells [vi (1 : Int), vq, vq, vq, vq, vq, vi (1 : Int), vq, vq, vq, vq, vq, vi (1 : Int), vq, vq, vq, vq, vq, vi (13 : Int), vq, vq, vq, vq, vi (4 : Int), vi (8 : Int), vq, vq, vq, vq, vi (4 : Int), vi (2 : Int), vq, vq, vq, vq, vi (4 : Int), vi (3 : Int), vq, vq, vq, vq, vi (4 : Int), vi (4 : Int), vq, vi (2 : Int), vi (1048577 : Int), vi (5 : Int), vi (4 : Int), vi (3 : Int), vq, vq, vq, vq, vi (4 : Int), vi (1 : Int), vq, vq, vq, vq, vq, vi (12 : Int), vq, vi (2 : Int), vi (1048594 : Int), vq, vi (4 : Int), vi (5 : Int), vq, vi (2 : Int), vi (1048594 : Int), vi (1 : Int), vi (4 : Int), vi (5 : Int), vq, vi (2 : Int), vi (1048594 : Int), vi (2 : Int), vi (4 : Int), vi (2 : Int), vq, vq, vq, vq, vi (4 : Int)] 65
abbrev cz24 : AObj := .cells [vi (1 : Int), vq, vq, vq, vq, vq, vi (1 : Int), vq, vq, vq, vq, vq, vi (1 : Int), vq, vq, vq, vq, vq, vi (13 : Int), vq, vq, vq, vq, vi (4 : Int), vi (8 : Int), vq, vq, vq, vq, vi (4 : Int), vi (2 : Int), vq, vq, vq, vq, vi (4 : Int), vi (3 : Int), vq, vq, vq, vq, vi (4 : Int), vi (4 : Int), vq, vi (2 : Int), vi (1048577 : Int), vi (5 : Int), vi (4 : Int), vi (3 : Int), vq, vq, vq, vq, vi (4 : Int), vi (1 : Int), vq, vq, vq, vq, vq, vi (12 : Int), vq, vi (2 : Int), vi (1048594 : Int), vq, vi (4 : Int), vi (5 : Int), vq, vi (2 : Int), vi (1048594 : Int), vi (1 : Int), vi (4 : Int), vi (5 : Int), vq, vi (2 : Int), vi (1048594 : Int), vi (2 : Int), vi (4 : Int)] 65
abbrev cz25 : AObj := .cells [vi (1 : Int), vq, vq, vq, vq, vq, vi (1 : Int), vq, vq, vq, vq, vq, vi (1 : Int), vq, vq, vq, vq, vq, vi (13 : Int), vq, vq, vq, vq, vi (4 : Int), vi (8 : Int), vq, vq, vq, vq, vi (4 : Int), vi (2 : Int), vq, vq, vq, vq, vi (4 : Int), vi (3 : Int), vq, vq, vq, vq, vi (4 : Int), vi (4 : Int), vq, vi (2 : Int), vi (1048577 : Int), vi (5 : Int), vi (4 : Int), vi (3 : Int), vq, vq, vq, vq, vi (4 : Int), vi (1 : Int), vq, vq, vq, vq, vq, vi (12 : Int), vq, vi (2 : Int), vi (1048594 : Int), vq, vi (4 : Int), vi (5 : Int), vq, vi (2 : Int), vi (1048594 : Int), vi (1 : Int), vi (4 : Int)] 65
abbrev cz26 : AObj := .cells [vT, vf, vq, vi (4 : Int), vi (5 : Int), vq, vs 17 0 2 2, vs 18 0 1 1, vn, vi (2 : Int), vi (1048577 : Int), vi (5 : Int), vi (2 : Int), vi (1048594 : Int), vq, vq, vq, vq, vq, Value.func (.func 184) #[vp 15 0] #[], Value.func (.func 184) #[vp 15 0] #[], Value.func (.func 179) #[vp 15 0] #[], vi (1 : Int), vq, vq, vq, vf, vq, vq, vq, vs 19 2 0 0, vq, Value.nilFunc, vq, vq, vq, vn, vq, vq, vq, vp 2 0, vq, Value.func (.func 229) #[vp 15 0] #[], vq, vT, vi (1 : Int), vp 20 0, vp 21 0, vp 22 0, vn, vi (2 : Int), vq, vq] 213
abbrev cz27 : AObj := .cells [vT, vf, vq, vi (4 : Int), vi (5 : Int), vq, vs 17 0 2 2, vs 18 0 1 1, vn, vi (2 : Int), vi (1048577 : Int), vi (5 : Int), vi (2 : Int), vi (1048594 : Int), vq, vq, vq, vq, vq, Value.func (.func 184) #[vp 15 0] #[], Value.func (.func 184) #[vp 15 0] #[], Value.func (.func 179) #[vp 15 0] #[], vi (1 : Int), vq, vq, vq, vf, vq, vq, vq, vs 19 2 0 0, vq, Value.nilFunc, vq, vq, vq, vn, vq, vq, vq, vp 2 0, vq, Value.func (.func 179) #[vp 15 0] #[], vq, vT, vi (1 : Int), vp 20 0, vp 21 0, vp 22 0, vn, vi (2 : Int), vq, vq] 213
abbrev cz28 : AObj := .cells [vT, vf, vq, vi (4 : Int), vi (5 : Int), vq, vs 17 0 2 2, vs 18 0 1 1, vn, vi (2 : Int), vi (1048577 : Int), vi (5 : Int), vi (2 : Int), vi (1048594 : Int), vq, vq, vq, vq, vq, Value.func (.func 184) #[vp 15 0] #[], Value.func (.func 184) #[vp 15 0] #[], Value.func (.func 179) #[vp 15 0] #[], vi (1 : Int), vq, vq, vq, vf, vq, vq, vq, vs 19 2 0 0, vq, Value.nilFunc, vq, vq, vq, vn, vq, vq, vq, vp 2 0, vq, Value.func (.func 184) #[vp 15 0] #[], vq, vT, vi (1 : Int), vp 20 0, vp 21 0, vp 22 0, vn, vi (2 : Int), vq, vq] 213
abbrev cz29 : AObj := .cells [vT, vf, vq, vi (4 : Int), vi (5 : Int), vq, vs 17 0 1 1, vs 18 0 1 1, vn, vi (2 : Int), vi (1048577 : Int), vi (5 : Int), vq, vq, vq, vq, vq, vq, vq, Value.func (.func 181) #[vp 15 0] #[], Value.func (.func 182) #[vp 15 0] #[], Value.func (.func 182) #[vp 15 0] #[], vi (1 : Int), vq, vq, vq, vf, vi (2 : Int), vq, vq, vn, vq, Value.nilFunc, vq, vq, vq, vn, vq, vq, vq, vp 2 0, vq, Value.func (.func 232) #[vp 15 0] #[], vq, vT, vi (1 : Int), vp 19 0, vp 20 0, vp 21 0, vn, vi (2 : Int), vi (1048594 : Int), vq] 213
abbrev cz30 : AObj := .cells [vi (1 : Int), vq, vq, vq, vq, vq, vi (1 : Int), vq, vq, vq, vq, vq, vi (1 : Int), vq, vq, vq, vq, vq, vi (13 : Int), vq, vq, vq, vq, vi (4 : Int), vi (8 : Int), vq, vq, vq, vq, vi (4 : Int), vi (2 : Int), vq, vq, vq, vq, vi (4 : Int), vi (3 : Int), vq, vq, vq, vq, vi (4 : Int), vi (4 : Int), vq, vi (2 : Int), vi (1048577 : Int), vi (5 : Int), vi (4 : Int), vi (3 : Int), vq, vq, vq, vq, vi (4 : Int), vi (1 : Int), vq, vq, vq, vq, vq, vi (12 : Int), vq, vi (2 : Int), vi (1048594 : Int), vq, vi (4 : Int)] 65
abbrev Zf8 : AObj := .cells [vi (1 : Int), vi (16 : Int), vi (255 : Int), vi (2 : Int), vq, vq, vq, vq, vq, vq, vq, vq, vq, vq, vq, vq, vq, vq, vq, vq, vq, vq, vq, vq, vq, vq, vq, vq, vq, vq, vq, vq, vq, vq, vq, vq, vq, vq, vq, vq, vq, vq, vq, vq, vq, vq, vq, vq, vq, vq, vq, vq, vq, vq, vq, vq, vq, vq, vq, vq, vq, vq, vq, vq, vq, vq, vq, vq, vq, vq, vq, vq, vq, vq, vq, vq, vq, vq, vq, vq, vq, vq, vq, vq, vq, vi (1 : Int), vi (3 : Int), vi (1 : Int), vi (1 : Int), vq, vq, vq, vq, vq, vq, vq, vq, vq, vq, vq, vq, vq, vq, vq, vq] 28
abbrev cz32 : AObj := .cells [vT, vf, vq, vi (4 : Int), vi (5 : Int), vq, vs 17 0 1 1, vs 18 0 1 1, vn, vi (2 : Int), vi (1048577 : Int), vi (5 : Int), vq, vq, vq, vq, vq, vq, vq, Value.func (.func 181) #[vp 15 0] #[], Value.func (.func 182) #[vp 15 0] #[], Value.func (.func 182) #[vp 15 0] #[], vi (1 : Int), vq, vq, vq, vf, vq, vq, vq, vn, vq, Value.nilFunc, vq, vq, vq, vn, vq, vq, vq, vp 2 0, vq, Value.func (.func 229) #[vp 15 0] #[], vq, vT, vi (1 : Int), vp 19 0, vp 20 0, vp 21 0, vn, vi (2 : Int), vi (1048594 : Int), vq] 213
abbrev cz33 : AObj := .cells [vT, vf, vq, vi (4 : Int), vi (5 : Int), vq, vs 17 0 1 1, vs 18 0 1 1, vn, vi (2 : Int), vi (1048577 : Int), vi (5 : Int), vq, vq, vq, vq, vq, vq, vq, Value.func (.func 181) #[vp 15 0] #[], Value.func (.func 182) #[vp 15 0] #[], Value.func (.func 182) #[vp 15 0] #[], vi (1 : Int), vq, vq, vq, vf, vq, vq, vq, vn, vq, Value.nilFunc, vq, vq, vq, vn, vq, vq, vq, vp 2 0, vq, Value.func (.func 182) #[vp 15 0] #[], vq, vT, vi (1 : Int), vp 19 0, vp 20 0, vp 21 0, vn, vi (2 : Int), vi (1048594 : Int), vq] 213
abbrev Zes : AObj := .cells [vi (1 : Int), vi (16 : Int), vi (255 : Int), vi (2 : Int), vq, vq, vq, vq, vq, vq, vq, vq, vq, vq, vq, vq, vq, vq, vq, vq, vq, vq, vq, vq, vq, vq, vq, vq, vq, vq, vq, vq, vq, vq, vq, vq, vq, vq, vq, vq, vq, vq, vq, vq, vq, vq, vq, vq, vq, vq, vq, vq, vq, vq, vq, vq, vq, vq, vq, vq, vq, vq, vq, vq, vq, vq, vq, vq, vq, vq, vq, vq, vq, vq, vq, vq, vq, vq, vq, vq, vq, vq, vq, vq, vq, vi (1 : Int), vi (3 : Int), vi (1 : Int), vi (2 : Int), vq, vq, vq, vq, vq, vq, vq, vq, vq, vq, vq, vq, vq, vq, vq, vq] 28
abbrev cz35 : AObj := .cells [vT, vf, vq, vi (4 : Int), vi (5 : Int), vq, vs 17 0 2 2, vs 18 0 1 1, vn, vi (2 : Int), vi (1048577 : Int), vi (5 : Int), vi (2 : Int), vi (1048594 : Int), vq, vq, vq, vq, vq, Value.func (.func 184) #[vp 15 0] #[], Value.func (.func 184) #[vp 15 0] #[], Value.func (.func 179) #[vp 15 0] #[], vi (1 : Int), vq, vq, vq, vf, vq, vq, vq, vs 19 2 0 0, vq, Value.nilFunc, vq, vq, vq, vn, vq, vq, vq, vp 2 0, vq, Value.nilFunc, vq, vT, vi (1 : Int), vp 20 0, vp 21 0, vp 22 0, vn, vi (2 : Int), vq, vq] 213
abbrev cz36 : AObj := .cells [vT, vf, vq, vi (4 : Int), vi (5 : Int), vq, vs 17 0 1 1, vs 18 0 1 1, vn, vi (2 : Int), vi (1048594 : Int), vi (1 : Int), vi (1 : Int), vi (13 : Int), vq, vq, vq, vq, vq, Value.func (.func 184) #[vp 15 0] #[], Value.func (.func 184) #[vp 15 0] #[], Value.func (.func 179) #[vp 15 0] #[], vq, vq, vq, vq, vf, vq, vq, vq, vn, vq, Value.nilFunc, vq, vq, vq, vn, vq, vq, vq, vp 2 0, vq, Value.nilFunc, vq, vT, vi (1 : Int), vp 19 0, vp 20 0, vp 21 0, vn, vi (2 : Int), vi (1048594 : Int), vq] 213
abbrev cz37 : AObj := .cells [vT, vf, vq, vi (4 : Int), vi (5 : Int), vq, vs 17 0 1 1, vs 18 0 1 1, vn, vi (2 : Int), vi (1048594 : Int), vi (2 : Int), vi (1 : Int), vi (7 : Int), vq, vq, vq, vq, vq, Value.func (.func 184) #[vp 15 0] #[], Value.func (.func 184) #[vp 15 0] #[], Value.func (.func 179) #[vp 15 0] #[], vq, vq, vq, vq, vf, vq, vq, vq, vn, vq, Value.nilFunc, vq, vq, vq, vn, vq, vq, vq, vp 2 0, vq, Value.nilFunc, vq, vT, vi (1 : Int), vp 19 0, vp 20 0, vp 21 0, vn, vi (2 : Int), vi (1048594 : Int), vq] 213
abbrev cz38 : AObj := .cells [vT, vf, vq, vi (4 : Int), vi (5 : Int), vq, vn, vn, vn, vi (2 : Int), vi (1048577 : Int), vi (5 : Int), vq, vq, vq, vq, vq, vq, vq, Value.func (.func 181) #[vp 15 0] #[], Value.func (.func 182) #[vp 15 0] #[], Value.func (.func 182) #[vp 15 0] #[], vi (1 : Int), vq, vq, vq, vf, vi (2 : Int), vq, vq, vn, vq, Value.nilFunc, vq, vq, vq, vn, vq, vq, vq, vp 2 0, vq, Value.func (.func 232) #[vp 15 0] #[], vq, vT, vi (1 : Int), vp 17 0, vp 18 0, vp 19 0, vn, vq, vq, vq] 213
abbrev Zu6 : AObj := .cells [vT, vf, vq, vi (4 : Int), vi (5 : Int), vq, vs 17 0 1 1, vn, vn, vi (2 : Int), vi (1048577 : Int), vi (5 : Int), vq, vq, vq, vq, vq, vq, vq, Value.func (.func 181) #[vp 15 0] #[], Value.func (.func 182) #[vp 15 0] #[], Value.func (.func 182) #[vp 15 0] #[], vi (1 : Int), vq, vq, vq, vf, vi (2 : Int), vq, vq, vn, vq, Value.nilFunc, vq, vq, vq, vn, vq, vq, vq, vp 2 0, vq, Value.nilFunc, vq, vT, vi (1 : Int), vp 18 0, vp 19 0, vp 20 0, vn, vi (2 : Int), vq, vq] 213
abbrev cz40 : AObj := .cells [vT, vf, vq, vi (4 : Int), vi (5 : Int), vq, vn, vn, vn, vi (2 : Int), vi (1048577 : Int), vi (5 : Int), vq, vq, vq, vq, vq, vq, vq, Value.func (.func 181) #[vp 15 0] #[], Value.func (.func 182) #[vp 15 0] #[], Value.func (.func 182) #[vp 15 0] #[], vi (1 : Int), vq, vq, vq, vf, vq, vq, vq, vn, vq, Value.nilFunc, vq, vq, vq, vn, vq, vq, vq, vp 2 0, vq, Value.func (.func 229) #[vp 15 0] #[], vq, vT, vi (1 : Int), vp 17 0, vp 18 0, vp 19 0, vn, vq, vq, vq] 213
abbrev cz41 : AObj := .cells [vT, vf, vq, vi (4 : Int), vi (5 : Int), vq, vn, vn, vn, vi (2 : Int), vi (1048577 : Int), vi (5 : Int), vq, vq, vq, vq, vq, vq, vq, Value.func (.func 181) #[vp 15 0] #[], Value.func (.func 182) #[vp 15 0] #[], Value.func (.func 182) #[vp 15 0] #[], vi (1 : Int), vq, vq, vq, vf, vq, vq, vq, vn, vq, Value.nilFunc, vq, vq, vq, vn, vq, vq, vq, vp 2 0, vq, Value.func (.func 182) #[vp 15 0] #[], vq, vT, vi (1 : Int), vp 17 0, vp 18 0, vp 19 0, vn, vq, vq, vq] 213
abbrev cz42 : AObj := .cells [vT, vf, vq, vi (4 : Int), vi (5 : Int), vq, vs 17 0 2 2, vs 18 0 1 1, vn, vi (2 : Int), vi (1048594 : Int), vq, vi (2 : Int), vq, vq, vq, vq, vq, vq, Value.func (.func 184) #[vp 15 0] #[], Value.func (.func 184) #[vp 15 0] #[], Value.func (.func 179) #[vp 15 0] #[], vq, vq, vq, vq, vf, vq, vq, vq, vn, vq, Value.nilFunc, vq, vq, vq, vn, vq, vq, vq, vp 2 0, vq, Value.nilFunc, vq, vT, vi (1 : Int), vp 19 0, vp 20 0, vp 21 0, vn, vi (2 : Int), vq, vq] 213
abbrev cz43 : AObj := .cells [vi (1 : Int), vq, vq, vq, vq, vq, vi (1 : Int), vq, vq, vq, vq, vq, vi (1 : Int), vq, vq, vq, vq, vq, vi (13 : Int), vq, vq, vq, vq, vi (4 : Int), vi (8 : Int), vq, vq, vq, vq, vi (4 : Int), vi (2 : Int), vq, vq, vq, vq, vi (4 : Int), vi (3 : Int), vq, vq, vq, vq, vi (4 : Int), vi (4 : Int), vq, vi (2 : Int), vi (1048577 : Int), vi (5 : Int), vi (4 : Int), vi (3 : Int), vq, vq, vq, vq, vi (4 : Int), vi (1 : Int), vq, vq, vq, vq, vq] 65
abbrev cz44 : AObj := .cells [vT, vT, vq, vi (4 : Int), vi (5 : Int), vi (24 : Int), vs 19 0 2 2, vs 20 0 1 1, vn, vq, vq, vq, vq, vq, vq, vq, vq, vq, vq, Value.nilFunc, Value.nilFunc, Value.nilFunc, vq, vq, vq, vq, vf, vq, vq, vq, vn, vi (1 : Int), Value.func (.func 215) #[vp 17 0] #[], vq, vq, vi (1 : Int), vn, vq, vq, vq, vp 3 0, vq, Value.func (.func 312) #[vp 17 0] #[], vq, vT, vi (1 : Int), vp 21 0, vp 22 0, vp 23 0, vn, vi (2 : Int), vq, vq] 213
abbrev cz45 : AObj := .cells [vT, vT, vq, vi (4 : Int), vi (5 : Int), vi (24 : Int), vs 19 0 2 2, vs 20 0 1 1, vn, vq, vq, vq, vq, vq, vq, vq, vq, vq, vq, Value.nilFunc, Value.nilFunc, Value.nilFunc, vq, vq, vq, vq, vf, vq, vq, vq, vn, vi (1 : Int), Value.func (.func 215) #[vp 17 0] #[], vq, vq, vi (1 : Int), vn, vq, vq, vq, vp 3 0, vq, Value.func (.func 336) #[vp 17 0] #[], vq, vT, vi (1 : Int), vp 21 0, vp 22 0, vp 23 0, vn, vi (2 : Int), vq, vq] 213
abbrev cz46 : AObj := .cells [vi (1 : Int), vq, vq, vq, vq, vq, vi (1 : Int), vq, vq, vq, vq, vq, vi (1 : Int), vq, vq, vq, vq, vq, vi (13 : Int), vq, vq, vq, vq, vi (4 : Int), vi (8 : Int), vq, vq, vq, vq, vi (4 : Int), vi (2 : Int), vq, vq, vq, vq, vi (4 : Int), vi (3 : Int), vq, vq, vq, vq, vi (4 : Int), vi (4 : Int), vq, vi (2 : Int), vi (1048577 : Int), vi (5 : Int), vi (4 : Int), vi (3 : Int), vq, vq, vq, vq, vi (4 : Int)] 65
abbrev Zu7 : AObj := .cells [vf, vT, vq, vi (4 : Int), vi (5 : Int), vi (24 : Int), vs 18 0 2 2, vs 19 0 1 1, vn, vq, vq, vq, vq, vq, vq, vq, vq, vq, vq, Value.nilFunc, Value.nilFunc, Value.nilFunc, vq, vq, vq, vq, vf, vq, vq, vq, vn, vi (1 : Int), Value.func (.func 215) #[vp 16 0] #[], vq, vq, vi (1 : Int), vs 20 0 1 1, vq, vq, vq, vp 3 0, vq, Value.nilFunc, vq, vT, vq, vp 21 0, vp 22 0, vp 23 0, vn, vi (2 : Int), vq, vq] 213
abbrev ZgM : AObj := .cells [vq, vq, vi (2 : Int), vq, vi (2 : Int), vq, vi (2 : Int), vq, vi (2 : Int), vq, vi (2 : Int), vq, vi (2 : Int), vi (1048594 : Int), vi (2 : Int), vq, vi (2 : Int), vq, vi (1 : Int), vq, vi (1 : Int), vq, vi (1 : Int), vq, vi (1 : Int), vq, vi (1 : Int), vq, vi (1 : Int), vq, vi (1 : Int), vq, vi (1 : Int), vq, vq, vq, vi (2 : Int), vq, vi (1 : Int), vi (13 : Int), vi (1 : Int), vi (7 : Int)] 25
abbrev cz49 : AObj := .cells [vp 2 0, vq, vs 13 0 20 20, Value.int .u32 (0 : Int), Value.int .i32 (0 : Int), Value.int .u32 (0 : Int), vn, vi (2 : Int), vi (1048577 : Int), vi (1 : Int), vi (13 : Int), vi (2 : Int), vi (1048594 : Int), vi (2 : Int), vq, vi (1 : Int), vq, vi (1 : Int), vq, vi (1 : Int), vi (7 : Int), vi (1 : Int), vq, vi (14 : Int), vn, vq, vq, vs 14 0 1 1, vp 15 0, vp 16 0, vi (4 : Int), vf, vn] 154
abbrev cz50 : AObj := .cells [vp 2 0, vq, vs 13 0 20 20, Value.int .u32 (0 : Int), Value.int .i32 (0 : Int), Value.int .u32 (0 : Int), vn, vi (2 : Int), vi (1048577 : Int), vi (1 : Int), vi (13 : Int), vi (2 : Int), vi (1048594 : Int), vi (2 : Int), vq, vi (1 : Int), vq, vi (1 : Int), vq, vi (1 : Int), vi (7 : Int), vi (1 : Int), vq, vi (15 : Int), vn, vq, vq, vs 14 0 1 1, vp 15 0, vp 16 0, vi (4 : Int), vf, vn] 154
abbrev Zmb : AObj := .cells [vp 2 0, vq, vs 13 0 20 20, Value.int .u32 (0 : Int), Value.int .i32 (0 : Int), Value.int .u32 (0 : Int), vn, vi (2 : Int), vi (1048577 : Int), vi (1 : Int), vi (13 : Int), vi (2 : Int), vi (1048594 : Int), vi (2 : Int), vq, vi (1 : Int), vq, vi (1 : Int), vq, vi (1 : Int), vi (7 : Int), vi (1 : Int), vq, vi (16 : Int), vn, vq, vq, vs 14 0 1 1, vp 15 0, vp 16 0, vi (4 : Int), vf, vn] 154
abbrev cz52 : AObj := .cells [vp 2 0, vq, vs 13 0 20 20, Value.int .u32 (0 : Int), Value.int .i32 (0 : Int), Value.int .u32 (0 : Int), vn, vi (2 : Int), vi (1048577 : Int), vi (1 : Int), vi (13 : Int), vi (2 : Int), vi (1048594 : Int), vi (2 : Int), vq, vi (1 : Int), vq, vi (1 : Int), vq, vi (1 : Int), vi (7 : Int), vi (1 : Int), vq, vi (17 : Int), vn, vq, vq, vs 14 0 1 1, vp 15 0, vp 16 0, vi (4 : Int), vf, vn] 154
abbrev Zka : AObj := .cells [vp 2 0, vq, vs 13 0 20 20, Value.int .u32 (0 : Int), Value.int .i32 (0 : Int), Value.int .u32 (0 : Int), vn, vi (2 : Int), vi (1048577 : Int), vi (1 : Int), vi (13 : Int), vi (2 : Int), vi (1048594 : Int), vi (2 : Int), vq, vi (1 : Int), vq, vi (1 : Int), vq, vi (1 : Int), vi (7 : Int), vi (1 : Int), vq, vi (18 : Int), vn, vq, vq, vs 14 0 1 1, vp 15 0, vp 16 0, vi (4 : Int), vf, vn] 154
abbrev ZqV : AObj := .cells [vp 2 0, vq, vs 13 0 20 20, Value.int .u32 (0 : Int), Value.int .i32 (0 : Int), Value.int .u32 (0 : Int), vn, vi (2 : Int), vi (1048577 : Int), vi (1 : Int), vi (13 : Int), vi (2 : Int), vi (1048594 : Int), vi (2 : Int), vq, vi (1 : Int), vq, vi (1 : Int), vq, vi (1 : Int), vi (7 : Int), vi (1 : Int), vq, vi (19 : Int), vn, vq, vq, vs 14 0 1 1, vp 15 0, vp 16 0, vi (4 : Int), vf, vn] 154
abbrev ZnT : AObj := .cells [vp 3 0, vq, vs 15 0 20 20, Value.int .u32 (0 : Int), Value.int .i32 (0 : Int), Value.int .u32 (0 : Int), vn, vi (2 : Int), vi (1048577 : Int), vi (1 : Int), vi (13 : Int), vi (2 : Int), vi (1048594 : Int), vi (2 : Int), vq, vi (1 : Int), vq, vi (1 : Int), vq, vi (1 : Int), vi (7 : Int), vi (1 : Int), vq, vi (19 : Int), vn, vq, vq, vs 16 0 1 1, vp 17 0, vp 18 0, vi (4 : Int), vf, vn] 154
abbrev ZdF : AObj := .cells [vi (1 : Int), vi (16 : Int), vi (255 : Int), vi (2 : Int), vq, vq, vq, vq, vq, vq, vq, vq, vq, vq, vq, vq, vq, vq, vq, vq, vq, vq, vq, vq, vq, vq, vq, vq, vq, vq, vq, vq, vq, vq, vq, vq, vq, vq, vq, vq, vq, vq, vq, vq, vq, vq, vq, vq, vq, vq, vq, vq, vq, vq, vq, vq, vq, vq, vq, vq, vq, vq, vq, vq, vq, vq, vq, vq, vq, vq, vq, vq, vq, vq, vq, vq, vq, vq, vq, vq, vq, vq, vq, vq, vq] 28
abbrev Zfc : AObj := .cells [vq, vq, vi (2 : Int), vq, vi (2 : Int), vq, vi (2 : Int), vq, vi (2 : Int), vq, vi (2 : Int), vq, vi (2 : Int), vq, vi (2 : Int), vq, vi (2 : Int), vq, vi (1 : Int), vq, vi (1 : Int), vq, vi (1 : Int), vq, vi (1 : Int), vq, vi (1 : Int), vq, vi (1 : Int), vq, vi (1 : Int), vq, vi (1 : Int), vq, vq, vq, vi (2 : Int), vq, vi (1 : Int), vi (13 : Int), vi (1 : Int), vi (7 : Int)] 25
abbrev cz58 : AObj := .cells [vp 3 0, vq, vs 15 0 20 20, Value.int .u32 (0 : Int), Value.int .i32 (0 : Int), Value.int .u32 (0 : Int), vn, vi (2 : Int), vi (1048577 : Int), vi (1 : Int), vi (13 : Int), vi (2 : Int), vi (1048594 : Int), vi (2 : Int), vq, vi (1 : Int), vq, vi (1 : Int), vq, vi (1 : Int), vi (7 : Int), vi (1 : Int), vq, vi (20 : Int), vn, vi (2 : Int), vq, vn, vp 16 0, vp 17 0, vq, vf, vn] 154
abbrev cz59 : AObj := .cells [vp 2 0, vq, vs 13 0 20 20, Value.int .u32 (0 : Int), Value.int .i32 (0 : Int), Value.int .u32 (0 : Int), vn, vi (2 : Int), vi (1048577 : Int), vi (1 : Int), vi (13 : Int), vi (1 : Int), vq, vi (2 : Int), vq, vi (1 : Int), vq, vi (1 : Int), vq, vi (1 : Int), vi (7 : Int), vi (1 : Int), vq, vi (13 : Int), vn, vq, vq, vs 14 0 1 1, vp 15 0, vp 16 0, vi (4 : Int), vf, vn] 154
abbrev Zmc : AObj := .cells [vp 2 0, vq, vs 13 0 20 20, Value.int .u32 (0 : Int), Value.int .i32 (0 : Int), Value.int .u32 (0 : Int), vn, vi (2 : Int), vi (1048577 : Int), vi (1 : Int), vi (13 : Int), vi (1 : Int), vq, vi (1 : Int), vq, vi (1 : Int), vq, vi (1 : Int), vq, vi (1 : Int), vi (7 : Int), vi (1 : Int), vq, vi (4 : Int), vn, vq, vq, vs 14 0 1 1, vp 15 0, vp 16 0, vi (4 : Int), vf, vn] 154
abbrev cz61 : AObj := .cells [vp 2 0, vq, vs 13 0 20 20, Value.int .u32 (0 : Int), Value.int .i32 (0 : Int), Value.int .u32 (0 : Int), vn, vi (2 : Int), vi (1048577 : Int), vi (1 : Int), vi (13 : Int), vi (1 : Int), vq, vi (2 : Int), vq, vi (1 : Int), vq, vi (1 : Int), vq, vi (1 : Int), vi (7 : Int), vi (1 : Int), vq, vi (5 : Int), vn, vq, vq, vs 14 0 1 1, vp 15 0, vp 16 0, vi (4 : Int), vf, vn] 154
abbrev cz62 : AObj := .cells [vq, vq, vi (2 : Int), vq, vi (2 : Int), vq, vi (2 : Int), vq, vi (2 : Int), vq, vi (2 : Int), vq, vi (2 : Int), vq, vi (2 : Int), vq, vi (2 : Int), vq, vi (1 : Int), vq, vi (1 : Int), vq, vi (1 : Int), vq, vi (1 : Int), vq, vi (1 : Int), vq, vi (1 : Int), vq, vi (1 : Int), vq, vi (1 : Int), vq, vq, vq, vi (2 : Int), vq, vi (1 : Int), vi (13 : Int), vi (1 : Int), vq] 25
abbrev ZgN : AObj := .cells [vi (2 : Int), vi (1048594 : Int), vi (1 : Int), vi (1 : Int), vq, vf, vq, vi (2 : Int), vi (1048594 : Int), vi (2 : Int), vi (1 : Int), vq, vf, vq, vi (2 : Int), vi (1048594 : Int), vq, vi (2 : Int), vq, vf, vq, vi (2 : Int), vi (1048594 : Int), vi (-1 : Int), vq, vq, vT, vi (1 : Int), vi (2 : Int), vi (1048577 : Int), vi (5 : Int), vi (2 : Int), vq, vf, vq] 351
abbrev cz64 : AObj := .cells [vi (1 : Int), vq, vq, vq, vq, vq, vi (1 : Int), vq, vq, vq, vq, vq, vi (1 : Int), vq, vq, vq, vq, vq, vi (13 : Int), vq, vq, vq, vq, vi (4 : Int), vi (8 : Int), vq, vq, vq, vq, vi (4 : Int), vi (2 : Int), vq, vq, vq, vq, vi (4 : Int), vi (3 : Int), vq, vq, vq, vq, vi (4 : Int), vi (4 : Int), vq, vi (2 : Int), vi (1048577 : Int), vi (5 : Int), vi (4 : Int)] 65
abbrev cz65 : AObj := .cells [vq, vq, vi (2 : Int), vq, vi (2 : Int), vq, vi (2 : Int), vq, vi (2 : Int), vq, vi (2 : Int), vq, vi (2 : Int), vq, vi (2 : Int), vq, vi (2 : Int), vq, vi (1 : Int), vq, vi (1 : Int), vq, vi (1 : Int), vq, vi (1 : Int), vq, vi (1 : Int), vq, vi (1 : Int), vq, vi (1 : Int), vq, vi (1 : Int), vq, vq, vq, vi (2 : Int), vq, vi (1 : Int), vq, vi (1 : Int), vq] 25
abbrev cz66 : AObj := .cells [vp 2 0, vq, vs 13 0 20 20, Value.int .u32 (0 : Int), Value.int .i32 (0 : Int), Value.int .u32 (0 : Int), vn, vi (2 : Int), vi (1048577 : Int), vi (1 : Int), vi (13 : Int), vi (1 : Int), vq, vi (1 : Int), vq, vi (1 : Int), vq, vi (1 : Int), vq, vi (1 : Int), vi (7 : Int), vi (1 : Int), vq, vi (3 : Int), vn, vq, vq, vn, vp 14 0, vp 15 0, vq, vf, vn] 154
abbrev cz67 : AObj := .cells [vp 2 0, vq, vs 13 0 20 20, Value.int .u32 (0 : Int), Value.int .i32 (0 : Int), Value.int .u32 (0 : Int), vn, vi (2 : Int), vi (1048577 : Int), vi (1 : Int), vi (13 : Int), vi (1 : Int), vq, vi (1 : Int), vq, vi (1 : Int), vq, vi (1 : Int), vq, vi (1 : Int), vq, vi (1 : Int), vq, vi (2 : Int), vn, vq, vq, vn, vp 14 0, vp 15 0, vq, vf, vn] 154
abbrev cz68 : AObj := .cells [vT, vf, vq, vi (4 : Int), vi (5 : Int), vq, vn, vn, vn, vq, vq, vq, vq, vq, vq, vq, vq, vq, vq, Value.nilFunc, Value.nilFunc, Value.nilFunc, vq, vq, vq, vq, vf, vq, vq, vq, vn, vq, Value.nilFunc, vq, vq, vq, vn, vq, vq, vq, vp 2 0, vq, Value.nilFunc, vq, vf, vi (1 : Int), vp 17 0, vp 18 0, vp 19 0, vn, vq, vq, vq] 213
abbrev ZqW : AObj := .cells [vp 1 0, vq, vs 12 0 20 20, Value.int .u32 (0 : Int), Value.int .i32 (0 : Int), Value.int .u32 (0 : Int), vn, vi (1 : Int), vq, vi (1 : Int), vq, vi (1 : Int), vq, vi (1 : Int), vq, vi (1 : Int), vq, vi (1 : Int), vq, vi (1 : Int), vq, vi (1 : Int), vq, vq, vn, vq, vq, vn, vp 13 0, vp 14 0, vq, vf, vn] 154
abbrev ZdG : AObj := .cells [vq, vq, vi (2 : Int), vq, vi (2 : Int), vq, vi (2 : Int), vq, vi (2 : Int), vq, vi (2 : Int), vq, vi (2 : Int), vq, vi (2 : Int), vq, vi (2 : Int), vq, vi (1 : Int), vq, vi (1 : Int), vq, vi (1 : Int), vq, vi (1 : Int), vq, vi (1 : Int), vq, vi (1 : Int), vq, vi (1 : Int), vq, vi (1 : Int), vq] 25
abbrev ZoW : AObj := .cells [vi (2 : Int), vi (1048594 : Int), vi (1 : Int), vi (1 : Int), vq, vf, vq, vi (2 : Int), vi (1048594 : Int), vi (2 : Int), vi (1 : Int), vq, vf, vq, vi (2 : Int), vi (1048594 : Int), vq, vi (2 : Int), vq, vf, vq, vi (2 : Int), vi (1048594 : Int), vi (-1 : Int), vq, vq, vT, vi (1 : Int)] 351
abbrev ZoX : AObj := .cells [vf, vf, vq, vq, vq, vq, vn, vn, vn, vq, vq, vq, vq, vq, vq, vq, vq, vq, vq, Value.nilFunc, Value.nilFunc, Value.nilFunc, vq, vq, vq, vq, vf, vq, vq, vq, vn, vq, Value.nilFunc, vq, vq, vq, vn, vq, vq, vq, vp 1 0, vq, Value.nilFunc, vq, vf, vq, vp 15 0, vp 16 0, vp 17 0, vn, vq, vq, vq] 213
abbrev ZqX : AObj := .cells [vf, vf, vq, vq, vq, vq, vn, vn, vn, vq, vq, vq, vq, vq, vq, vq, vq, vq, vq, Value.nilFunc, Value.nilFunc, Value.nilFunc, vq, vq, vq, vq, vf, vq, vq, vq, vn, vq, Value.nilFunc, vq, vq, vq, vn, vq, vq, vq, vp 2 0, vq, Value.nilFunc, vq, vf, vq, vp 16 0, vp 17 0, vp 18 0, vn, vq, vq, vq] 213
abbrev ZbC : AObj := .cells [vi (1 : Int), vi (1 : Int), vq, vq, vq, vq, vq, vq, vq, vq, vq, vq, vq, vq, vq, vq, vq, vq, vq, vq, vq, vq, vq, vq, vq, vq, vq, vq, vq, vq, vq, vq, vq, vq, vq, vq, vq, vq, vq, vq, vq, vq, vq, vq, vq, vq, vq, vq, vq, vq, vq, vq, vq, vq, vq, vq, vq, vq, vq, vq, vq, vq, vq, vq, vq] 190
abbrev Zmd : AObj := .cells [vi (1 : Int), vi (2 : Int), vq, vq, vq, vq, vq, vq, vq, vq, vq, vq, vq, vq, vq, vq, vq, vq, vq, vq, vq, vq, vq, vq, vq, vq, vq, vq, vq, vq, vq, vq, vq, vq, vq, vq, vq, vq, vq, vq, vq, vq, vq, vq, vq, vq, vq, vq, vq, vq, vq, vq, vq, vq, vq, vq, vq, vq, vq, vq, vq, vq, vq, vq, vq] 190
abbrev cz76 : AObj := .cells [vi (1 : Int), vq, vq, vq, vq, vq, vi (1 : Int), vq, vq, vq, vq, vq, vi (1 : Int), vq, vq, vq, vq, vq, vi (13 : Int), vq, vq, vq, vq, vi (4 : Int), vi (8 : Int), vq, vq, vq, vq, vi (4 : Int), vi (2 : Int), vq, vq, vq, vq, vi (4 : Int), vi (3 : Int), vq, vq, vq, vq, vi (4 : Int)] 65
abbrev ZiP : AObj := .cells [vi (1 : Int), vq, vq, vq, vq, vq, vq, vq, vq, vq, vq, vq, vq, vq, vq, vq, vq, vq, vq, vq, vq, vq, vq, vq, vq, vq, vq, vq, vq, vq, vq, vq, vq, vq, vq, vq, vq, vq, vq, vq, vq, vq, vq, vq, vq, vq, vq, vq, vq, vq, vq, vq, vq, vq, vq, vq, vq, vq, vq, vq, vq, vq, vq, vq, vq] 190
abbrev cz78 : AObj := .cells [vi (1 : Int), vq, vq, vq, vq, vq, vi (1 : Int), vq, vq, vq, vq, vq, vi (1 : Int), vq, vq, vq, vq, vq, vi (13 : Int), vq, vq, vq, vq, vi (4 : Int), vi (8 : Int), vq, vq, vq, vq, vi (4 : Int), vi (2 : Int), vq, vq, vq, vq, vi (4 : Int)] 65
abbrev Zbx : AObj := .cells [vi (3 : Int), vi (2 : Int), vi (1048577 : Int), vi (1 : Int), vi (13 : Int), vi (1 : Int), vq, vi (1 : Int), vq, vi (1 : Int), vq, vi (1 : Int), vq, vi (1 : Int), vi (7 : Int), vi (1 : Int), vq, vq, vq, vq, vq, vf] 259
abbrev ZsZ : AObj := .cells [vi (2 : Int), vi (1048594 : Int), vi (1 : Int), vi (1 : Int), vq, vf, vq, vi (2 : Int), vi (1048594 : Int), vi (2 : Int), vi (1 : Int), vq, vf, vq, vi (2 : Int), vi (1048594 : Int), vq, vi (2 : Int), vq, vf, vq] 351
abbrev cz81 : AObj := .cells [vi (1 : Int), vq, vq, vq, vq, vq, vi (1 : Int), vq, vq, vq, vq, vq, vi (1 : Int), vq, vq, vq, vq, vq, vi (13 : Int), vq, vq, vq, vq, vi (4 : Int), vi (8 : Int), vq, vq, vq, vq, vi (4 : Int)] 65
abbrev Zkb : AObj := .cells [vi (2 : Int), vi (1048594 : Int), vi (1 : Int), vi (1 : Int), vq, vf, vq, vi (2 : Int), vi (1048594 : Int), vi (2 : Int), vi (1 : Int), vq, vf, vq] 351
abbrev Zd1 : AObj := .cells [vi (2 : Int), vi (1048577 : Int), vi (5 : Int), vi (2 : Int), vq, vi (2 : Int), vi (1048577 : Int), vi (5 : Int), vi (2 : Int), vq] 376
abbrev Zta : AObj := .cells [vi (64 : Int), vs 21 0 1 1, Value.int .u32 (1 : Int), Value.int .i32 (0 : Int), Value.int .u32 (0 : Int), Value.map (some 22)] 240
abbrev Zf9 : AObj := .cells [vi (64 : Int), vs 22 0 1 1, Value.int .u32 (1 : Int), Value.int .i32 (0 : Int), Value.int .u32 (0 : Int), Value.map (some 23)] 240
abbrev Zkc : AObj := .cells [vi (64 : Int), vs 23 0 1 1, Value.int .u32 (1 : Int), Value.int .i32 (0 : Int), Value.int .u32 (0 : Int), Value.map (some 24)] 240
abbrev ZkZ : AObj := .cells [vi (64 : Int), vs 24 0 1 1, Value.int .u32 (1 : Int), Value.int .i32 (0 : Int), Value.int .u32 (0 : Int), Value.map (some 25)] 240
abbrev ZoY : AObj := .cells [vq, vq, vq, vq, vq, vq, vq, vq, vq, vq, vq, vq, vq, vq, vq, vq, vn, vq, vf, vf, vq, vq, vq, vq, vp 1 0, vq, Value.nilFunc] 222
abbrev Zb6 : AObj := .cells [vq, vq, vq, vq, vq, vq, vq, vq, vq, vq, vq, vq, vq, vq, vq, vq, vn, vq, vf, vf, vq, vq, vq, vq, vp 2 0, vq, Value.nilFunc] 222
abbrev ZjA : AObj := .cells [vq, vq, vq, vq, vq, vq, vq, vq, vq, vq, vq, vq, vq, vq, vq, vq, vn, vq, vf, vf, vq, vq, vq, vq, vp 3 0, vq, Value.nilFunc] 222
abbrev ZjB : AObj := .cells [vi (400 : Int), vs 11 0 21 21, vs 12 0 21 21, vn, vn, vn, vn, vn, vn, vn, vn, vn, vn, vn, vn, vn, vn, vn, vn, vn] 168
abbrev Zet : AObj := .cells [vi (64 : Int), vn, Value.int .u32 (0 : Int), Value.int .i32 (0 : Int), Value.int .u32 (0 : Int), Value.map none] 240
abbrev Zfs : AObj := .cells [vi (400 : Int), vs 9 0 17 17, vs 10 0 17 17, vn, vn, vn, vn, vn, vn, vn, vn, vn, vn, vn, vn, vn, vn, vn, vn, vn] 168
abbrev Zd2 : AObj := .cells [vi (400 : Int), vs 9 0 21 21, vs 10 0 21 21, vn, vn, vn, vn, vn, vn, vn, vn, vn, vn, vn, vn, vn, vn, vn, vn, vn] 168
abbrev ZoZ : AObj := .cells [vi (400 : Int), vs 8 0 17 17, vs 9 0 17 17, vn, vn, vn, vn, vn, vn, vn, vn, vn, vn, vn, vn, vn, vn, vn, vn, vn] 168
abbrev ZjC : AObj := .cells [vi (2 : Int), vq, vi (3 : Int), vi (4 : Int), vi (24 : Int), vi (25 : Int), vs 5 0 1 1, vq] 94
abbrev ZdH : AObj := .cells [vq, vi (1 : Int), vq, vq, vq, vq, vq, vq, vq, vq, vq, vq, vq, vq, vq, vq] 185
abbrev Zkd : AObj := .cells [vq, vi (4 : Int), vq, vq, vq, vq, vq, vq, vq, vq, vq, vq, vq, vq, vq, vq] 185
abbrev ZgO : AObj := .cells [vi (2 : Int), vi (1048577 : Int), vi (5 : Int), vi (2 : Int), vq] 376
abbrev ZM : AObj := .cells [vq, vq, vq, vq, vq, vq, vq, vq, vq, vq, vq, vq, vq, vq, vq, vq] 185
set_option maxRecDepth 100000
noncomputable def ZnA  : Zdi → Value
 | .r0 => Value.tuple #[vn, vf]
noncomputable def Zme  : Zdi → List (Option AObj)
 | .r0 => []

def ZqY : Zcs → Nat
 | .h1m0 => 1
noncomputable def ZrK  : Zcs → List (Nat × Value)
 | .h1m0 => [(0, vn), (4, Value.map (some 0)), (5, vi (-1 : Int))]
noncomputable def ZrL  : Zcs → List (Option AObj)
 | .h1m0 => [some (.ro (ZbF ([] : List RA)) true)]

noncomputable def Ziv : Nat → Code × List ZaO
 | 1 => ZaV [1, 1, 0, 1, 3] (Zbr Tryz.f4) []
 | _ => (.skip, [])
def ZqZ : Nat → Bool
 | 1 => true
 | _ => true
noncomputable def ZeH  (N : Nat) : Mach := ⟨Tryz.f4, [], Zcs, Zdi, Zgo  N, ZqY, Ziv, ZqZ, ZrK , ZrL , ZnA , Zme ⟩

theorem ZnU  (N : Nat) : (ZeH  N).Ok Tryz.prog Zw (.h1m0 : Zcs) (Zgo  N (.h1m0 : Zcs)) := by
 show (ZeH  N).Ok Tryz.prog Zw (.h1m0 : Zcs) (ZhS  N)
 unfold ZhS
 exact Mach.ok_fin (M := ZeH  N) (cd := 1000000) (cm := 0) (r := (.r0 : Zdi)) (fu := 4000) (orc := (Zr [] [] [] [] [])) (live := []) (u := Value.tuple #[vn, vf]) (bl := []) (ob := []) (fun gv => by kernel_rfl) Zi rfl (by decide) (by rfl) rr trivial

theorem ZpE  (N : Nat) : (ZeH  N).Enter Tryz.prog Zw #[vn] (Zj7  N) := by
 unfold Zj7
 exact Mach.en_head (bK := Ziv 1) (M := ZeH  N) (cd := 1000000) (cm := 0) (y := (.h1m0 : Zcs)) (fu := 4000) (orc := (Zr [] [] [] [] [])) (live := [0]) (tv := [some (vn), some (Value.map (some 0)), some (vi (-1 : Int))]) (bl := [some (.ro (ZbF ([] : List RA)) true)]) (ob := []) rfl rfl (show Zq (Ziv 1).2 = [] from rfl) (by kernel_rfl) Zi rfl (by decide) (by rfl) ⟨rr, ⟨rr, ⟨rr, trivial⟩⟩⟩ ⟨(show ZbF ([] : List RA) = ZbF ([] : List RA) from rfl), trivial⟩

theorem Zo3  (N : Nat) (r : Zdi) (h : Zjf  N = some r) : LSpec Tryz.prog 4 #[vn] [] (ZnA  r) (Zme  r) :=
 Mach.spec ZcD (ZeH  N) Tryz.func4 (by kernel_rfl) (by kernel_rfl) (fun x => by cases x <;> exact ZaI _ rfl) (fun r => by cases r <;> exact ZaI _ rfl) (fun x => by
  cases x with
  | h1m0 => exact fun _ => (show ¬ (1 ∈ Zq (Ziv 1).2) from by decide +kernel)
  ) (fun x => (show (ZeH  N).Ok Tryz.prog Zw x (Zgo  N x) from by
  cases x with
  | h1m0 => exact ZnU  N
  )) (ZpE  N) (n := N) h

noncomputable def Zra  (n : Nat) : ZcQ := .call [] (Value.tuple #[vn, vf]) [] 0
def Zmf (A : Array Value)  (n : Nat) : Prop := ZaB Tryz.prog 4 A [] (Value.tuple #[vn, vf]) [] n 0

theorem Zrb (A : Array Value)  (N : Nat) (h : Zjf  N = some (.r0)) (n : Nat) (hA : A = #[vn]) (hnd : ([] : List Nat).Nodup) (hlt : ∀ k ∈ ([] : List Nat), k < n) : Zmf A   n :=
 ZbB hA (LSpec.callL (show LSpec Tryz.prog 4 #[vn] [] (Value.tuple #[vn, vf]) [] from Zo3  N _ h) [] n [] rfl hnd hlt (show 0 ≤ 0 from by decide) (show ∀ j ∈ ([] : List Nat), j < 0 from by decide) (by rfl) trivial (by rfl) trivial trivial rfl rfl rfl rfl rfl)

noncomputable def ZnB (a0 a1 : Int) : Zdj → Value
 | .r0 => Value.tuple #[Value.agg #[vq, vq, vq, vq, vq, vq, vq, vn], vf]
noncomputable def Zmg (a0 a1 : Int) : Zdj → List (Option AObj)
 | .r0 => []

def Zrc : Zct → Nat
 | .h1m0 => 1
noncomputable def ZrM (a0 a1 : Int) : Zct → List (Nat × Value)
 | .h1m0 => [(0, vn), (3, vp 0 0), (4, vp 1 0), (6, vq)]
noncomputable def ZrN (a0 a1 : Int) : Zct → List (Option AObj)
 | .h1m0 => [some (.cells [vi a0, vi a1] 25), some (.cells [vq, vq, vq, vq, vq, vq, vq, vn] 31)]

noncomputable def Ziw : Nat → Code × List ZaO
 | 1 => ZaV [1, 0, 1, 3] (Zbr Tryz.f13) []
 | _ => (.skip, [])
def Zrd : Nat → Bool
 | 1 => true
 | _ => true
noncomputable def ZeI (a0 a1 : Int) (N : Nat) : Mach := ⟨Tryz.f13, [], Zct, Zdj, Zgp a0 a1 N, Zrc, Ziw, Zrd, ZrM a0 a1, ZrN a0 a1, ZnB a0 a1, Zmg a0 a1⟩

theorem ZnV (a0 a1 : Int) (N : Nat) : (ZeI a0 a1 N).Ok Tryz.prog Zw (.h1m0 : Zct) (Zgp a0 a1 N (.h1m0 : Zct)) := by
 show (ZeI a0 a1 N).Ok Tryz.prog Zw (.h1m0 : Zct) (ZhT a0 a1 N)
 unfold ZhT
 exact Mach.ok_fin (M := ZeI a0 a1 N) (cd := 1000000) (cm := 0) (r := (.r0 : Zdj)) (fu := 4000) (orc := (Zr [] [] [] [] [])) (live := []) (u := Value.tuple #[Value.agg #[vq, vq, vq, vq, vq, vq, vq, vn], vf]) (bl := []) (ob := []) (fun gv => by kernel_rfl) Zi rfl (by decide) (by rfl) rr trivial

theorem ZpF (a0 a1 : Int) (N : Nat) : (ZeI a0 a1 N).Enter Tryz.prog Zw #[vn, Value.agg #[vi a0, vi a1]] (Zj8 a0 a1 N) := by
 unfold Zj8
 exact Mach.en_head (bK := Ziw 1) (M := ZeI a0 a1 N) (cd := 1000000) (cm := 0) (y := (.h1m0 : Zct)) (fu := 4000) (orc := (Zr [] [] [] [] [])) (live := [0, 1]) (tv := [some (vn), some (vp 0 0), some (vp 1 0), some (vq)]) (bl := [some (.cells [vi a0, vi a1] 25), some (.cells [vq, vq, vq, vq, vq, vq, vq, vn] 31)]) (ob := []) rfl rfl (show Zq (Ziw 1).2 = [] from rfl) (by kernel_rfl) Zi rfl (by decide) (by rfl) ⟨rr, ⟨rr, ⟨rr, ⟨rr, trivial⟩⟩⟩⟩ ⟨sm, ⟨sm, trivial⟩⟩

theorem Zo4 (a0 a1 : Int) (N : Nat) (r : Zdj) (h : ZkY a0 a1 N = some r) : LSpec Tryz.prog 13 #[vn, Value.agg #[vi a0, vi a1]] [] (ZnB a0 a1 r) (Zmg a0 a1 r) :=
 Mach.spec ZcD (ZeI a0 a1 N) Tryz.func13 (by kernel_rfl) (by kernel_rfl) (fun x => by cases x <;> exact ZaI _ rfl) (fun r => by cases r <;> exact ZaI _ rfl) (fun x => by
  cases x with
  | h1m0 => exact fun _ => (show ¬ (1 ∈ Zq (Ziw 1).2) from by decide +kernel)
  ) (fun x => (show (ZeI a0 a1 N).Ok Tryz.prog Zw x (Zgp a0 a1 N x) from by
  cases x with
  | h1m0 => exact ZnV a0 a1 N
  )) (ZpF a0 a1 N) (n := N) h

noncomputable def Zre (a0 a1 : Int) (n : Nat) : ZcQ := .call [] (Value.tuple #[Value.agg #[vq, vq, vq, vq, vq, vq, vq, vn], vf]) [] 0
def Zmh (A : Array Value) (a0 a1 : Int) (n : Nat) : Prop := ZaB Tryz.prog 13 A [] (Value.tuple #[Value.agg #[vq, vq, vq, vq, vq, vq, vq, vn], vf]) [] n 0

theorem Zrf (A : Array Value) (a0 a1 : Int) (N : Nat) (h : ZkY a0 a1 N = some (.r0)) (n : Nat) (hA : A = #[vn, Value.agg #[vi a0, vi a1]]) (hnd : ([] : List Nat).Nodup) (hlt : ∀ k ∈ ([] : List Nat), k < n) : Zmh A a0 a1  n :=
 ZbB hA (LSpec.callL (show LSpec Tryz.prog 13 #[vn, Value.agg #[vi a0, vi a1]] [] (Value.tuple #[Value.agg #[vq, vq, vq, vq, vq, vq, vq, vn], vf]) [] from Zo4 a0 a1 N _ h) [] n [] rfl hnd hlt (show 0 ≤ 0 from by decide) (show ∀ j ∈ ([] : List Nat), j < 0 from by decide) (by rfl) trivial (by rfl) trivial trivial rfl rfl rfl rfl rfl)

noncomputable def Zmi  : Zfb → Value
 | .r0 => Value.tuple #[vn, vf]
noncomputable def Zlm  : Zfb → List (Option AObj)
 | .r0 => []

theorem Zpa  (N : Nat) : Fx Tryz.prog Zw Tryz.f5 [] #[vn] (Zmi ) (Zlm ) (Zf3  N) := by
 unfold Zf3
 refine ZoT (fun z0 c0 => ?_)
 cases z0 with
 | r0 =>
  exact ZqR (r := (.r0 : Zfb)) (fu := 4000) (orc := (Zr [] [] [] [] [(0, (Zre ((2 : Int)) ((1048577 : Int))    0))])) (live := []) (u := Value.tuple #[vn, vf]) (bl := []) (ob := [(dP (Zmh #[vn, Value.agg #[vi (2 : Int), vi (1048577 : Int)]] ((2 : Int)) ((1048577 : Int))    0), true)]) (by kernel_rfl) (Zc (Zl (Zrf #[vn, Value.agg #[vi (2 : Int), vi (1048577 : Int)]] ((2 : Int)) ((1048577 : Int))   N c0  0 rfl (by decide) (by decide))) Zi) rfl (by decide) (by rfl) rr trivial

theorem ZnW  (N : Nat) (r : Zfb) (h : Zf3  N = some r) : LSpec Tryz.prog 5 #[vn] [] (Zmi  r) (Zlm  r) :=
 ZoU ZcD Tryz.func5 (by kernel_rfl) (by kernel_rfl) (fun r => by cases r <;> exact ZaI _ rfl) (Zpa  N) h

noncomputable def ZpG  (n : Nat) : ZcQ := .call [] (Value.tuple #[vn, vf]) [] 0
def Zln (A : Array Value)  (n : Nat) : Prop := ZaB Tryz.prog 5 A [] (Value.tuple #[vn, vf]) [] n 0

theorem ZpH (A : Array Value)  (N : Nat) (h : Zf3  N = some (.r0)) (n : Nat) (hA : A = #[vn]) (hnd : ([] : List Nat).Nodup) (hlt : ∀ k ∈ ([] : List Nat), k < n) : Zln A   n :=
 ZbB hA (LSpec.callL (show LSpec Tryz.prog 5 #[vn] [] (Value.tuple #[vn, vf]) [] from ZnW  N _ h) [] n [] rfl hnd hlt (show 0 ≤ 0 from by decide) (show ∀ j ∈ ([] : List Nat), j < 0 from by decide) (by rfl) trivial (by rfl) trivial trivial rfl rfl rfl rfl rfl)

noncomputable def ZjD  : ZbO → Value
 | .r0 => vT
noncomputable def ZiQ  : ZbO → List (Option AObj)
 | .r0 => []

def Znj : Zbj → Nat
 | .h1m0 => 1
noncomputable def ZnX  : Zbj → List (Nat × Value)
 | .h1m0 => [(0, vn), (1, vn), (5, vq)]
noncomputable def ZnY  : Zbj → List (Option AObj)
 | .h1m0 => []

noncomputable def Zft : Nat → Code × List ZaO
 | 1 => ZaV [1, 1, 0, 1, 3] (Zbr Tryz.f6) []
 | _ => (.skip, [])
def Znk : Nat → Bool
 | 1 => true
 | _ => true
noncomputable def ZcX  (N : Nat) : Mach := ⟨Tryz.f6, [], Zbj, ZbO, Zeh  N, Znj, Zft, Znk, ZnX , ZnY , ZjD , ZiQ ⟩

theorem Zk0  (N : Nat) : (ZcX  N).Ok Tryz.prog Zw (.h1m0 : Zbj) (Zeh  N (.h1m0 : Zbj)) := by
 show (ZcX  N).Ok Tryz.prog Zw (.h1m0 : Zbj) (Zfr  N)
 unfold Zfr
 exact Mach.ok_fin (M := ZcX  N) (cd := 1000000) (cm := 0) (r := (.r0 : ZbO)) (fu := 4000) (orc := (Zr [] [] [] [] [])) (live := []) (u := vT) (bl := []) (ob := []) (fun gv => by kernel_rfl) Zi rfl (by decide) (by rfl) rr trivial

theorem Zmj  (N : Nat) : (ZcX  N).Enter Tryz.prog Zw #[vn, vn] (Zgy  N) := by
 unfold Zgy
 exact Mach.en_head (bK := Zft 1) (M := ZcX  N) (cd := 1000000) (cm := 0) (y := (.h1m0 : Zbj)) (fu := 4000) (orc := (Zr [] [] [] [] [])) (live := []) (tv := [some (vn), some (vn), some (vq)]) (bl := []) (ob := []) rfl rfl (show Zq (Zft 1).2 = [] from rfl) (by kernel_rfl) Zi rfl (by decide) (by rfl) ⟨rr, ⟨rr, ⟨rr, trivial⟩⟩⟩ trivial

theorem Zla  (N : Nat) (r : ZbO) (h : ZcK  N = some r) : LSpec Tryz.prog 6 #[vn, vn] [] (ZjD  r) (ZiQ  r) :=
 Mach.spec ZcD (ZcX  N) Tryz.func6 (by kernel_rfl) (by kernel_rfl) (fun x => by cases x <;> exact ZaI _ rfl) (fun r => by cases r <;> exact ZaI _ rfl) (fun x => by
  cases x with
  | h1m0 => exact fun _ => (show ¬ (1 ∈ Zq (Zft 1).2) from by decide +kernel)
  ) (fun x => (show (ZcX  N).Ok Tryz.prog Zw x (Zeh  N x) from by
  cases x with
  | h1m0 => exact Zk0  N
  )) (Zmj  N) (n := N) h

noncomputable def ZdO  (n : Nat) : ZcQ := .call [] (vT) [] 0
def Zdv (A : Array Value)  (n : Nat) : Prop := ZaB Tryz.prog 6 A [] (vT) [] n 0

theorem ZdP (A : Array Value)  (N : Nat) (h : ZcK  N = some (.r0)) (n : Nat) (hA : A = #[vn, vn]) (hnd : ([] : List Nat).Nodup) (hlt : ∀ k ∈ ([] : List Nat), k < n) : Zdv A   n :=
 ZbB hA (LSpec.callL (show LSpec Tryz.prog 6 #[vn, vn] [] (vT) [] from Zla  N _ h) [] n [] rfl hnd hlt (show 0 ≤ 0 from by decide) (show ∀ j ∈ ([] : List Nat), j < 0 from by decide) (by rfl) trivial (by rfl) trivial trivial rfl rfl rfl rfl rfl)

noncomputable def Zmk  : ZD → Value
 | .r0 => vT
noncomputable def Zlo  : ZD → List (Option AObj)
 | .r0 => []

noncomputable def Zn : FuncId → Option Ext := fun f => bif Nat.beq f 6 || Nat.beq f 4 || Nat.beq f 10 || Nat.beq f 38 || Nat.beq f 23 then none else Zw f
theorem Zo5 : Fit Tryz.prog Zn := Zu3 ZcD _

def ZpI : Ze → Nat
 | .h1m0 => 1
 | .h2m0 => 2
 | .h3m0 => 3
 | .h4m0 => 4
 | .h5m0 => 5
 | .h5m1 => 5
 | .h5m2 => 5
 | .h5m3 => 5
 | .h5m4 => 5
 | .h5m5 => 5
 | .h5m6 => 5
 | .h5m7 => 5
 | .h5m8 => 5
 | .h5m9 => 5
 | .h5m10 => 5
 | .h5m11 => 5
 | .h5m12 => 5
 | .h5m13 => 5
 | .h5m14 => 5
 | .h5m15 => 5
 | .h5m16 => 5
 | .h5m17 => 5
 | .h5m18 => 5
 | .h5m19 => 5
 | .h5m20 => 5
 | .h5m21 => 5
 | .h5m22 => 5
 | .h5m23 => 5
 | .h5m24 => 5
 | .h5m25 => 5
 | .h5m26 => 5
 | .h5m27 => 5
 | .h5m28 => 5
 | .h5m29 => 5
 | .h5m30 => 5
noncomputable def Zrg  : Ze → List (Nat × Value)
 | .h1m0 => []
 | .h2m0 => [(1, vs 0 0 20 20), (2, vq)]
 | .h3m0 => [(2, vq), (3, vp 0 0), (4, vq)]
 | .h4m0 => [(2, vq), (3, vp 0 0), (4, vq), (6, vi (240 : Int))]
 | .h5m0 => [(3, vp 0 0), (7, vq)]
 | .h5m1 => [(3, vp 0 0), (7, vi (1 : Int))]
 | .h5m2 => [(3, vp 0 0), (7, vi (2 : Int))]
 | .h5m3 => [(3, vp 0 0), (7, vi (3 : Int))]
 | .h5m4 => [(3, vp 0 0), (7, vi (4 : Int))]
 | .h5m5 => [(3, vp 0 0), (7, vi (5 : Int))]
 | .h5m6 => [(3, vp 0 0), (7, vi (6 : Int))]
 | .h5m7 => [(3, vp 0 0), (7, vi (7 : Int))]
 | .h5m8 => [(3, vp 0 0), (7, vi (8 : Int))]
 | .h5m9 => [(3, vp 0 0), (7, vi (9 : Int))]
 | .h5m10 => [(3, vp 0 0), (7, vi (10 : Int))]
 | .h5m11 => [(3, vp 0 0), (7, vi (11 : Int))]
 | .h5m12 => [(3, vp 0 0), (7, vi (12 : Int))]
 | .h5m13 => [(3, vp 0 0), (7, vi (13 : Int))]
 | .h5m14 => [(3, vp 0 0), (7, vi (14 : Int))]
 | .h5m15 => [(3, vp 0 0), (7, vi (15 : Int))]
 | .h5m16 => [(3, vp 0 0), (7, vi (16 : Int))]
 | .h5m17 => [(3, vp 0 0), (7, vi (17 : Int))]
 | .h5m18 => [(3, vp 0 0), (7, vi (18 : Int))]
 | .h5m19 => [(3, vp 0 0), (7, vi (19 : Int))]
 | .h5m20 => [(3, vp 0 0), (7, vi (20 : Int))]
 | .h5m21 => [(3, vp 0 0), (7, vi (21 : Int))]
 | .h5m22 => [(3, vp 0 0), (7, vi (22 : Int))]
 | .h5m23 => [(3, vp 0 0), (7, vi (23 : Int))]
 | .h5m24 => [(3, vp 0 0), (7, vi (24 : Int))]
 | .h5m25 => [(3, vp 0 0), (7, vi (25 : Int))]
 | .h5m26 => [(3, vp 0 0), (7, vi (26 : Int))]
 | .h5m27 => [(3, vp 0 0), (7, vi (27 : Int))]
 | .h5m28 => [(3, vp 0 0), (7, vi (28 : Int))]
 | .h5m29 => [(3, vp 0 0), (7, vi (29 : Int))]
 | .h5m30 => [(3, vp 0 0), (7, vi (30 : Int))]
noncomputable def Zrh  : Ze → List (Option AObj)
 | .h1m0 => []
 | .h2m0 => [some ZaD]
 | .h3m0 => [some (.cells [vn, vn, vp 1 0, vs 2 0 1 1] 86), some ZoV, some (.cells [vp 7 0] 87), some ZoZ, some (.cells [vs 10 0 16 16, vs 11 0 16 16] 182), some (.cells [vi (1073741824 : Int), vq, vq] 187), some ZiP, some ZqW, some ZdF, some ZdG, some ZM, some ZM, some ZaD, some ZoX, some ZoY, some Zet, some (.cells [vi (64 : Int), vn] 243), some (.cells [vT, vn] 247)]
 | .h4m0 => [some (.cells [vn, vn, vp 1 0, vs 2 0 1 1] 86), some ZoV, some (.cells [vp 7 0] 87), some ZoZ, some (.cells [vs 10 0 16 16, vs 11 0 16 16] 182), some (.cells [vi (1073741824 : Int), vq, vq] 187), some ZiP, some ZqW, some ZdF, some ZdG, some ZM, some ZM, some ZaD, some ZoX, some ZoY, some Zet, some (.cells [vi (64 : Int), vn] 243), some (.cells [vT, vn] 247)]
 | .h5m0 => [some (.cells [vn, vn, vp 1 0, vs 2 0 1 1] 86), some ZoV, some (.cells [vp 7 0] 87), some ZoZ, some (.cells [vs 10 0 16 16, vs 11 0 16 16] 182), some (.cells [vi (1073741824 : Int), vq, vq] 187), some ZiP, some ZqW, some ZdF, some ZdG, some ZM, some ZM, some ZaD, some ZoX, some ZoY, some Zet, some (.cells [vi (64 : Int), vn] 243), some (.cells [vT, vn] 247)]
 | .h5m1 => [some (.cells [vs 1 0 1 1, vn, vp 2 0, vs 3 0 1 1] 86), some (.cells [vi (1 : Int), vq, vq, vq, vq, vq] 65), some ZqU, some (.cells [vp 8 0] 87), some Zfs, some (.cells [vs 11 0 16 16, vs 12 0 16 16] 182), some (.cells [vi (1073741824 : Int), vq, vq] 187), some ZiP, some (.cells [vp 2 0, vq, vs 13 0 20 20, Value.int .u32 (0 : Int), Value.int .i32 (0 : Int), Value.int .u32 (0 : Int), vn, vi (2 : Int), vi (1048577 : Int), vi (1 : Int), vq, vi (1 : Int), vq, vi (1 : Int), vq, vi (1 : Int), vq, vi (1 : Int), vq, vi (1 : Int), vq, vi (1 : Int), vq, vi (1 : Int), vn, vq, vq, vn, vp 14 0, vp 15 0, vq, vf, vn] 154), some ZdF, some ZdG, some ZM, some ZM, some ZaD, some ZqX, some Zb6, some Zet, some (.cells [vi (64 : Int), vn] 243), some (.cells [vT, vn] 247)]
 | .h5m2 => [some (.cells [vs 1 0 2 2, vn, vp 2 0, vs 3 0 1 1] 86), some (.cells [vi (1 : Int), vq, vq, vq, vq, vq, vi (1 : Int), vq, vq, vq, vq, vq] 65), some ZqU, some (.cells [vp 8 0] 87), some Zfs, some (.cells [vs 11 0 16 16, vs 12 0 16 16] 182), some (.cells [vi (1073741824 : Int), vq, vq] 187), some ZiP, some cz67, some ZdF, some ZdG, some ZM, some ZM, some ZaD, some ZqX, some Zb6, some Zet, some (.cells [vi (64 : Int), vn] 243), some (.cells [vT, vn] 247)]
 | .h5m3 => [some (.cells [vs 1 0 3 3, vn, vp 2 0, vs 3 0 1 1] 86), some (.cells [vi (1 : Int), vq, vq, vq, vq, vq, vi (1 : Int), vq, vq, vq, vq, vq, vi (1 : Int), vq, vq, vq, vq, vq] 65), some ZqU, some (.cells [vp 8 0] 87), some Zfs, some (.cells [vs 11 0 16 16, vs 12 0 16 16] 182), some (.cells [vi (1073741824 : Int), vq, vq] 187), some ZiP, some cz66, some ZdF, some ZdG, some ZM, some ZM, some ZaD, some ZqX, some Zb6, some Zet, some (.cells [vi (64 : Int), vn] 243), some (.cells [vT, vn] 247)]
 | .h5m4 => [some (.cells [vs 1 0 4 4, vn, vp 2 0, vs 3 0 1 1] 86), some (.cells [vi (1 : Int), vq, vq, vq, vq, vq, vi (1 : Int), vq, vq, vq, vq, vq, vi (1 : Int), vq, vq, vq, vq, vq, vi (13 : Int), vq, vq, vq, vq, vi (4 : Int)] 65), some Zcg, some (.cells [vp 8 0] 87), some Zfs, some (.cells [vs 11 0 16 16, vs 12 0 16 16] 182), some (.cells [vi (1073741824 : Int), vq, vi (1 : Int)] 187), some ZbC, some (.cells [vp 2 0, vq, vs 13 0 20 20, Value.int .u32 (0 : Int), Value.int .i32 (0 : Int), Value.int .u32 (0 : Int), vn, vi (2 : Int), vi (1048577 : Int), vi (1 : Int), vi (13 : Int), vi (1 : Int), vq, vi (1 : Int), vq, vi (1 : Int), vq, vi (1 : Int), vq, vi (1 : Int), vi (7 : Int), vi (1 : Int), vq, vi (3 : Int), vn, vq, vq, vs 14 0 1 1, vp 15 0, vp 16 0, vi (4 : Int), vf, vn] 154), some ZdF, some ZdG, some ZM, some ZM, some ZaD, some Zbx, some (.cells [vT, vf, vq, vi (4 : Int), vq, vq, vn, vn, vn, vq, vq, vq, vq, vq, vq, vq, vq, vq, vq, Value.nilFunc, Value.nilFunc, Value.nilFunc, vq, vq, vq, vq, vf, vq, vq, vq, vn, vq, Value.nilFunc, vq, vq, vq, vn, vq, vq, vq, vp 2 0, vq, Value.func (.func 209) #[vp 15 0] #[], vq, vf, vi (1 : Int), vp 17 0, vp 18 0, vp 19 0, vn, vq, vq, vq] 213), some Zb6, some Zet, some (.cells [vi (64 : Int), vn] 243), some (.cells [vT, vn] 247)]
 | .h5m5 => [some (.cells [vs 1 0 5 5, vn, vp 2 0, vs 3 0 1 1] 86), some cz81, some Zcg, some (.cells [vp 8 0] 87), some Zfs, some (.cells [vs 11 0 16 16, vs 12 0 16 16] 182), some (.cells [vi (1073741824 : Int), vq, vi (1 : Int)] 187), some ZbC, some Zmc, some ZdF, some ZdG, some ZM, some ZM, some ZaD, some Zbx, some cz68, some Zb6, some Zet, some (.cells [vi (64 : Int), vn] 243), some (.cells [vT, vn] 247)]
 | .h5m6 => [some (.cells [vs 1 0 6 6, vn, vp 2 0, vs 3 0 1 1] 86), some cz78, some Zcg, some (.cells [vp 8 0] 87), some Zfs, some (.cells [vs 11 0 16 16, vs 12 0 16 16] 182), some (.cells [vi (1073741824 : Int), vq, vi (1 : Int)] 187), some ZbC, some Zmc, some ZdF, some ZdG, some ZM, some ZM, some ZaD, some Zbx, some cz40, some Zb6, some Zet, some (.cells [vi (64 : Int), vn] 243), some (.cells [vT, vn] 247)]
 | .h5m7 => [some (.cells [vs 1 0 7 7, vn, vp 2 0, vs 3 0 1 1] 86), some cz76, some Zcg, some (.cells [vp 8 0] 87), some Zfs, some (.cells [vs 11 0 16 16, vs 12 0 16 16] 182), some (.cells [vi (1073741824 : Int), vq, vi (1 : Int)] 187), some ZbC, some Zmc, some ZdF, some ZdG, some ZM, some ZM, some ZaD, some Zbx, some cz41, some Zb6, some Zet, some (.cells [vi (64 : Int), vn] 243), some (.cells [vT, vn] 247)]
 | .h5m8 => [some (.cells [vs 1 0 8 8, vn, vp 2 0, vs 3 0 1 1] 86), some cz64, some Zcg, some (.cells [vp 8 0] 87), some Zfs, some (.cells [vs 11 0 16 16, vs 12 0 16 16] 182), some (.cells [vi (1073741824 : Int), vq, vi (1 : Int)] 187), some ZbC, some Zmc, some ZdF, some ZdG, some ZM, some ZM, some ZaD, some Zbx, some cz38, some Zb6, some Zet, some (.cells [vi (64 : Int), vn] 243), some (.cells [vT, vn] 247)]
 | .h5m9 => [some (.cells [vs 1 0 9 9, vn, vp 2 0, vs 3 0 1 1] 86), some cz46, some Zcg, some (.cells [vp 8 0] 87), some Zfs, some (.cells [vs 11 0 16 16, vs 12 0 16 16] 182), some (.cells [vi (1073741824 : Int), vq, vi (1 : Int)] 187), some ZbC, some cz61, some ZdF, some ZdG, some ZM, some ZM, some ZaD, some Zbx, some Zu6, some Zb6, some ZgO, some Zta, some (.cells [vi (64 : Int), vn] 243), some (.cells [vT, vn] 247), some (.cells [vi (1 : Int), vq] 254), some (.ro (Zaq ([(⟨(1 : Int), (0 : Int)⟩ : R_ii)] : List R_ii)) true)]
 | .h5m10 => [some (.cells [vs 1 0 10 10, vn, vp 2 0, vs 3 0 1 1] 86), some cz43, some Zcg, some (.cells [vp 8 0] 87), some Zfs, some (.cells [vs 11 0 16 16, vs 12 0 16 16] 182), some (.cells [vi (1073741824 : Int), vq, vi (1 : Int)] 187), some ZbC, some cz59, some ZdF, some ZdG, some ZM, some ZM, some ZaD, some Zbx, some Zu6, some Zb6, some ZgO, some Zta, some (.cells [vi (64 : Int), vn] 243), some (.cells [vT, vn] 247), some (.cells [vi (1 : Int), vq] 254), some (.ro (Zaq ([(⟨(1 : Int), (0 : Int)⟩ : R_ii)] : List R_ii)) true)]
 | .h5m11 => [some (.cells [vs 1 0 11 11, vn, vp 2 0, vs 3 0 1 1] 86), some cz30, some Zcg, some (.cells [vp 8 0] 87), some Zd2, some (.cells [vs 11 0 16 16, vs 12 0 16 16] 182), some (.cells [vi (1073741824 : Int), vq, vi (1 : Int)] 187), some ZbC, some cz49, some Zf8, some cz65, some ZM, some ZM, some ZaD, some Zbx, some (.cells [vT, vf, vq, vi (4 : Int), vi (5 : Int), vq, vs 17 0 1 1, vs 18 0 1 1, vn, vq, vq, vq, vq, vq, vi (3 : Int), vi (1 : Int), vq, vq, vq, Value.nilFunc, Value.nilFunc, Value.nilFunc, vq, vq, vq, vq, vf, vq, vq, vq, vn, vq, Value.nilFunc, vq, vq, vq, vn, vq, vq, vq, vp 2 0, vq, Value.nilFunc, vq, vT, vi (1 : Int), vp 19 0, vp 20 0, vp 21 0, vn, vi (2 : Int), vi (1048594 : Int), vq] 213), some Zb6, some ZgO, some (.cells [vi (2 : Int), vi (1048594 : Int)] 25), some Zf9, some (.cells [vi (64 : Int), vn] 243), some (.cells [vT, vn] 247), some (.cells [vi (1 : Int), vq] 254), some (.ro (Zaq ([(⟨(1 : Int), (0 : Int)⟩ : R_ii)] : List R_ii)) true)]
 | .h5m12 => [some (.cells [vs 1 0 12 12, vn, vp 2 0, vs 3 0 1 1] 86), some cz25, some Zcg, some (.cells [vp 8 0] 87), some Zd2, some (.cells [vs 11 0 16 16, vs 12 0 16 16] 182), some (.cells [vi (1073741824 : Int), vq, vi (1 : Int)] 187), some ZbC, some cz50, some Zf8, some cz62, some ZM, some ZM, some ZaD, some Zbx, some cz36, some Zb6, some ZgO, some (.cells [vi (2 : Int), vi (1048594 : Int)] 25), some Zf9, some (.cells [vi (64 : Int), vs 24 0 1 1] 243), some (.cells [vT, vn] 247), some (.cells [vi (1 : Int), vq] 254), some (.ro (Zaq ([(⟨(1 : Int), (0 : Int)⟩ : R_ii)] : List R_ii)) true), some (.cells [vi (2 : Int), vi (1048594 : Int), vi (1 : Int), vi (1 : Int), vq, vf, vq] 351)]
 | .h5m13 => [some (.cells [vs 1 0 13 13, vn, vp 2 0, vs 3 0 1 1] 86), some cz24, some Zcg, some (.cells [vp 8 0] 87), some Zd2, some (.cells [vs 11 0 16 16, vs 12 0 16 16] 182), some (.cells [vi (1073741824 : Int), vq, vi (1 : Int)] 187), some ZbC, some Zmb, some Zf8, some Zfc, some ZM, some ZM, some ZaD, some Zbx, some cz37, some Zb6, some ZgO, some (.cells [vi (2 : Int), vi (1048594 : Int)] 25), some Zf9, some (.cells [vi (64 : Int), vs 24 0 2 2] 243), some (.cells [vT, vn] 247), some (.cells [vi (1 : Int), vq] 254), some (.ro (Zaq ([(⟨(1 : Int), (0 : Int)⟩ : R_ii)] : List R_ii)) true), some Zkb]
 | .h5m14 => [some (.cells [vs 1 0 14 14, vn, vp 2 0, vs 3 0 1 1] 86), some cz23, some Zcg, some (.cells [vp 8 0] 87), some Zd2, some (.cells [vs 11 0 16 16, vs 12 0 16 16] 182), some (.cells [vi (1073741824 : Int), vq, vi (1 : Int)] 187), some ZbC, some Zmb, some Zf8, some Zfc, some ZM, some ZM, some ZaD, some Zbx, some cz32, some Zb6, some ZgO, some (.cells [vi (2 : Int), vi (1048594 : Int)] 25), some Zf9, some (.cells [vi (64 : Int), vs 24 0 2 2] 243), some (.cells [vT, vn] 247), some (.cells [vi (1 : Int), vq] 254), some (.ro (Zaq ([(⟨(1 : Int), (0 : Int)⟩ : R_ii)] : List R_ii)) true), some Zkb]
 | .h5m15 => [some (.cells [vs 1 0 15 15, vn, vp 2 0, vs 3 0 1 1] 86), some cz22, some Zcg, some (.cells [vp 8 0] 87), some Zd2, some (.cells [vs 11 0 16 16, vs 12 0 16 16] 182), some (.cells [vi (1073741824 : Int), vq, vi (1 : Int)] 187), some ZbC, some Zmb, some Zf8, some Zfc, some ZM, some ZM, some ZaD, some Zbx, some cz33, some Zb6, some ZgO, some (.cells [vi (2 : Int), vi (1048594 : Int)] 25), some Zf9, some (.cells [vi (64 : Int), vs 24 0 2 2] 243), some (.cells [vT, vn] 247), some (.cells [vi (1 : Int), vq] 254), some (.ro (Zaq ([(⟨(1 : Int), (0 : Int)⟩ : R_ii)] : List R_ii)) true), some Zkb]
 | .h5m16 => [some (.cells [vs 1 0 16 16, vn, vp 2 0, vs 3 0 1 1] 86), some cz21, some Zcg, some (.cells [vp 8 0] 87), some Zd2, some (.cells [vs 11 0 16 16, vs 12 0 16 16] 182), some (.cells [vi (1073741824 : Int), vq, vi (1 : Int)] 187), some ZbC, some Zmb, some Zf8, some Zfc, some ZM, some ZM, some ZaD, some Zbx, some cz29, some Zb6, some ZgO, some (.cells [vi (2 : Int), vi (1048594 : Int)] 25), some Zf9, some (.cells [vi (64 : Int), vs 24 0 2 2] 243), some (.cells [vT, vn] 247), some (.cells [vi (1 : Int), vq] 254), some (.ro (Zaq ([(⟨(1 : Int), (0 : Int)⟩ : R_ii)] : List R_ii)) true), some Zkb]
 | .h5m17 => [some (.cells [vs 1 0 17 17, vn, vp 2 0, vs 3 0 1 1] 86), some cz20, some Zcg, some (.cells [vp 8 0] 87), some Zd2, some (.cells [vs 11 0 16 16, vs 12 0 16 16] 182), some (.cells [vi (1073741824 : Int), vq, vi (1 : Int)] 187), some ZbC, some cz52, some Zf8, some Zfc, some ZM, some ZM, some ZaD, some Zbx, some (.cells [vT, vf, vq, vi (4 : Int), vi (5 : Int), vq, vs 17 0 2 2, vs 18 0 1 1, vn, vi (2 : Int), vi (1048577 : Int), vi (5 : Int), vq, vq, vq, vq, vq, vq, vq, Value.func (.func 181) #[vp 15 0] #[], Value.func (.func 182) #[vp 15 0] #[], Value.func (.func 182) #[vp 15 0] #[], vi (1 : Int), vq, vq, vq, vf, vi (2 : Int), vq, vq, vn, vq, Value.nilFunc, vq, vq, vq, vn, vq, vq, vq, vp 2 0, vq, Value.nilFunc, vq, vT, vi (1 : Int), vp 19 0, vp 20 0, vp 21 0, vn, vi (2 : Int), vq, vq] 213), some Zb6, some Zd1, some (.cells [vi (2 : Int), vi (1048594 : Int)] 25), some Zf9, some (.cells [vi (64 : Int), vs 24 0 2 2] 243), some (.cells [vT, vn] 247), some (.cells [vi (1 : Int), vq] 254), some (.ro (Zaq ([(⟨(1 : Int), (0 : Int)⟩ : R_ii)] : List R_ii)) true), some Zkb]
 | .h5m18 => [some (.cells [vs 1 0 18 18, vn, vp 2 0, vs 3 0 1 1] 86), some cz12, some Zcg, some (.cells [vp 8 0] 87), some Zd2, some (.cells [vs 11 0 16 16, vs 12 0 16 16] 182), some (.cells [vi (1073741824 : Int), vq, vi (1 : Int)] 187), some ZbC, some Zka, some Zf8, some Zfc, some ZM, some ZM, some ZaD, some Zbx, some cz42, some Zb6, some Zd1, some (.cells [vi (2 : Int), vi (1048594 : Int)] 25), some Zf9, some (.cells [vi (64 : Int), vs 24 0 3 3] 243), some (.cells [vT, vn] 247), some (.cells [vi (1 : Int), vq] 254), some (.ro (Zaq ([(⟨(1 : Int), (0 : Int)⟩ : R_ii)] : List R_ii)) true), some ZsZ]
 | .h5m19 => [some (.cells [vs 1 0 19 19, vn, vp 2 0, vs 3 0 1 1] 86), some cz11, some Zcg, some (.cells [vp 8 0] 87), some Zd2, some (.cells [vs 11 0 16 16, vs 12 0 16 16] 182), some (.cells [vi (1073741824 : Int), vq, vi (1 : Int)] 187), some ZbC, some Zka, some Zf8, some Zfc, some ZM, some ZM, some ZaD, some Zbx, some (.cells [vT, vf, vq, vi (4 : Int), vi (5 : Int), vq, vs 17 0 2 2, vs 18 0 1 1, vn, vi (2 : Int), vi (1048577 : Int), vi (5 : Int), vi (2 : Int), vi (1048594 : Int), vq, vq, vq, vq, vq, Value.func (.func 184) #[vp 15 0] #[], Value.func (.func 184) #[vp 15 0] #[], Value.func (.func 179) #[vp 15 0] #[], vi (1 : Int), vq, vq, vq, vf, vq, vq, vq, vs 19 0 1 1, vq, Value.nilFunc, vq, vq, vq, vn, vq, vq, vq, vp 2 0, vq, Value.func (.func 240) #[vp 15 0] #[], vq, vT, vi (1 : Int), vp 20 0, vp 21 0, vp 22 0, vn, vi (2 : Int), vq, vq] 213), some Zb6, some Zd1, some (.cells [vi (2 : Int), vi (1048594 : Int)] 25), some (.cells [vi (2 : Int), vi (1048594 : Int)] 25), some Zkc, some (.cells [vi (64 : Int), vs 25 0 3 3] 243), some (.cells [vT, vn] 247), some (.cells [vi (1 : Int), vq] 254), some (.ro (Zaq ([(⟨(1 : Int), (0 : Int)⟩ : R_ii)] : List R_ii)) true), some ZsZ]
 | .h5m20 => [some (.cells [vs 1 0 20 20, vn, vp 2 0, vs 3 0 1 1] 86), some cz10, some Zcg, some (.cells [vp 8 0] 87), some Zd2, some (.cells [vs 11 0 16 16, vs 12 0 16 16] 182), some (.cells [vi (1073741824 : Int), vq, vi (1 : Int)] 187), some ZbC, some Zka, some Zes, some Zfc, some ZM, some ZM, some ZaD, some Zbx, some cz26, some Zb6, some Zd1, some (.cells [vi (2 : Int), vi (1048594 : Int)] 25), some (.cells [vi (2 : Int), vi (1048594 : Int)] 25), some Zkc, some (.cells [vi (64 : Int), vs 25 0 4 4] 243), some (.cells [vT, vn] 247), some (.cells [vi (1 : Int), vq] 254), some (.ro (Zaq ([(⟨(1 : Int), (0 : Int)⟩ : R_ii)] : List R_ii)) true), some ZoW]
 | .h5m21 => [some (.cells [vs 1 0 21 21, vn, vp 2 0, vs 3 0 1 1] 86), some cz9, some Zcg, some (.cells [vp 8 0] 87), some Zd2, some (.cells [vs 11 0 16 16, vs 12 0 16 16] 182), some (.cells [vi (1073741824 : Int), vq, vi (1 : Int)] 187), some ZbC, some Zka, some Zes, some Zfc, some ZM, some ZM, some ZaD, some Zbx, some cz27, some Zb6, some Zd1, some (.cells [vi (2 : Int), vi (1048594 : Int)] 25), some (.cells [vi (2 : Int), vi (1048594 : Int)] 25), some Zkc, some (.cells [vi (64 : Int), vs 25 0 4 4] 243), some (.cells [vT, vn] 247), some (.cells [vi (1 : Int), vq] 254), some (.ro (Zaq ([(⟨(1 : Int), (0 : Int)⟩ : R_ii)] : List R_ii)) true), some ZoW]
 | .h5m22 => [some (.cells [vs 1 0 22 22, vn, vp 2 0, vs 3 0 1 1] 86), some cz8, some Zcg, some (.cells [vp 8 0] 87), some Zd2, some (.cells [vs 11 0 16 16, vs 12 0 16 16] 182), some (.cells [vi (1073741824 : Int), vq, vi (1 : Int)] 187), some ZbC, some Zka, some Zes, some Zfc, some ZdH, some ZdH, some ZaD, some Zbx, some cz28, some Zb6, some Zd1, some (.cells [vi (2 : Int), vi (1048594 : Int)] 25), some (.cells [vi (2 : Int), vi (1048594 : Int)] 25), some Zkc, some (.cells [vi (64 : Int), vs 25 0 4 4] 243), some (.cells [vT, vs 26 0 1 1] 247), some (.cells [vi (1 : Int), vq] 254), some (.ro (Zaq ([(⟨(1 : Int), (0 : Int)⟩ : R_ii)] : List R_ii)) true), some ZoW, some (.cells [vi (1 : Int), vq] 254)]
 | .h5m23 => [some (.cells [vs 1 0 23 23, vn, vp 2 0, vs 3 0 1 1] 86), some cz7, some Zcg, some (.cells [vp 8 0] 87), some Zd2, some (.cells [vs 11 0 16 16, vs 12 0 16 16] 182), some (.cells [vi (1073741824 : Int), vq, vi (1 : Int)] 187), some ZbC, some ZqV, some Zes, some ZgM, some ZdH, some ZdH, some ZaD, some Zbx, some cz35, some Zb6, some Zd1, some (.cells [vi (2 : Int), vi (1048594 : Int)] 25), some (.cells [vi (2 : Int), vi (1048594 : Int)] 25), some Zkc, some (.cells [vi (64 : Int), vs 25 0 5 5] 243), some (.cells [vT, vs 26 0 1 1] 247), some (.cells [vi (1 : Int), vq] 254), some (.ro (Zaq ([(⟨(1 : Int), (0 : Int)⟩ : R_ii)] : List R_ii)) true), some ZgN, some (.cells [vi (1 : Int), vq] 254)]
 | .h5m24 => [some (.cells [vs 1 0 24 24, vn, vp 2 0, vs 3 0 1 1] 86), some cz6, some Zu4, some (.cells [vp 8 0] 87), some Zd2, some (.cells [vs 11 0 16 16, vs 12 0 16 16] 182), some (.cells [vi (1073741824 : Int), vi (1 : Int), vi (1 : Int)] 187), some ZbC, some ZqV, some Zes, some ZgM, some ZdH, some ZdH, some ZaD, some Zbx, some (.cells [vT, vf, vq, vi (4 : Int), vi (5 : Int), vi (24 : Int), vs 17 0 2 2, vs 18 0 1 1, vn, vq, vq, vq, vq, vq, vq, vq, vq, vq, vq, Value.nilFunc, Value.nilFunc, Value.nilFunc, vq, vq, vq, vq, vf, vq, vq, vq, vn, vq, Value.func (.func 215) #[vp 15 0] #[], vq, vq, vi (1 : Int), vn, vq, vq, vq, vp 2 0, vq, Value.func (.func 216) #[vp 15 0] #[], vq, vT, vi (1 : Int), vp 19 0, vp 20 0, vp 21 0, vn, vi (2 : Int), vq, vq] 213), some Zb6, some Zd1, some (.cells [vi (2 : Int), vi (1048594 : Int)] 25), some Zf9, some (.cells [vi (64 : Int), vs 24 0 5 5] 243), some (.cells [vT, vs 25 0 1 1] 247), some (.cells [vi (1 : Int), vq] 254), some (.ro (Zaq ([(⟨(1 : Int), (0 : Int)⟩ : R_ii)] : List R_ii)) true), some ZgN, some (.cells [vi (1 : Int), vq] 254)]
 | .h5m25 => [some (.cells [vs 1 0 25 25, vs 2 0 1 1, vp 3 0, vs 4 0 1 1] 86), some cz5, some ZjC, some Zu5, some (.cells [vp 10 0] 87), some (.cells [vi (2 : Int), vi (1048594 : Int)] 25), some ZjB, some (.cells [vs 13 0 16 16, vs 14 0 16 16] 182), some (.cells [vi (1073741824 : Int), vi (1 : Int), vi (1 : Int)] 187), some ZbC, some ZnT, some Zes, some ZgM, some ZdH, some ZdH, some ZaD, some Zbx, some (.cells [vT, vT, vq, vi (4 : Int), vi (5 : Int), vi (24 : Int), vs 19 0 2 2, vs 20 0 1 1, vn, vq, vq, vq, vq, vq, vq, vq, vq, vq, vq, Value.nilFunc, Value.nilFunc, Value.nilFunc, vq, vq, vq, vq, vf, vq, vq, vq, vn, vi (1 : Int), Value.func (.func 215) #[vp 17 0] #[], vq, vq, vi (1 : Int), vn, vq, vq, vq, vp 3 0, vq, Value.func (.func 267) #[vp 17 0] #[], vq, vT, vi (1 : Int), vp 21 0, vp 22 0, vp 23 0, vn, vi (2 : Int), vq, vq] 213), some ZjA, some Zd1, some (.cells [vi (2 : Int), vi (1048594 : Int)] 25), some ZkZ, some (.cells [vi (64 : Int), vs 26 0 5 5] 243), some (.cells [vT, vs 27 0 1 1] 247), some (.cells [vi (1 : Int), vq] 254), some (.ro (Zaq ([(⟨(1 : Int), (0 : Int)⟩ : R_ii)] : List R_ii)) true), some ZgN, some (.cells [vi (1 : Int), vq] 254)]
 | .h5m26 => [some (.cells [vs 1 0 26 26, vs 2 0 1 1, vp 3 0, vs 4 0 1 1] 86), some cz4, some ZjC, some Zu5, some (.cells [vp 10 0] 87), some (.cells [vi (2 : Int), vi (1048594 : Int)] 25), some ZjB, some (.cells [vs 13 0 16 16, vs 14 0 16 16] 182), some (.cells [vi (1073741824 : Int), vi (1 : Int), vi (1 : Int)] 187), some ZbC, some ZnT, some Zes, some ZgM, some Zkd, some ZdH, some ZaD, some Zbx, some cz44, some ZjA, some Zd1, some (.cells [vi (2 : Int), vi (1048594 : Int)] 25), some ZkZ, some (.cells [vi (64 : Int), vs 26 0 5 5] 243), some (.cells [vT, vs 27 0 0 1] 247), some (.cells [vi (1 : Int), vq] 254), some (.ro (Zaq ([(⟨(1 : Int), (0 : Int)⟩ : R_ii)] : List R_ii)) true), some ZgN, some (.cells [vi (1 : Int), vq] 254)]
 | .h5m27 => [some (.cells [vs 1 0 27 27, vs 2 0 1 1, vp 3 0, vs 4 0 1 1] 86), some cz3, some ZjC, some Zma, some (.cells [vp 10 0] 87), some (.cells [vi (2 : Int), vi (1048594 : Int)] 25), some ZjB, some (.cells [vs 13 0 16 16, vs 14 0 16 16] 182), some (.cells [vi (1073741824 : Int), vi (1 : Int), vi (1 : Int)] 187), some Zmd, some ZnT, some Zes, some ZgM, some Zkd, some ZdH, some ZaD, some Zbx, some cz45, some ZjA, some Zd1, some (.cells [vi (2 : Int), vi (1048594 : Int)] 25), some ZkZ, some (.cells [vi (64 : Int), vs 26 0 5 5] 243), some (.cells [vT, vs 27 0 0 1] 247), some (.cells [vi (1 : Int), vq] 254), some (.ro (Zaq ([(⟨(1 : Int), (0 : Int)⟩ : R_ii)] : List R_ii)) true), some ZgN, some (.cells [vi (1 : Int), vq] 254)]
 | .h5m28 => [some (.cells [vs 1 0 28 28, vs 2 0 1 1, vp 3 0, vs 4 0 1 1] 86), some cz2, some ZjC, some Zma, some (.cells [vp 10 0] 87), some (.cells [vi (2 : Int), vi (1048594 : Int)] 25), some ZjB, some (.cells [vs 13 0 16 16, vs 14 0 16 16] 182), some (.cells [vi (1073741824 : Int), vi (1 : Int), vi (1 : Int)] 187), some Zmd, some ZnT, some Zes, some ZgM, some Zkd, some ZdH, some ZaD, some Zbx, some (.cells [vT, vT, vq, vi (4 : Int), vi (5 : Int), vi (24 : Int), vs 19 0 2 2, vs 20 0 1 1, vn, vq, vq, vq, vq, vq, vq, vq, vq, vq, vq, Value.nilFunc, Value.nilFunc, Value.nilFunc, vq, vq, vq, vq, vf, vq, vq, vq, vn, vi (1 : Int), Value.func (.func 215) #[vp 17 0] #[], vq, vq, vi (1 : Int), vs 21 0 1 1, vq, vq, vq, vp 3 0, vq, Value.func (.func 342) #[vp 17 0] #[], vq, vT, vi (1 : Int), vp 22 0, vp 23 0, vp 24 0, vn, vi (2 : Int), vq, vq] 213), some ZjA, some Zd1, some (.cells [vi (2 : Int), vi (1048594 : Int)] 25), some (.cells [vi (2 : Int)] 3), some (.cells [vi (64 : Int), vs 25 0 1 1, Value.int .u32 (1 : Int), Value.int .i32 (0 : Int), Value.int .u32 (0 : Int), Value.map (some 26)] 240), some (.cells [vi (64 : Int), vs 27 0 5 5] 243), some (.cells [vT, vs 28 0 0 1] 247), some (.cells [vi (1 : Int), vq] 254), some (.ro (Zaq ([(⟨(1 : Int), (0 : Int)⟩ : R_ii)] : List R_ii)) true), some ZgN, some (.cells [vi (1 : Int), vq] 254)]
 | .h5m29 => [some (.cells [vs 1 0 29 29, vs 2 0 1 1, vp 3 0, vs 4 0 1 1] 86), some cz1, some ZjC, some Zma, some (.cells [vp 10 0] 87), some (.cells [vi (2 : Int), vi (1048594 : Int)] 25), some ZjB, some (.cells [vs 13 0 16 16, vs 14 0 16 16] 182), some (.cells [vi (1073741824 : Int), vi (1 : Int), vi (1 : Int)] 187), some Zmd, some (.cells [vp 3 0, vq, vs 15 0 20 20, Value.int .u32 (0 : Int), Value.int .i32 (0 : Int), Value.int .u32 (0 : Int), vn, vi (2 : Int), vi (1048577 : Int), vi (1 : Int), vi (13 : Int), vi (2 : Int), vi (1048594 : Int), vi (2 : Int), vq, vi (1 : Int), vq, vi (1 : Int), vq, vi (1 : Int), vi (7 : Int), vi (1 : Int), vq, vi (20 : Int), vn, vq, vq, vn, vp 16 0, vp 17 0, vq, vf, vn] 154), some Zes, some ZgM, some Zkd, some ZdH, some ZaD, some Zu7, some ZjA, some Zd1, some (.cells [vi (2 : Int), vi (1048594 : Int)] 25), some (.cells [vi (2 : Int)] 3), some ZkZ, some (.cells [vi (64 : Int), vs 26 0 5 5] 243), some (.cells [vT, vs 27 0 0 1] 247), some (.cells [vi (1 : Int), vq] 254), some (.ro (Zaq ([(⟨(1 : Int), (0 : Int)⟩ : R_ii)] : List R_ii)) true), some ZgN, some (.cells [vi (1 : Int), vq] 254)]
 | .h5m30 => [some (.cells [vs 1 0 30 30, vs 2 0 1 1, vp 3 0, vs 4 0 1 1] 86), some cz0, some ZjC, some Zma, some (.cells [vp 10 0] 87), some (.cells [vi (2 : Int), vi (1048594 : Int)] 25), some ZjB, some (.cells [vs 13 0 16 16, vs 14 0 16 16] 182), some (.cells [vi (1073741824 : Int), vi (1 : Int), vi (1 : Int)] 187), some Zmd, some cz58, some Zes, some ZgM, some Zkd, some ZdH, some ZaD, some Zu7, some ZjA, some Zd1, some (.cells [vi (2 : Int), vi (1048594 : Int)] 25), some (.cells [vi (2 : Int)] 3), some ZkZ, some (.cells [vi (64 : Int), vs 26 0 5 5] 243), some (.cells [vT, vs 27 0 0 1] 247), some (.cells [vi (1 : Int), vq] 254), some (.ro (Zaq ([(⟨(1 : Int), (0 : Int)⟩ : R_ii)] : List R_ii)) true), some ZgN, some (.cells [vi (1 : Int), vq] 254)]

noncomputable def Z8 : Nat → Code × List ZaO
 | 1 => Zj3 [1] (Zbr Tryz.f7) []
 | 2 => Zj3 [1, 1] (Zbr Tryz.f7) []
 | 3 => Zj3 [1, 1, 1] (Zbr Tryz.f7) []
 | 4 => Zj3 [1, 1, 1, 1] (Zbr Tryz.f7) []
 | 5 => ZaV [1, 1, 1, 1, 1, 0, 1, 3] (Zbr Tryz.f7) []
 | _ => (.skip, [])
def Zlp : Nat → Bool
 | 1 => false
 | 2 => false
 | 3 => false
 | 4 => false
 | 5 => true
 | _ => true
noncomputable def Zaa (i : Nat) : List ZaO := match Zlp i with | true => .rnd i :: (Z8 i).2 | false => (Z8 i).2

noncomputable def Zm  (N : Nat) : Mach := ⟨Tryz.f7, [], Ze, ZD, ZA  N, ZpI, Z8, Zlp, Zrg , Zrh , Zmk , Zlo ⟩

theorem Znl  (N : Nat) : (Zm  N).Ok Tryz.prog Zn (.h1m0 : Ze) (ZA  N (.h1m0 : Ze)) := by
 show (Zm  N).Ok Tryz.prog Zn (.h1m0 : Ze) (Zhm  N)
 unfold Zhm
 exact Mach.ok_cut (bK := Z8 2) (M := Zm  N) (cd := 0) (cm := 0) (y := (.h2m0 : Ze)) (fu := 4000) (orc := (Zr [] [] [] [] [])) (live := [401]) (tv := fun _ => [some (vs 401 0 20 20), some (vq)]) (bl := [some ZaD]) (ob := []) rfl rfl (show ∀ j ∈ Zq (Z8 2).2, j ∈ Zq (Zaa 1) from by decide +kernel) (fun gv => by kernel_rfl) Zi rfl (by decide) (by rfl) (fun _ => ⟨rr, ⟨rr, trivial⟩⟩) ⟨sm, trivial⟩

end Ev
end Go.Proofs.YtjdojnecmplmnaaGreat
/- Calls do what the plain functions say. -/
namespace Go.Proofs.YtjdojnecmplmnaaGreat
open Go.RowKit
namespace Ev
set_option linter.unusedVariables false
set_option maxRecDepth 100000
theorem Znm  (N : Nat) : (Zm  N).Ok Tryz.prog Zn (.h2m0 : Ze) (ZA  N (.h2m0 : Ze)) := by
 show (Zm  N).Ok Tryz.prog Zn (.h2m0 : Ze) (Zhn  N)
 unfold Zhn
 exact Mach.ok_cut (bK := Z8 3) (M := Zm  N) (cd := 0) (cm := 0) (y := (.h3m0 : Ze)) (fu := 4000) (orc := (Zr [] [] [] [] [])) (live := [33, 32, 349, 5, 28, 29, 30, 347, 7, 8, 26, 27, 336, 39, 40, 35, 37, 38]) (tv := fun _ => [some (vq), some (vp 33 0), some (vq)]) (bl := [some (.cells [vn, vn, vp 32 0, vs 349 0 1 1] 86), some (.cells [vi (1 : Int), vq, vf, vf, vq, vf, vf, vq, vf, vf, vq, vf, vf, vq, vf, vf, vq, vf, vf, vq, vf, vf, vq, vf, vf, vq, vf, vf, vq, vf, vf, vq, vf, vf, vq, vf, vf, vq, vf, vf, vq, vf, vf, vq, vf, vf, vq, vf, vf, vq, vf, vf, vq, vf, vf, vq, vf, vf, vq, vf, vf, vq, vf, vf, vq, vf, vf, vq, vf, vf, vq, vf, vf, vq, vf, vf, vq, vf, vf, vq, vf, vf, vq, vf, vf, vq, vf, vf, vq, vf, vf, vq, vf, vf, vq, vf, vf, vq, vf, vf, vq, vf, vf, vq, vf, vf, vq, vf, vf, vq, vf, vf, vq, vf, vf, vq, vf, vf, vq, vf, vf, vq, vf, vf, vq, vf, vf, vq, vf, vf, vq, vf, vf, vq, vf, vf, vq, vf, vf, vq, vf, vf, vq, vf, vf, vq, vf, vf, vq, vf, vf, vq, vf, vf, vq, vf, vf, vq, vf, vf, vq, vf, vf, vq, vf, vf, vq, vf, vf, vq, vf, vf, vq, vf, vf, vq, vf, vf, vq, vf, vf, vq, vf, vf, vq, vf, vf, vq, vf, vf, vq, vf, vf, vi (400 : Int), vi (16 : Int), vi (64 : Int), vi (64 : Int), vi (1073741824 : Int), vi (1 : Int), vq, vp 5 0, vp 28 0, vp 29 0, vp 30 0] 126), some (.cells [vp 347 0] 87), some (.cells [vi (400 : Int), vs 7 0 17 17, vs 8 0 17 17, vn, vn, vn, vn, vn, vn, vn, vn, vn, vn, vn, vn, vn, vn, vn, vn, vn] 168), some (.cells [vs 26 0 16 16, vs 27 0 16 16] 182), some (.cells [vi (1073741824 : Int), vq, vq] 187), some ZiP, some (.cells [vp 32 0, vq, vs 336 0 20 20, Value.int .u32 (0 : Int), Value.int .i32 (0 : Int), Value.int .u32 (0 : Int), vn, vi (1 : Int), vq, vi (1 : Int), vq, vi (1 : Int), vq, vi (1 : Int), vq, vi (1 : Int), vq, vi (1 : Int), vq, vi (1 : Int), vq, vi (1 : Int), vq, vq, vn, vq, vq, vn, vp 39 0, vp 40 0, vq, vf, vn] 154), some ZdF, some ZdG, some ZM, some ZM, some ZaD, some (.cells [vf, vf, vq, vq, vq, vq, vn, vn, vn, vq, vq, vq, vq, vq, vq, vq, vq, vq, vq, Value.nilFunc, Value.nilFunc, Value.nilFunc, vq, vq, vq, vq, vf, vq, vq, vq, vn, vq, Value.nilFunc, vq, vq, vq, vn, vq, vq, vq, vp 32 0, vq, Value.nilFunc, vq, vf, vq, vp 35 0, vp 37 0, vp 38 0, vn, vq, vq, vq] 213), some (.cells [vq, vq, vq, vq, vq, vq, vq, vq, vq, vq, vq, vq, vq, vq, vq, vq, vn, vq, vf, vf, vq, vq, vq, vq, vp 32 0, vq, Value.nilFunc] 222), some Zet, some (.cells [vi (64 : Int), vn] 243), some (.cells [vT, vn] 247)]) (ob := []) rfl rfl (show ∀ j ∈ Zq (Z8 3).2, j ∈ Zq (Zaa 2) from by decide +kernel) (fun gv => by kernel_rfl) Zi rfl (by decide) (by rfl) (fun _ => ⟨rr, ⟨rr, ⟨rr, trivial⟩⟩⟩) ⟨sm, ⟨sm, ⟨sm, ⟨sm, ⟨sm, ⟨sm, ⟨sm, ⟨sm, ⟨sm, ⟨sm, ⟨sm, ⟨sm, ⟨sm, ⟨sm, ⟨sm, ⟨sm, ⟨sm, ⟨sm, trivial⟩⟩⟩⟩⟩⟩⟩⟩⟩⟩⟩⟩⟩⟩⟩⟩⟩⟩

theorem Znn  (N : Nat) : (Zm  N).Ok Tryz.prog Zn (.h3m0 : Ze) (ZA  N (.h3m0 : Ze)) := by
 show (Zm  N).Ok Tryz.prog Zn (.h3m0 : Ze) (Zho  N)
 unfold Zho
 exact Mach.ok_cut (bK := Z8 4) (M := Zm  N) (cd := 0) (cm := 0) (y := (.h4m0 : Ze)) (fu := 4000) (orc := (Zr [] [] [] [] [])) (live := [0, 1, 2, 3, 4, 5, 6, 7, 8, 9, 10, 11, 12, 13, 14, 15, 16, 17]) (tv := fun _ => [some (vq), some (vp 0 0), some (vq), some (vi (240 : Int))]) (bl := [some (.cells [vn, vn, vp 1 0, vs 2 0 1 1] 86), some ZoV, some (.cells [vp 7 0] 87), some ZoZ, some (.cells [vs 10 0 16 16, vs 11 0 16 16] 182), some (.cells [vi (1073741824 : Int), vq, vq] 187), some ZiP, some ZqW, some ZdF, some ZdG, some ZM, some ZM, some ZaD, some ZoX, some ZoY, some Zet, some (.cells [vi (64 : Int), vn] 243), some (.cells [vT, vn] 247)]) (ob := []) rfl rfl (show ∀ j ∈ Zq (Z8 4).2, j ∈ Zq (Zaa 3) from by decide +kernel) (fun gv => by kernel_rfl) Zi rfl (by decide) (by rfl) (fun _ => ⟨rr, ⟨rr, ⟨rr, ⟨rr, trivial⟩⟩⟩⟩) ⟨sm, ⟨sm, ⟨sm, ⟨sm, ⟨sm, ⟨sm, ⟨sm, ⟨sm, ⟨sm, ⟨sm, ⟨sm, ⟨sm, ⟨sm, ⟨sm, ⟨sm, ⟨sm, ⟨sm, ⟨sm, trivial⟩⟩⟩⟩⟩⟩⟩⟩⟩⟩⟩⟩⟩⟩⟩⟩⟩⟩

theorem Zno  (N : Nat) : (Zm  N).Ok Tryz.prog Zn (.h4m0 : Ze) (ZA  N (.h4m0 : Ze)) := by
 show (Zm  N).Ok Tryz.prog Zn (.h4m0 : Ze) (Zhp  N)
 unfold Zhp
 exact Mach.ok_head (bK := Z8 5) (M := Zm  N) (cd := 1000000) (cm := 0) (y := (.h5m0 : Ze)) (fu := 4000) (orc := (Zr [] [] [] [] [])) (live := [0, 1, 2, 3, 4, 5, 6, 7, 8, 9, 10, 11, 12, 13, 14, 15, 16, 17]) (tv := fun _ => [some (vp 0 0), some (vq)]) (bl := [some (.cells [vn, vn, vp 1 0, vs 2 0 1 1] 86), some ZoV, some (.cells [vp 7 0] 87), some ZoZ, some (.cells [vs 10 0 16 16, vs 11 0 16 16] 182), some (.cells [vi (1073741824 : Int), vq, vq] 187), some ZiP, some ZqW, some ZdF, some ZdG, some ZM, some ZM, some ZaD, some ZoX, some ZoY, some Zet, some (.cells [vi (64 : Int), vn] 243), some (.cells [vT, vn] 247)]) (ob := []) rfl rfl (show ∀ j ∈ Zq (Z8 5).2, j ∈ Zq (Zaa 4) from by decide +kernel) (fun gv => by kernel_rfl) Zi rfl (by decide) (by rfl) (fun _ => ⟨rr, ⟨rr, trivial⟩⟩) ⟨sm, ⟨sm, ⟨sm, ⟨sm, ⟨sm, ⟨sm, ⟨sm, ⟨sm, ⟨sm, ⟨sm, ⟨sm, ⟨sm, ⟨sm, ⟨sm, ⟨sm, ⟨sm, ⟨sm, ⟨sm, trivial⟩⟩⟩⟩⟩⟩⟩⟩⟩⟩⟩⟩⟩⟩⟩⟩⟩⟩

theorem Znp  (N : Nat) : (Zm  N).Ok Tryz.prog Zn (.h5m0 : Ze) (ZA  N (.h5m0 : Ze)) := by
 show (Zm  N).Ok Tryz.prog Zn (.h5m0 : Ze) (Zhq  N)
 unfold Zhq
 exact Mach.ok_next (M := Zm  N) (cd := 1000000) (cm := 0) (y := (.h5m1 : Ze)) (fu := 4000) (orc := (Zr [] [] [] [] [])) (live := [0, 61, 1, 2, 3, 4, 5, 6, 7, 8, 9, 10, 11, 12, 13, 14, 15, 16, 17]) (tv := fun _ => [some (vp 0 0), some (vi (1 : Int))]) (bl := [some (.cells [vs 61 0 1 1, vn, vp 1 0, vs 2 0 1 1] 86), some (.cells [vi (1 : Int), vq, vq, vq, vq, vq] 65), some ZoV, some (.cells [vp 7 0] 87), some ZoZ, some (.cells [vs 10 0 16 16, vs 11 0 16 16] 182), some (.cells [vi (1073741824 : Int), vq, vq] 187), some ZiP, some (.cells [vp 1 0, vq, vs 12 0 20 20, Value.int .u32 (0 : Int), Value.int .i32 (0 : Int), Value.int .u32 (0 : Int), vn, vi (2 : Int), vi (1048577 : Int), vi (1 : Int), vq, vi (1 : Int), vq, vi (1 : Int), vq, vi (1 : Int), vq, vi (1 : Int), vq, vi (1 : Int), vq, vi (1 : Int), vq, vi (1 : Int), vn, vq, vq, vn, vp 13 0, vp 14 0, vq, vf, vn] 154), some ZdF, some ZdG, some ZM, some ZM, some ZaD, some ZoX, some ZoY, some Zet, some (.cells [vi (64 : Int), vn] 243), some (.cells [vT, vn] 247)]) (ob := []) rfl (show 5 ∈ Zq (Zaa 5) from by decide +kernel) (fun gv => by kernel_rfl) Zi rfl (by decide) (by rfl) (fun _ => ⟨rr, ⟨rr, trivial⟩⟩) ⟨sm, ⟨sm, ⟨sm, ⟨sm, ⟨sm, ⟨sm, ⟨sm, ⟨sm, ⟨sm, ⟨sm, ⟨sm, ⟨sm, ⟨sm, ⟨sm, ⟨sm, ⟨sm, ⟨sm, ⟨sm, ⟨sm, trivial⟩⟩⟩⟩⟩⟩⟩⟩⟩⟩⟩⟩⟩⟩⟩⟩⟩⟩⟩

theorem Znq  (N : Nat) : (Zm  N).Ok Tryz.prog Zn (.h5m1 : Ze) (ZA  N (.h5m1 : Ze)) := by
 show (Zm  N).Ok Tryz.prog Zn (.h5m1 : Ze) (Zhr  N)
 unfold Zhr
 exact Mach.ok_next (M := Zm  N) (cd := 1000000) (cm := 0) (y := (.h5m2 : Ze)) (fu := 4000) (orc := (Zr [] [] [] [] [])) (live := [0, 63, 2, 3, 4, 5, 6, 7, 8, 9, 10, 11, 12, 13, 14, 15, 16, 17, 18]) (tv := fun _ => [some (vp 0 0), some (vi (2 : Int))]) (bl := [some (.cells [vs 63 0 2 2, vn, vp 2 0, vs 3 0 1 1] 86), some (.cells [vi (1 : Int), vq, vq, vq, vq, vq, vi (1 : Int), vq, vq, vq, vq, vq] 65), some ZqU, some (.cells [vp 8 0] 87), some Zfs, some (.cells [vs 11 0 16 16, vs 12 0 16 16] 182), some (.cells [vi (1073741824 : Int), vq, vq] 187), some ZiP, some cz67, some ZdF, some ZdG, some ZM, some ZM, some ZaD, some ZqX, some Zb6, some Zet, some (.cells [vi (64 : Int), vn] 243), some (.cells [vT, vn] 247)]) (ob := []) rfl (show 5 ∈ Zq (Zaa 5) from by decide +kernel) (fun gv => by kernel_rfl) Zi rfl (by decide) (by rfl) (fun _ => ⟨rr, ⟨rr, trivial⟩⟩) ⟨sm, ⟨sm, ⟨sm, ⟨sm, ⟨sm, ⟨sm, ⟨sm, ⟨sm, ⟨sm, ⟨sm, ⟨sm, ⟨sm, ⟨sm, ⟨sm, ⟨sm, ⟨sm, ⟨sm, ⟨sm, ⟨sm, trivial⟩⟩⟩⟩⟩⟩⟩⟩⟩⟩⟩⟩⟩⟩⟩⟩⟩⟩⟩

theorem Znr  (N : Nat) : (Zm  N).Ok Tryz.prog Zn (.h5m2 : Ze) (ZA  N (.h5m2 : Ze)) := by
 show (Zm  N).Ok Tryz.prog Zn (.h5m2 : Ze) (Zhs  N)
 unfold Zhs
 exact Mach.ok_next (M := Zm  N) (cd := 1000000) (cm := 0) (y := (.h5m3 : Ze)) (fu := 4000) (orc := (Zr [] [] [] [] [])) (live := [0, 63, 2, 3, 4, 5, 6, 7, 8, 9, 10, 11, 12, 13, 14, 15, 16, 17, 18]) (tv := fun _ => [some (vp 0 0), some (vi (3 : Int))]) (bl := [some (.cells [vs 63 0 3 3, vn, vp 2 0, vs 3 0 1 1] 86), some (.cells [vi (1 : Int), vq, vq, vq, vq, vq, vi (1 : Int), vq, vq, vq, vq, vq, vi (1 : Int), vq, vq, vq, vq, vq] 65), some ZqU, some (.cells [vp 8 0] 87), some Zfs, some (.cells [vs 11 0 16 16, vs 12 0 16 16] 182), some (.cells [vi (1073741824 : Int), vq, vq] 187), some ZiP, some cz66, some ZdF, some ZdG, some ZM, some ZM, some ZaD, some ZqX, some Zb6, some Zet, some (.cells [vi (64 : Int), vn] 243), some (.cells [vT, vn] 247)]) (ob := []) rfl (show 5 ∈ Zq (Zaa 5) from by decide +kernel) (fun gv => by kernel_rfl) Zi rfl (by decide) (by rfl) (fun _ => ⟨rr, ⟨rr, trivial⟩⟩) ⟨sm, ⟨sm, ⟨sm, ⟨sm, ⟨sm, ⟨sm, ⟨sm, ⟨sm, ⟨sm, ⟨sm, ⟨sm, ⟨sm, ⟨sm, ⟨sm, ⟨sm, ⟨sm, ⟨sm, ⟨sm, ⟨sm, trivial⟩⟩⟩⟩⟩⟩⟩⟩⟩⟩⟩⟩⟩⟩⟩⟩⟩⟩⟩

theorem Zns  (N : Nat) : (Zm  N).Ok Tryz.prog Zn (.h5m3 : Ze) (ZA  N (.h5m3 : Ze)) := by
 show (Zm  N).Ok Tryz.prog Zn (.h5m3 : Ze) (Zht  N)
 unfold Zht
 exact Mach.ok_next (M := Zm  N) (cd := 1000000) (cm := 0) (y := (.h5m4 : Ze)) (fu := 4000) (orc := (Zr [] [] [] [] [])) (live := [0, 44, 2, 3, 4, 5, 6, 7, 8, 9, 10, 11, 12, 13, 28, 14, 15, 16, 17, 18]) (tv := fun _ => [some (vp 0 0), some (vi (4 : Int))]) (bl := [some (.cells [vs 44 0 4 4, vn, vp 2 0, vs 3 0 1 1] 86), some (.cells [vi (1 : Int), vq, vq, vq, vq, vq, vi (1 : Int), vq, vq, vq, vq, vq, vi (1 : Int), vq, vq, vq, vq, vq, vi (13 : Int), vq, vq, vq, vq, vi (4 : Int)] 65), some Zcg, some (.cells [vp 8 0] 87), some Zfs, some (.cells [vs 11 0 16 16, vs 12 0 16 16] 182), some (.cells [vi (1073741824 : Int), vq, vi (1 : Int)] 187), some ZbC, some (.cells [vp 2 0, vq, vs 13 0 20 20, Value.int .u32 (0 : Int), Value.int .i32 (0 : Int), Value.int .u32 (0 : Int), vn, vi (2 : Int), vi (1048577 : Int), vi (1 : Int), vi (13 : Int), vi (1 : Int), vq, vi (1 : Int), vq, vi (1 : Int), vq, vi (1 : Int), vq, vi (1 : Int), vi (7 : Int), vi (1 : Int), vq, vi (3 : Int), vn, vq, vq, vs 28 0 1 1, vp 14 0, vp 15 0, vi (4 : Int), vf, vn] 154), some ZdF, some ZdG, some ZM, some ZM, some ZaD, some Zbx, some (.cells [vT, vf, vq, vi (4 : Int), vq, vq, vn, vn, vn, vq, vq, vq, vq, vq, vq, vq, vq, vq, vq, Value.nilFunc, Value.nilFunc, Value.nilFunc, vq, vq, vq, vq, vf, vq, vq, vq, vn, vq, Value.nilFunc, vq, vq, vq, vn, vq, vq, vq, vp 2 0, vq, Value.func (.func 209) #[vp 14 0] #[], vq, vf, vi (1 : Int), vp 16 0, vp 17 0, vp 18 0, vn, vq, vq, vq] 213), some Zb6, some Zet, some (.cells [vi (64 : Int), vn] 243), some (.cells [vT, vn] 247)]) (ob := []) rfl (show 5 ∈ Zq (Zaa 5) from by decide +kernel) (fun gv => by kernel_rfl) Zi rfl (by decide) (by rfl) (fun _ => ⟨rr, ⟨rr, trivial⟩⟩) ⟨sm, ⟨sm, ⟨sm, ⟨sm, ⟨sm, ⟨sm, ⟨sm, ⟨sm, ⟨sm, ⟨sm, ⟨sm, ⟨sm, ⟨sm, ⟨sm, ⟨sm, ⟨sm, ⟨sm, ⟨sm, ⟨sm, ⟨sm, trivial⟩⟩⟩⟩⟩⟩⟩⟩⟩⟩⟩⟩⟩⟩⟩⟩⟩⟩⟩⟩

theorem Znt  (N : Nat) : (Zm  N).Ok Tryz.prog Zn (.h5m4 : Ze) (ZA  N (.h5m4 : Ze)) := by
 show (Zm  N).Ok Tryz.prog Zn (.h5m4 : Ze) (Zhu  N)
 unfold Zhu
 exact Mach.ok_next (M := Zm  N) (cd := 1000000) (cm := 0) (y := (.h5m5 : Ze)) (fu := 4000) (orc := (Zr [] [] [] [] [])) (live := [0, 38, 2, 3, 4, 5, 6, 7, 8, 9, 10, 11, 12, 13, 14, 15, 16, 17, 18, 19]) (tv := fun _ => [some (vp 0 0), some (vi (5 : Int))]) (bl := [some (.cells [vs 38 0 5 5, vn, vp 2 0, vs 3 0 1 1] 86), some cz81, some Zcg, some (.cells [vp 8 0] 87), some Zfs, some (.cells [vs 11 0 16 16, vs 12 0 16 16] 182), some (.cells [vi (1073741824 : Int), vq, vi (1 : Int)] 187), some ZbC, some Zmc, some ZdF, some ZdG, some ZM, some ZM, some ZaD, some Zbx, some cz68, some Zb6, some Zet, some (.cells [vi (64 : Int), vn] 243), some (.cells [vT, vn] 247)]) (ob := []) rfl (show 5 ∈ Zq (Zaa 5) from by decide +kernel) (fun gv => by kernel_rfl) Zi rfl (by decide) (by rfl) (fun _ => ⟨rr, ⟨rr, trivial⟩⟩) ⟨sm, ⟨sm, ⟨sm, ⟨sm, ⟨sm, ⟨sm, ⟨sm, ⟨sm, ⟨sm, ⟨sm, ⟨sm, ⟨sm, ⟨sm, ⟨sm, ⟨sm, ⟨sm, ⟨sm, ⟨sm, ⟨sm, ⟨sm, trivial⟩⟩⟩⟩⟩⟩⟩⟩⟩⟩⟩⟩⟩⟩⟩⟩⟩⟩⟩⟩

theorem Znu  (N : Nat) : (Zm  N).Ok Tryz.prog Zn (.h5m5 : Ze) (ZA  N (.h5m5 : Ze)) := by
 show (Zm  N).Ok Tryz.prog Zn (.h5m5 : Ze) (Zhv  N)
 unfold Zhv
 exact Mach.ok_next (M := Zm  N) (cd := 1000000) (cm := 0) (y := (.h5m6 : Ze)) (fu := 4000) (orc := (Zr [] [] [] [] [])) (live := [0, 64, 2, 3, 4, 5, 6, 7, 8, 9, 10, 11, 12, 13, 14, 15, 16, 17, 18, 19]) (tv := fun _ => [some (vp 0 0), some (vi (6 : Int))]) (bl := [some (.cells [vs 64 0 6 6, vn, vp 2 0, vs 3 0 1 1] 86), some cz78, some Zcg, some (.cells [vp 8 0] 87), some Zfs, some (.cells [vs 11 0 16 16, vs 12 0 16 16] 182), some (.cells [vi (1073741824 : Int), vq, vi (1 : Int)] 187), some ZbC, some Zmc, some ZdF, some ZdG, some ZM, some ZM, some ZaD, some Zbx, some cz40, some Zb6, some Zet, some (.cells [vi (64 : Int), vn] 243), some (.cells [vT, vn] 247)]) (ob := []) rfl (show 5 ∈ Zq (Zaa 5) from by decide +kernel) (fun gv => by kernel_rfl) Zi rfl (by decide) (by rfl) (fun _ => ⟨rr, ⟨rr, trivial⟩⟩) ⟨sm, ⟨sm, ⟨sm, ⟨sm, ⟨sm, ⟨sm, ⟨sm, ⟨sm, ⟨sm, ⟨sm, ⟨sm, ⟨sm, ⟨sm, ⟨sm, ⟨sm, ⟨sm, ⟨sm, ⟨sm, ⟨sm, ⟨sm, trivial⟩⟩⟩⟩⟩⟩⟩⟩⟩⟩⟩⟩⟩⟩⟩⟩⟩⟩⟩⟩

theorem Znv  (N : Nat) : (Zm  N).Ok Tryz.prog Zn (.h5m6 : Ze) (ZA  N (.h5m6 : Ze)) := by
 show (Zm  N).Ok Tryz.prog Zn (.h5m6 : Ze) (Zhw  N)
 unfold Zhw
 exact Mach.ok_next (M := Zm  N) (cd := 1000000) (cm := 0) (y := (.h5m7 : Ze)) (fu := 4000) (orc := (Zr [] [] [] [] [])) (live := [0, 44, 2, 3, 4, 5, 6, 7, 8, 9, 10, 11, 12, 13, 14, 15, 16, 17, 18, 19]) (tv := fun _ => [some (vp 0 0), some (vi (7 : Int))]) (bl := [some (.cells [vs 44 0 7 7, vn, vp 2 0, vs 3 0 1 1] 86), some cz76, some Zcg, some (.cells [vp 8 0] 87), some Zfs, some (.cells [vs 11 0 16 16, vs 12 0 16 16] 182), some (.cells [vi (1073741824 : Int), vq, vi (1 : Int)] 187), some ZbC, some Zmc, some ZdF, some ZdG, some ZM, some ZM, some ZaD, some Zbx, some cz41, some Zb6, some Zet, some (.cells [vi (64 : Int), vn] 243), some (.cells [vT, vn] 247)]) (ob := []) rfl (show 5 ∈ Zq (Zaa 5) from by decide +kernel) (fun gv => by kernel_rfl) Zi rfl (by decide) (by rfl) (fun _ => ⟨rr, ⟨rr, trivial⟩⟩) ⟨sm, ⟨sm, ⟨sm, ⟨sm, ⟨sm, ⟨sm, ⟨sm, ⟨sm, ⟨sm, ⟨sm, ⟨sm, ⟨sm, ⟨sm, ⟨sm, ⟨sm, ⟨sm, ⟨sm, ⟨sm, ⟨sm, ⟨sm, trivial⟩⟩⟩⟩⟩⟩⟩⟩⟩⟩⟩⟩⟩⟩⟩⟩⟩⟩⟩⟩

theorem Znw  (N : Nat) : (Zm  N).Ok Tryz.prog Zn (.h5m7 : Ze) (ZA  N (.h5m7 : Ze)) := by
 show (Zm  N).Ok Tryz.prog Zn (.h5m7 : Ze) (Zhx  N)
 unfold Zhx
 exact Mach.ok_next (M := Zm  N) (cd := 1000000) (cm := 0) (y := (.h5m8 : Ze)) (fu := 4000) (orc := (Zr [] [] [] [] [])) (live := [0, 62, 2, 3, 4, 5, 6, 7, 8, 9, 10, 11, 12, 13, 14, 15, 16, 17, 18, 19]) (tv := fun _ => [some (vp 0 0), some (vi (8 : Int))]) (bl := [some (.cells [vs 62 0 8 8, vn, vp 2 0, vs 3 0 1 1] 86), some cz64, some Zcg, some (.cells [vp 8 0] 87), some Zfs, some (.cells [vs 11 0 16 16, vs 12 0 16 16] 182), some (.cells [vi (1073741824 : Int), vq, vi (1 : Int)] 187), some ZbC, some Zmc, some ZdF, some ZdG, some ZM, some ZM, some ZaD, some Zbx, some cz38, some Zb6, some Zet, some (.cells [vi (64 : Int), vn] 243), some (.cells [vT, vn] 247)]) (ob := []) rfl (show 5 ∈ Zq (Zaa 5) from by decide +kernel) (fun gv => by kernel_rfl) Zi rfl (by decide) (by rfl) (fun _ => ⟨rr, ⟨rr, trivial⟩⟩) ⟨sm, ⟨sm, ⟨sm, ⟨sm, ⟨sm, ⟨sm, ⟨sm, ⟨sm, ⟨sm, ⟨sm, ⟨sm, ⟨sm, ⟨sm, ⟨sm, ⟨sm, ⟨sm, ⟨sm, ⟨sm, ⟨sm, ⟨sm, trivial⟩⟩⟩⟩⟩⟩⟩⟩⟩⟩⟩⟩⟩⟩⟩⟩⟩⟩⟩⟩

theorem Znx  (N : Nat) : (Zm  N).Ok Tryz.prog Zn (.h5m8 : Ze) (ZA  N (.h5m8 : Ze)) := by
 show (Zm  N).Ok Tryz.prog Zn (.h5m8 : Ze) (Zhy  N)
 unfold Zhy
 exact Mach.ok_next (M := Zm  N) (cd := 1000000) (cm := 0) (y := (.h5m9 : Ze)) (fu := 4000) (orc := (Zr [(68, true)] [] [] [] [])) (live := [0, 63, 2, 3, 4, 5, 6, 7, 8, 9, 10, 11, 12, 13, 14, 15, 16, 48, 17, 18, 19, 38, 36]) (tv := fun _ => [some (vp 0 0), some (vi (9 : Int))]) (bl := [some (.cells [vs 63 0 9 9, vn, vp 2 0, vs 3 0 1 1] 86), some cz46, some Zcg, some (.cells [vp 8 0] 87), some Zfs, some (.cells [vs 11 0 16 16, vs 12 0 16 16] 182), some (.cells [vi (1073741824 : Int), vq, vi (1 : Int)] 187), some ZbC, some cz61, some ZdF, some ZdG, some ZM, some ZM, some ZaD, some Zbx, some (.cells [vT, vf, vq, vi (4 : Int), vi (5 : Int), vq, vs 48 0 1 1, vn, vn, vi (2 : Int), vi (1048577 : Int), vi (5 : Int), vq, vq, vq, vq, vq, vq, vq, Value.func (.func 181) #[vp 15 0] #[], Value.func (.func 182) #[vp 15 0] #[], Value.func (.func 182) #[vp 15 0] #[], vi (1 : Int), vq, vq, vq, vf, vi (2 : Int), vq, vq, vn, vq, Value.nilFunc, vq, vq, vq, vn, vq, vq, vq, vp 2 0, vq, Value.nilFunc, vq, vT, vi (1 : Int), vp 17 0, vp 18 0, vp 19 0, vn, vi (2 : Int), vq, vq] 213), some Zb6, some ZgO, some (.cells [vi (64 : Int), vs 38 0 1 1, Value.int .u32 (1 : Int), Value.int .i32 (0 : Int), Value.int .u32 (0 : Int), Value.map (some 36)] 240), some (.cells [vi (64 : Int), vn] 243), some (.cells [vT, vn] 247), some (.cells [vi (1 : Int), vq] 254), some (.ro (Zaq ([(⟨(1 : Int), (0 : Int)⟩ : R_ii)] : List R_ii)) true)]) (ob := [(((0 : Int) == (0 : Int)), true)]) rfl (show 5 ∈ Zq (Zaa 5) from by decide +kernel) (fun gv => by kernel_rfl) (oT Zi) rfl (by decide) (by rfl) (fun _ => ⟨rr, ⟨rr, trivial⟩⟩) ⟨sm, ⟨sm, ⟨sm, ⟨sm, ⟨sm, ⟨sm, ⟨sm, ⟨sm, ⟨sm, ⟨sm, ⟨sm, ⟨sm, ⟨sm, ⟨sm, ⟨sm, ⟨sm, ⟨sm, ⟨sm, ⟨sm, ⟨sm, ⟨sm, ⟨sm, ⟨(show Zaq ([(⟨(1 : Int), (0 : Int)⟩ : R_ii)] : List R_ii) = Zaq ([(⟨(1 : Int), (0 : Int)⟩ : R_ii)] : List R_ii) from rfl), trivial⟩⟩⟩⟩⟩⟩⟩⟩⟩⟩⟩⟩⟩⟩⟩⟩⟩⟩⟩⟩⟩⟩⟩

theorem Zny  (N : Nat) : (Zm  N).Ok Tryz.prog Zn (.h5m9 : Ze) (ZA  N (.h5m9 : Ze)) := by
 show (Zm  N).Ok Tryz.prog Zn (.h5m9 : Ze) (Zhz  N)
 unfold Zhz
 exact Mach.ok_next (M := Zm  N) (cd := 1000000) (cm := 0) (y := (.h5m10 : Ze)) (fu := 4000) (orc := (Zr [] [] [] [] [])) (live := [0, 67, 2, 3, 4, 5, 6, 7, 8, 9, 10, 11, 12, 13, 14, 15, 16, 17, 18, 19, 20, 21, 22]) (tv := fun _ => [some (vp 0 0), some (vi (10 : Int))]) (bl := [some (.cells [vs 67 0 10 10, vn, vp 2 0, vs 3 0 1 1] 86), some cz43, some Zcg, some (.cells [vp 8 0] 87), some Zfs, some (.cells [vs 11 0 16 16, vs 12 0 16 16] 182), some (.cells [vi (1073741824 : Int), vq, vi (1 : Int)] 187), some ZbC, some cz59, some ZdF, some ZdG, some ZM, some ZM, some ZaD, some Zbx, some Zu6, some Zb6, some ZgO, some Zta, some (.cells [vi (64 : Int), vn] 243), some (.cells [vT, vn] 247), some (.cells [vi (1 : Int), vq] 254), some (.ro (Zaq ([(⟨(1 : Int), (0 : Int)⟩ : R_ii)] : List R_ii)) true)]) (ob := []) rfl (show 5 ∈ Zq (Zaa 5) from by decide +kernel) (fun gv => by kernel_rfl) Zi rfl (by decide) (by rfl) (fun _ => ⟨rr, ⟨rr, trivial⟩⟩) ⟨sm, ⟨sm, ⟨sm, ⟨sm, ⟨sm, ⟨sm, ⟨sm, ⟨sm, ⟨sm, ⟨sm, ⟨sm, ⟨sm, ⟨sm, ⟨sm, ⟨sm, ⟨sm, ⟨sm, ⟨sm, ⟨sm, ⟨sm, ⟨sm, ⟨sm, ⟨(show Zaq ([(⟨(1 : Int), (0 : Int)⟩ : R_ii)] : List R_ii) = Zaq ([(⟨(1 : Int), (0 : Int)⟩ : R_ii)] : List R_ii) from rfl), trivial⟩⟩⟩⟩⟩⟩⟩⟩⟩⟩⟩⟩⟩⟩⟩⟩⟩⟩⟩⟩⟩⟩⟩

theorem Zml  (N : Nat) : (Zm  N).Ok Tryz.prog Zn (.h5m10 : Ze) (ZA  N (.h5m10 : Ze)) := by
 show (Zm  N).Ok Tryz.prog Zn (.h5m10 : Ze) (Zgz  N)
 unfold Zgz
 exact Mach.ok_next (M := Zm  N) (cd := 1000000) (cm := 0) (y := (.h5m11 : Ze)) (fu := 4000) (orc := (Zr [] [] [] [] [])) (live := [0, 67, 2, 3, 4, 5, 6, 7, 8, 38, 39, 11, 12, 13, 14, 15, 16, 17, 52, 18, 19, 20, 21, 22]) (tv := fun _ => [some (vp 0 0), some (vi (11 : Int))]) (bl := [some (.cells [vs 67 0 11 11, vn, vp 2 0, vs 3 0 1 1] 86), some cz30, some Zcg, some (.cells [vp 8 0] 87), some (.cells [vi (400 : Int), vs 38 0 21 21, vs 39 0 21 21, vn, vn, vn, vn, vn, vn, vn, vn, vn, vn, vn, vn, vn, vn, vn, vn, vn] 168), some (.cells [vs 11 0 16 16, vs 12 0 16 16] 182), some (.cells [vi (1073741824 : Int), vq, vi (1 : Int)] 187), some ZbC, some cz49, some Zf8, some cz65, some ZM, some ZM, some ZaD, some Zbx, some (.cells [vT, vf, vq, vi (4 : Int), vi (5 : Int), vq, vs 17 0 1 1, vs 52 0 1 1, vn, vq, vq, vq, vq, vq, vi (3 : Int), vi (1 : Int), vq, vq, vq, Value.nilFunc, Value.nilFunc, Value.nilFunc, vq, vq, vq, vq, vf, vq, vq, vq, vn, vq, Value.nilFunc, vq, vq, vq, vn, vq, vq, vq, vp 2 0, vq, Value.nilFunc, vq, vT, vi (1 : Int), vp 18 0, vp 19 0, vp 20 0, vn, vi (2 : Int), vi (1048594 : Int), vq] 213), some Zb6, some ZgO, some (.cells [vi (2 : Int), vi (1048594 : Int)] 25), some Zta, some (.cells [vi (64 : Int), vn] 243), some (.cells [vT, vn] 247), some (.cells [vi (1 : Int), vq] 254), some (.ro (Zaq ([(⟨(1 : Int), (0 : Int)⟩ : R_ii)] : List R_ii)) true)]) (ob := []) rfl (show 5 ∈ Zq (Zaa 5) from by decide +kernel) (fun gv => by kernel_rfl) Zi rfl (by decide) (by rfl) (fun _ => ⟨rr, ⟨rr, trivial⟩⟩) ⟨sm, ⟨sm, ⟨sm, ⟨sm, ⟨sm, ⟨sm, ⟨sm, ⟨sm, ⟨sm, ⟨sm, ⟨sm, ⟨sm, ⟨sm, ⟨sm, ⟨sm, ⟨sm, ⟨sm, ⟨sm, ⟨sm, ⟨sm, ⟨sm, ⟨sm, ⟨sm, ⟨(show Zaq ([(⟨(1 : Int), (0 : Int)⟩ : R_ii)] : List R_ii) = Zaq ([(⟨(1 : Int), (0 : Int)⟩ : R_ii)] : List R_ii) from rfl), trivial⟩⟩⟩⟩⟩⟩⟩⟩⟩⟩⟩⟩⟩⟩⟩⟩⟩⟩⟩⟩⟩⟩⟩⟩

theorem Zmm  (N : Nat) : (Zm  N).Ok Tryz.prog Zn (.h5m11 : Ze) (ZA  N (.h5m11 : Ze)) := by
 show (Zm  N).Ok Tryz.prog Zn (.h5m11 : Ze) (Zg0  N)
 unfold Zg0
 exact Mach.ok_next (M := Zm  N) (cd := 1000000) (cm := 0) (y := (.h5m12 : Ze)) (fu := 4000) (orc := (Zr [] [] [] [] [])) (live := [0, 102, 2, 3, 4, 5, 6, 7, 8, 9, 10, 11, 12, 13, 14, 15, 16, 17, 18, 19, 20, 21, 22, 23, 91]) (tv := fun _ => [some (vp 0 0), some (vi (12 : Int))]) (bl := [some (.cells [vs 102 0 12 12, vn, vp 2 0, vs 3 0 1 1] 86), some cz25, some Zcg, some (.cells [vp 8 0] 87), some Zd2, some (.cells [vs 11 0 16 16, vs 12 0 16 16] 182), some (.cells [vi (1073741824 : Int), vq, vi (1 : Int)] 187), some ZbC, some cz50, some Zf8, some cz62, some ZM, some ZM, some ZaD, some Zbx, some cz36, some Zb6, some ZgO, some (.cells [vi (2 : Int), vi (1048594 : Int)] 25), some Zf9, some (.cells [vi (64 : Int), vs 91 0 1 1] 243), some (.cells [vT, vn] 247), some (.cells [vi (1 : Int), vq] 254), some (.ro (Zaq ([(⟨(1 : Int), (0 : Int)⟩ : R_ii)] : List R_ii)) true), some (.cells [vi (2 : Int), vi (1048594 : Int), vi (1 : Int), vi (1 : Int), vq, vf, vq] 351)]) (ob := []) rfl (show 5 ∈ Zq (Zaa 5) from by decide +kernel) (fun gv => by kernel_rfl) Zi rfl (by decide) (by rfl) (fun _ => ⟨rr, ⟨rr, trivial⟩⟩) ⟨sm, ⟨sm, ⟨sm, ⟨sm, ⟨sm, ⟨sm, ⟨sm, ⟨sm, ⟨sm, ⟨sm, ⟨sm, ⟨sm, ⟨sm, ⟨sm, ⟨sm, ⟨sm, ⟨sm, ⟨sm, ⟨sm, ⟨sm, ⟨sm, ⟨sm, ⟨sm, ⟨(show Zaq ([(⟨(1 : Int), (0 : Int)⟩ : R_ii)] : List R_ii) = Zaq ([(⟨(1 : Int), (0 : Int)⟩ : R_ii)] : List R_ii) from rfl), ⟨sm, trivial⟩⟩⟩⟩⟩⟩⟩⟩⟩⟩⟩⟩⟩⟩⟩⟩⟩⟩⟩⟩⟩⟩⟩⟩⟩

theorem Zmn  (N : Nat) : (Zm  N).Ok Tryz.prog Zn (.h5m12 : Ze) (ZA  N (.h5m12 : Ze)) := by
 show (Zm  N).Ok Tryz.prog Zn (.h5m12 : Ze) (Zg1  N)
 unfold Zg1
 exact Mach.ok_next (M := Zm  N) (cd := 1000000) (cm := 0) (y := (.h5m13 : Ze)) (fu := 4000) (orc := (Zr [] [] [] [] [])) (live := [0, 103, 2, 3, 4, 5, 6, 7, 8, 9, 10, 11, 12, 13, 14, 15, 16, 17, 18, 19, 20, 21, 22, 23, 92]) (tv := fun _ => [some (vp 0 0), some (vi (13 : Int))]) (bl := [some (.cells [vs 103 0 13 13, vn, vp 2 0, vs 3 0 1 1] 86), some cz24, some Zcg, some (.cells [vp 8 0] 87), some Zd2, some (.cells [vs 11 0 16 16, vs 12 0 16 16] 182), some (.cells [vi (1073741824 : Int), vq, vi (1 : Int)] 187), some ZbC, some Zmb, some Zf8, some Zfc, some ZM, some ZM, some ZaD, some Zbx, some cz37, some Zb6, some ZgO, some (.cells [vi (2 : Int), vi (1048594 : Int)] 25), some Zf9, some (.cells [vi (64 : Int), vs 92 0 2 2] 243), some (.cells [vT, vn] 247), some (.cells [vi (1 : Int), vq] 254), some (.ro (Zaq ([(⟨(1 : Int), (0 : Int)⟩ : R_ii)] : List R_ii)) true), some Zkb]) (ob := []) rfl (show 5 ∈ Zq (Zaa 5) from by decide +kernel) (fun gv => by kernel_rfl) Zi rfl (by decide) (by rfl) (fun _ => ⟨rr, ⟨rr, trivial⟩⟩) ⟨sm, ⟨sm, ⟨sm, ⟨sm, ⟨sm, ⟨sm, ⟨sm, ⟨sm, ⟨sm, ⟨sm, ⟨sm, ⟨sm, ⟨sm, ⟨sm, ⟨sm, ⟨sm, ⟨sm, ⟨sm, ⟨sm, ⟨sm, ⟨sm, ⟨sm, ⟨sm, ⟨(show Zaq ([(⟨(1 : Int), (0 : Int)⟩ : R_ii)] : List R_ii) = Zaq ([(⟨(1 : Int), (0 : Int)⟩ : R_ii)] : List R_ii) from rfl), ⟨sm, trivial⟩⟩⟩⟩⟩⟩⟩⟩⟩⟩⟩⟩⟩⟩⟩⟩⟩⟩⟩⟩⟩⟩⟩⟩⟩

theorem Zmo  (N : Nat) : (Zm  N).Ok Tryz.prog Zn (.h5m13 : Ze) (ZA  N (.h5m13 : Ze)) := by
 show (Zm  N).Ok Tryz.prog Zn (.h5m13 : Ze) (Zg2  N)
 unfold Zg2
 exact Mach.ok_next (M := Zm  N) (cd := 1000000) (cm := 0) (y := (.h5m14 : Ze)) (fu := 4000) (orc := (Zr [] [] [] [] [])) (live := [0, 69, 2, 3, 4, 5, 6, 7, 8, 9, 10, 11, 12, 13, 14, 15, 16, 17, 18, 19, 20, 21, 22, 23, 24]) (tv := fun _ => [some (vp 0 0), some (vi (14 : Int))]) (bl := [some (.cells [vs 69 0 14 14, vn, vp 2 0, vs 3 0 1 1] 86), some cz23, some Zcg, some (.cells [vp 8 0] 87), some Zd2, some (.cells [vs 11 0 16 16, vs 12 0 16 16] 182), some (.cells [vi (1073741824 : Int), vq, vi (1 : Int)] 187), some ZbC, some Zmb, some Zf8, some Zfc, some ZM, some ZM, some ZaD, some Zbx, some cz32, some Zb6, some ZgO, some (.cells [vi (2 : Int), vi (1048594 : Int)] 25), some Zf9, some (.cells [vi (64 : Int), vs 24 0 2 2] 243), some (.cells [vT, vn] 247), some (.cells [vi (1 : Int), vq] 254), some (.ro (Zaq ([(⟨(1 : Int), (0 : Int)⟩ : R_ii)] : List R_ii)) true), some Zkb]) (ob := []) rfl (show 5 ∈ Zq (Zaa 5) from by decide +kernel) (fun gv => by kernel_rfl) Zi rfl (by decide) (by rfl) (fun _ => ⟨rr, ⟨rr, trivial⟩⟩) ⟨sm, ⟨sm, ⟨sm, ⟨sm, ⟨sm, ⟨sm, ⟨sm, ⟨sm, ⟨sm, ⟨sm, ⟨sm, ⟨sm, ⟨sm, ⟨sm, ⟨sm, ⟨sm, ⟨sm, ⟨sm, ⟨sm, ⟨sm, ⟨sm, ⟨sm, ⟨sm, ⟨(show Zaq ([(⟨(1 : Int), (0 : Int)⟩ : R_ii)] : List R_ii) = Zaq ([(⟨(1 : Int), (0 : Int)⟩ : R_ii)] : List R_ii) from rfl), ⟨sm, trivial⟩⟩⟩⟩⟩⟩⟩⟩⟩⟩⟩⟩⟩⟩⟩⟩⟩⟩⟩⟩⟩⟩⟩⟩⟩

theorem Zmp  (N : Nat) : (Zm  N).Ok Tryz.prog Zn (.h5m14 : Ze) (ZA  N (.h5m14 : Ze)) := by
 show (Zm  N).Ok Tryz.prog Zn (.h5m14 : Ze) (Zg3  N)
 unfold Zg3
 exact Mach.ok_next (M := Zm  N) (cd := 1000000) (cm := 0) (y := (.h5m15 : Ze)) (fu := 4000) (orc := (Zr [] [] [] [] [])) (live := [0, 49, 2, 3, 4, 5, 6, 7, 8, 9, 10, 11, 12, 13, 14, 15, 16, 17, 18, 19, 20, 21, 22, 23, 24]) (tv := fun _ => [some (vp 0 0), some (vi (15 : Int))]) (bl := [some (.cells [vs 49 0 15 15, vn, vp 2 0, vs 3 0 1 1] 86), some cz22, some Zcg, some (.cells [vp 8 0] 87), some Zd2, some (.cells [vs 11 0 16 16, vs 12 0 16 16] 182), some (.cells [vi (1073741824 : Int), vq, vi (1 : Int)] 187), some ZbC, some Zmb, some Zf8, some Zfc, some ZM, some ZM, some ZaD, some Zbx, some cz33, some Zb6, some ZgO, some (.cells [vi (2 : Int), vi (1048594 : Int)] 25), some Zf9, some (.cells [vi (64 : Int), vs 24 0 2 2] 243), some (.cells [vT, vn] 247), some (.cells [vi (1 : Int), vq] 254), some (.ro (Zaq ([(⟨(1 : Int), (0 : Int)⟩ : R_ii)] : List R_ii)) true), some Zkb]) (ob := []) rfl (show 5 ∈ Zq (Zaa 5) from by decide +kernel) (fun gv => by kernel_rfl) Zi rfl (by decide) (by rfl) (fun _ => ⟨rr, ⟨rr, trivial⟩⟩) ⟨sm, ⟨sm, ⟨sm, ⟨sm, ⟨sm, ⟨sm, ⟨sm, ⟨sm, ⟨sm, ⟨sm, ⟨sm, ⟨sm, ⟨sm, ⟨sm, ⟨sm, ⟨sm, ⟨sm, ⟨sm, ⟨sm, ⟨sm, ⟨sm, ⟨sm, ⟨sm, ⟨(show Zaq ([(⟨(1 : Int), (0 : Int)⟩ : R_ii)] : List R_ii) = Zaq ([(⟨(1 : Int), (0 : Int)⟩ : R_ii)] : List R_ii) from rfl), ⟨sm, trivial⟩⟩⟩⟩⟩⟩⟩⟩⟩⟩⟩⟩⟩⟩⟩⟩⟩⟩⟩⟩⟩⟩⟩⟩⟩

theorem Zmq  (N : Nat) : (Zm  N).Ok Tryz.prog Zn (.h5m15 : Ze) (ZA  N (.h5m15 : Ze)) := by
 show (Zm  N).Ok Tryz.prog Zn (.h5m15 : Ze) (Zg4  N)
 unfold Zg4
 exact Mach.ok_next (M := Zm  N) (cd := 1000000) (cm := 0) (y := (.h5m16 : Ze)) (fu := 4000) (orc := (Zr [] [] [] [] [])) (live := [0, 67, 2, 3, 4, 5, 6, 7, 8, 9, 10, 11, 12, 13, 14, 15, 16, 17, 18, 19, 20, 21, 22, 23, 24]) (tv := fun _ => [some (vp 0 0), some (vi (16 : Int))]) (bl := [some (.cells [vs 67 0 16 16, vn, vp 2 0, vs 3 0 1 1] 86), some cz21, some Zcg, some (.cells [vp 8 0] 87), some Zd2, some (.cells [vs 11 0 16 16, vs 12 0 16 16] 182), some (.cells [vi (1073741824 : Int), vq, vi (1 : Int)] 187), some ZbC, some Zmb, some Zf8, some Zfc, some ZM, some ZM, some ZaD, some Zbx, some cz29, some Zb6, some ZgO, some (.cells [vi (2 : Int), vi (1048594 : Int)] 25), some Zf9, some (.cells [vi (64 : Int), vs 24 0 2 2] 243), some (.cells [vT, vn] 247), some (.cells [vi (1 : Int), vq] 254), some (.ro (Zaq ([(⟨(1 : Int), (0 : Int)⟩ : R_ii)] : List R_ii)) true), some Zkb]) (ob := []) rfl (show 5 ∈ Zq (Zaa 5) from by decide +kernel) (fun gv => by kernel_rfl) Zi rfl (by decide) (by rfl) (fun _ => ⟨rr, ⟨rr, trivial⟩⟩) ⟨sm, ⟨sm, ⟨sm, ⟨sm, ⟨sm, ⟨sm, ⟨sm, ⟨sm, ⟨sm, ⟨sm, ⟨sm, ⟨sm, ⟨sm, ⟨sm, ⟨sm, ⟨sm, ⟨sm, ⟨sm, ⟨sm, ⟨sm, ⟨sm, ⟨sm, ⟨sm, ⟨(show Zaq ([(⟨(1 : Int), (0 : Int)⟩ : R_ii)] : List R_ii) = Zaq ([(⟨(1 : Int), (0 : Int)⟩ : R_ii)] : List R_ii) from rfl), ⟨sm, trivial⟩⟩⟩⟩⟩⟩⟩⟩⟩⟩⟩⟩⟩⟩⟩⟩⟩⟩⟩⟩⟩⟩⟩⟩⟩

theorem Zmr  (N : Nat) : (Zm  N).Ok Tryz.prog Zn (.h5m16 : Ze) (ZA  N (.h5m16 : Ze)) := by
 show (Zm  N).Ok Tryz.prog Zn (.h5m16 : Ze) (Zg5  N)
 unfold Zg5
 exact Mach.ok_next (M := Zm  N) (cd := 1000000) (cm := 0) (y := (.h5m17 : Ze)) (fu := 4000) (orc := (Zr [] [] [] [] [])) (live := [0, 67, 2, 3, 4, 5, 6, 7, 8, 9, 10, 11, 12, 13, 14, 15, 16, 52, 18, 19, 20, 21, 22, 23, 24]) (tv := fun _ => [some (vp 0 0), some (vi (17 : Int))]) (bl := [some (.cells [vs 67 0 17 17, vn, vp 2 0, vs 3 0 1 1] 86), some cz20, some Zcg, some (.cells [vp 8 0] 87), some Zd2, some (.cells [vs 11 0 16 16, vs 12 0 16 16] 182), some (.cells [vi (1073741824 : Int), vq, vi (1 : Int)] 187), some ZbC, some cz52, some Zf8, some Zfc, some ZM, some ZM, some ZaD, some Zbx, some (.cells [vT, vf, vq, vi (4 : Int), vi (5 : Int), vq, vs 52 0 2 2, vs 18 0 1 1, vn, vi (2 : Int), vi (1048577 : Int), vi (5 : Int), vq, vq, vq, vq, vq, vq, vq, Value.func (.func 181) #[vp 15 0] #[], Value.func (.func 182) #[vp 15 0] #[], Value.func (.func 182) #[vp 15 0] #[], vi (1 : Int), vq, vq, vq, vf, vi (2 : Int), vq, vq, vn, vq, Value.nilFunc, vq, vq, vq, vn, vq, vq, vq, vp 2 0, vq, Value.nilFunc, vq, vT, vi (1 : Int), vp 19 0, vp 20 0, vp 21 0, vn, vi (2 : Int), vq, vq] 213), some Zb6, some Zd1, some (.cells [vi (2 : Int), vi (1048594 : Int)] 25), some Zf9, some (.cells [vi (64 : Int), vs 24 0 2 2] 243), some (.cells [vT, vn] 247), some (.cells [vi (1 : Int), vq] 254), some (.ro (Zaq ([(⟨(1 : Int), (0 : Int)⟩ : R_ii)] : List R_ii)) true), some Zkb]) (ob := []) rfl (show 5 ∈ Zq (Zaa 5) from by decide +kernel) (fun gv => by kernel_rfl) Zi rfl (by decide) (by rfl) (fun _ => ⟨rr, ⟨rr, trivial⟩⟩) ⟨sm, ⟨sm, ⟨sm, ⟨sm, ⟨sm, ⟨sm, ⟨sm, ⟨sm, ⟨sm, ⟨sm, ⟨sm, ⟨sm, ⟨sm, ⟨sm, ⟨sm, ⟨sm, ⟨sm, ⟨sm, ⟨sm, ⟨sm, ⟨sm, ⟨sm, ⟨sm, ⟨(show Zaq ([(⟨(1 : Int), (0 : Int)⟩ : R_ii)] : List R_ii) = Zaq ([(⟨(1 : Int), (0 : Int)⟩ : R_ii)] : List R_ii) from rfl), ⟨sm, trivial⟩⟩⟩⟩⟩⟩⟩⟩⟩⟩⟩⟩⟩⟩⟩⟩⟩⟩⟩⟩⟩⟩⟩⟩⟩

theorem Zms  (N : Nat) : (Zm  N).Ok Tryz.prog Zn (.h5m17 : Ze) (ZA  N (.h5m17 : Ze)) := by
 show (Zm  N).Ok Tryz.prog Zn (.h5m17 : Ze) (Zg6  N)
 unfold Zg6
 exact Mach.ok_next (M := Zm  N) (cd := 1000000) (cm := 0) (y := (.h5m18 : Ze)) (fu := 4000) (orc := (Zr [] [] [] [] [])) (live := [0, 103, 2, 3, 4, 5, 6, 7, 8, 9, 10, 11, 12, 13, 14, 15, 16, 17, 18, 19, 20, 21, 22, 23, 92]) (tv := fun _ => [some (vp 0 0), some (vi (18 : Int))]) (bl := [some (.cells [vs 103 0 18 18, vn, vp 2 0, vs 3 0 1 1] 86), some cz12, some Zcg, some (.cells [vp 8 0] 87), some Zd2, some (.cells [vs 11 0 16 16, vs 12 0 16 16] 182), some (.cells [vi (1073741824 : Int), vq, vi (1 : Int)] 187), some ZbC, some Zka, some Zf8, some Zfc, some ZM, some ZM, some ZaD, some Zbx, some cz42, some Zb6, some Zd1, some (.cells [vi (2 : Int), vi (1048594 : Int)] 25), some Zf9, some (.cells [vi (64 : Int), vs 92 0 3 3] 243), some (.cells [vT, vn] 247), some (.cells [vi (1 : Int), vq] 254), some (.ro (Zaq ([(⟨(1 : Int), (0 : Int)⟩ : R_ii)] : List R_ii)) true), some ZsZ]) (ob := []) rfl (show 5 ∈ Zq (Zaa 5) from by decide +kernel) (fun gv => by kernel_rfl) Zi rfl (by decide) (by rfl) (fun _ => ⟨rr, ⟨rr, trivial⟩⟩) ⟨sm, ⟨sm, ⟨sm, ⟨sm, ⟨sm, ⟨sm, ⟨sm, ⟨sm, ⟨sm, ⟨sm, ⟨sm, ⟨sm, ⟨sm, ⟨sm, ⟨sm, ⟨sm, ⟨sm, ⟨sm, ⟨sm, ⟨sm, ⟨sm, ⟨sm, ⟨sm, ⟨(show Zaq ([(⟨(1 : Int), (0 : Int)⟩ : R_ii)] : List R_ii) = Zaq ([(⟨(1 : Int), (0 : Int)⟩ : R_ii)] : List R_ii) from rfl), ⟨sm, trivial⟩⟩⟩⟩⟩⟩⟩⟩⟩⟩⟩⟩⟩⟩⟩⟩⟩⟩⟩⟩⟩⟩⟩⟩⟩

theorem Zmt  (N : Nat) : (Zm  N).Ok Tryz.prog Zn (.h5m18 : Ze) (ZA  N (.h5m18 : Ze)) := by
 show (Zm  N).Ok Tryz.prog Zn (.h5m18 : Ze) (Zg7  N)
 unfold Zg7
 exact Mach.ok_next (M := Zm  N) (cd := 1000000) (cm := 0) (y := (.h5m19 : Ze)) (fu := 4000) (orc := (Zr [] [] [] [] [])) (live := [0, 128, 2, 3, 4, 5, 6, 7, 8, 9, 10, 11, 12, 13, 14, 15, 16, 17, 18, 116, 19, 20, 21, 22, 23, 24]) (tv := fun _ => [some (vp 0 0), some (vi (19 : Int))]) (bl := [some (.cells [vs 128 0 19 19, vn, vp 2 0, vs 3 0 1 1] 86), some cz11, some Zcg, some (.cells [vp 8 0] 87), some Zd2, some (.cells [vs 11 0 16 16, vs 12 0 16 16] 182), some (.cells [vi (1073741824 : Int), vq, vi (1 : Int)] 187), some ZbC, some Zka, some Zf8, some Zfc, some ZM, some ZM, some ZaD, some Zbx, some (.cells [vT, vf, vq, vi (4 : Int), vi (5 : Int), vq, vs 17 0 2 2, vs 18 0 1 1, vn, vi (2 : Int), vi (1048577 : Int), vi (5 : Int), vi (2 : Int), vi (1048594 : Int), vq, vq, vq, vq, vq, Value.func (.func 184) #[vp 15 0] #[], Value.func (.func 184) #[vp 15 0] #[], Value.func (.func 179) #[vp 15 0] #[], vi (1 : Int), vq, vq, vq, vf, vq, vq, vq, vs 116 0 1 1, vq, Value.nilFunc, vq, vq, vq, vn, vq, vq, vq, vp 2 0, vq, Value.func (.func 240) #[vp 15 0] #[], vq, vT, vi (1 : Int), vp 19 0, vp 20 0, vp 21 0, vn, vi (2 : Int), vq, vq] 213), some Zb6, some Zd1, some (.cells [vi (2 : Int), vi (1048594 : Int)] 25), some (.cells [vi (2 : Int), vi (1048594 : Int)] 25), some Zf9, some (.cells [vi (64 : Int), vs 24 0 3 3] 243), some (.cells [vT, vn] 247), some (.cells [vi (1 : Int), vq] 254), some (.ro (Zaq ([(⟨(1 : Int), (0 : Int)⟩ : R_ii)] : List R_ii)) true), some ZsZ]) (ob := []) rfl (show 5 ∈ Zq (Zaa 5) from by decide +kernel) (fun gv => by kernel_rfl) Zi rfl (by decide) (by rfl) (fun _ => ⟨rr, ⟨rr, trivial⟩⟩) ⟨sm, ⟨sm, ⟨sm, ⟨sm, ⟨sm, ⟨sm, ⟨sm, ⟨sm, ⟨sm, ⟨sm, ⟨sm, ⟨sm, ⟨sm, ⟨sm, ⟨sm, ⟨sm, ⟨sm, ⟨sm, ⟨sm, ⟨sm, ⟨sm, ⟨sm, ⟨sm, ⟨sm, ⟨(show Zaq ([(⟨(1 : Int), (0 : Int)⟩ : R_ii)] : List R_ii) = Zaq ([(⟨(1 : Int), (0 : Int)⟩ : R_ii)] : List R_ii) from rfl), ⟨sm, trivial⟩⟩⟩⟩⟩⟩⟩⟩⟩⟩⟩⟩⟩⟩⟩⟩⟩⟩⟩⟩⟩⟩⟩⟩⟩⟩

theorem Zmu  (N : Nat) : (Zm  N).Ok Tryz.prog Zn (.h5m19 : Ze) (ZA  N (.h5m19 : Ze)) := by
 show (Zm  N).Ok Tryz.prog Zn (.h5m19 : Ze) (Zg8  N)
 unfold Zg8
 exact Mach.ok_next (M := Zm  N) (cd := 1000000) (cm := 0) (y := (.h5m20 : Ze)) (fu := 4000) (orc := (Zr [] [] [] [] [])) (live := [0, 70, 2, 3, 4, 5, 6, 7, 8, 9, 10, 11, 12, 13, 14, 15, 16, 17, 18, 19, 20, 21, 22, 23, 24, 53]) (tv := fun _ => [some (vp 0 0), some (vi (20 : Int))]) (bl := [some (.cells [vs 70 0 20 20, vn, vp 2 0, vs 3 0 1 1] 86), some cz10, some Zcg, some (.cells [vp 8 0] 87), some Zd2, some (.cells [vs 11 0 16 16, vs 12 0 16 16] 182), some (.cells [vi (1073741824 : Int), vq, vi (1 : Int)] 187), some ZbC, some Zka, some Zes, some Zfc, some ZM, some ZM, some ZaD, some Zbx, some cz26, some Zb6, some Zd1, some (.cells [vi (2 : Int), vi (1048594 : Int)] 25), some (.cells [vi (2 : Int), vi (1048594 : Int)] 25), some Zkc, some (.cells [vi (64 : Int), vs 53 0 4 4] 243), some (.cells [vT, vn] 247), some (.cells [vi (1 : Int), vq] 254), some (.ro (Zaq ([(⟨(1 : Int), (0 : Int)⟩ : R_ii)] : List R_ii)) true), some ZoW]) (ob := []) rfl (show 5 ∈ Zq (Zaa 5) from by decide +kernel) (fun gv => by kernel_rfl) Zi rfl (by decide) (by rfl) (fun _ => ⟨rr, ⟨rr, trivial⟩⟩) ⟨sm, ⟨sm, ⟨sm, ⟨sm, ⟨sm, ⟨sm, ⟨sm, ⟨sm, ⟨sm, ⟨sm, ⟨sm, ⟨sm, ⟨sm, ⟨sm, ⟨sm, ⟨sm, ⟨sm, ⟨sm, ⟨sm, ⟨sm, ⟨sm, ⟨sm, ⟨sm, ⟨sm, ⟨(show Zaq ([(⟨(1 : Int), (0 : Int)⟩ : R_ii)] : List R_ii) = Zaq ([(⟨(1 : Int), (0 : Int)⟩ : R_ii)] : List R_ii) from rfl), ⟨sm, trivial⟩⟩⟩⟩⟩⟩⟩⟩⟩⟩⟩⟩⟩⟩⟩⟩⟩⟩⟩⟩⟩⟩⟩⟩⟩⟩

theorem Zmv  (N : Nat) : (Zm  N).Ok Tryz.prog Zn (.h5m20 : Ze) (ZA  N (.h5m20 : Ze)) := by
 show (Zm  N).Ok Tryz.prog Zn (.h5m20 : Ze) (Zg9  N)
 unfold Zg9
 exact Mach.ok_next (M := Zm  N) (cd := 1000000) (cm := 0) (y := (.h5m21 : Ze)) (fu := 4000) (orc := (Zr [] [] [] [] [])) (live := [0, 50, 2, 3, 4, 5, 6, 7, 8, 9, 10, 11, 12, 13, 14, 15, 16, 17, 18, 19, 20, 21, 22, 23, 24, 25]) (tv := fun _ => [some (vp 0 0), some (vi (21 : Int))]) (bl := [some (.cells [vs 50 0 21 21, vn, vp 2 0, vs 3 0 1 1] 86), some cz9, some Zcg, some (.cells [vp 8 0] 87), some Zd2, some (.cells [vs 11 0 16 16, vs 12 0 16 16] 182), some (.cells [vi (1073741824 : Int), vq, vi (1 : Int)] 187), some ZbC, some Zka, some Zes, some Zfc, some ZM, some ZM, some ZaD, some Zbx, some cz27, some Zb6, some Zd1, some (.cells [vi (2 : Int), vi (1048594 : Int)] 25), some (.cells [vi (2 : Int), vi (1048594 : Int)] 25), some Zkc, some (.cells [vi (64 : Int), vs 25 0 4 4] 243), some (.cells [vT, vn] 247), some (.cells [vi (1 : Int), vq] 254), some (.ro (Zaq ([(⟨(1 : Int), (0 : Int)⟩ : R_ii)] : List R_ii)) true), some ZoW]) (ob := []) rfl (show 5 ∈ Zq (Zaa 5) from by decide +kernel) (fun gv => by kernel_rfl) Zi rfl (by decide) (by rfl) (fun _ => ⟨rr, ⟨rr, trivial⟩⟩) ⟨sm, ⟨sm, ⟨sm, ⟨sm, ⟨sm, ⟨sm, ⟨sm, ⟨sm, ⟨sm, ⟨sm, ⟨sm, ⟨sm, ⟨sm, ⟨sm, ⟨sm, ⟨sm, ⟨sm, ⟨sm, ⟨sm, ⟨sm, ⟨sm, ⟨sm, ⟨sm, ⟨sm, ⟨(show Zaq ([(⟨(1 : Int), (0 : Int)⟩ : R_ii)] : List R_ii) = Zaq ([(⟨(1 : Int), (0 : Int)⟩ : R_ii)] : List R_ii) from rfl), ⟨sm, trivial⟩⟩⟩⟩⟩⟩⟩⟩⟩⟩⟩⟩⟩⟩⟩⟩⟩⟩⟩⟩⟩⟩⟩⟩⟩⟩

theorem Zmw  (N : Nat) : (Zm  N).Ok Tryz.prog Zn (.h5m21 : Ze) (ZA  N (.h5m21 : Ze)) := by
 show (Zm  N).Ok Tryz.prog Zn (.h5m21 : Ze) (ZgA  N)
 unfold ZgA
 exact Mach.ok_next (M := Zm  N) (cd := 1000000) (cm := 0) (y := (.h5m22 : Ze)) (fu := 4000) (orc := (Zr [(65, true)] [] [] [] [])) (live := [0, 54, 2, 3, 4, 5, 6, 7, 8, 9, 10, 11, 12, 13, 14, 15, 16, 17, 18, 19, 20, 21, 22, 23, 24, 25, 42]) (tv := fun _ => [some (vp 0 0), some (vi (22 : Int))]) (bl := [some (.cells [vs 54 0 22 22, vn, vp 2 0, vs 3 0 1 1] 86), some cz8, some Zcg, some (.cells [vp 8 0] 87), some Zd2, some (.cells [vs 11 0 16 16, vs 12 0 16 16] 182), some (.cells [vi (1073741824 : Int), vq, vi (1 : Int)] 187), some ZbC, some Zka, some Zes, some Zfc, some ZdH, some ZdH, some ZaD, some Zbx, some cz28, some Zb6, some Zd1, some (.cells [vi (2 : Int), vi (1048594 : Int)] 25), some (.cells [vi (2 : Int), vi (1048594 : Int)] 25), some Zkc, some (.cells [vi (64 : Int), vs 25 0 4 4] 243), some (.cells [vT, vs 42 0 1 1] 247), some (.cells [vi (1 : Int), vq] 254), some (.ro (Zaq ([(⟨(1 : Int), (0 : Int)⟩ : R_ii)] : List R_ii)) true), some ZoW, some (.cells [vi (1 : Int), vq] 254)]) (ob := [(((0 : Int) == (0 : Int)), true)]) rfl (show 5 ∈ Zq (Zaa 5) from by decide +kernel) (fun gv => by kernel_rfl) (oT Zi) rfl (by decide) (by rfl) (fun _ => ⟨rr, ⟨rr, trivial⟩⟩) ⟨sm, ⟨sm, ⟨sm, ⟨sm, ⟨sm, ⟨sm, ⟨sm, ⟨sm, ⟨sm, ⟨sm, ⟨sm, ⟨sm, ⟨sm, ⟨sm, ⟨sm, ⟨sm, ⟨sm, ⟨sm, ⟨sm, ⟨sm, ⟨sm, ⟨sm, ⟨sm, ⟨sm, ⟨(show Zaq ([(⟨(1 : Int), (0 : Int)⟩ : R_ii)] : List R_ii) = Zaq ([(⟨(1 : Int), (0 : Int)⟩ : R_ii)] : List R_ii) from rfl), ⟨sm, ⟨sm, trivial⟩⟩⟩⟩⟩⟩⟩⟩⟩⟩⟩⟩⟩⟩⟩⟩⟩⟩⟩⟩⟩⟩⟩⟩⟩⟩⟩

theorem Zmx  (N : Nat) : (Zm  N).Ok Tryz.prog Zn (.h5m22 : Ze) (ZA  N (.h5m22 : Ze)) := by
 show (Zm  N).Ok Tryz.prog Zn (.h5m22 : Ze) (ZgB  N)
 unfold ZgB
 exact Mach.ok_next (M := Zm  N) (cd := 1000000) (cm := 0) (y := (.h5m23 : Ze)) (fu := 4000) (orc := (Zr [] [] [] [] [])) (live := [0, 85, 2, 3, 4, 5, 6, 7, 8, 9, 10, 11, 12, 13, 14, 15, 16, 17, 18, 19, 20, 21, 22, 23, 24, 74, 26]) (tv := fun _ => [some (vp 0 0), some (vi (23 : Int))]) (bl := [some (.cells [vs 85 0 23 23, vn, vp 2 0, vs 3 0 1 1] 86), some cz7, some Zcg, some (.cells [vp 8 0] 87), some Zd2, some (.cells [vs 11 0 16 16, vs 12 0 16 16] 182), some (.cells [vi (1073741824 : Int), vq, vi (1 : Int)] 187), some ZbC, some ZqV, some Zes, some ZgM, some ZdH, some ZdH, some ZaD, some Zbx, some cz35, some Zb6, some Zd1, some (.cells [vi (2 : Int), vi (1048594 : Int)] 25), some (.cells [vi (2 : Int), vi (1048594 : Int)] 25), some Zkc, some (.cells [vi (64 : Int), vs 74 0 5 5] 243), some (.cells [vT, vs 26 0 1 1] 247), some (.cells [vi (1 : Int), vq] 254), some (.ro (Zaq ([(⟨(1 : Int), (0 : Int)⟩ : R_ii)] : List R_ii)) true), some ZgN, some (.cells [vi (1 : Int), vq] 254)]) (ob := []) rfl (show 5 ∈ Zq (Zaa 5) from by decide +kernel) (fun gv => by kernel_rfl) Zi rfl (by decide) (by rfl) (fun _ => ⟨rr, ⟨rr, trivial⟩⟩) ⟨sm, ⟨sm, ⟨sm, ⟨sm, ⟨sm, ⟨sm, ⟨sm, ⟨sm, ⟨sm, ⟨sm, ⟨sm, ⟨sm, ⟨sm, ⟨sm, ⟨sm, ⟨sm, ⟨sm, ⟨sm, ⟨sm, ⟨sm, ⟨sm, ⟨sm, ⟨sm, ⟨sm, ⟨(show Zaq ([(⟨(1 : Int), (0 : Int)⟩ : R_ii)] : List R_ii) = Zaq ([(⟨(1 : Int), (0 : Int)⟩ : R_ii)] : List R_ii) from rfl), ⟨sm, ⟨sm, trivial⟩⟩⟩⟩⟩⟩⟩⟩⟩⟩⟩⟩⟩⟩⟩⟩⟩⟩⟩⟩⟩⟩⟩⟩⟩⟩⟩

theorem Zmy  (N : Nat) : (Zm  N).Ok Tryz.prog Zn (.h5m23 : Ze) (ZA  N (.h5m23 : Ze)) := by
 show (Zm  N).Ok Tryz.prog Zn (.h5m23 : Ze) (ZgC  N)
 unfold ZgC
 exact Mach.ok_next (M := Zm  N) (cd := 1000000) (cm := 0) (y := (.h5m24 : Ze)) (fu := 4000) (orc := (Zr [] [] [] [] [])) (live := [0, 49, 2, 3, 4, 5, 6, 7, 8, 9, 10, 11, 12, 13, 14, 15, 16, 17, 18, 20, 21, 22, 23, 24, 25, 26]) (tv := fun _ => [some (vp 0 0), some (vi (24 : Int))]) (bl := [some (.cells [vs 49 0 24 24, vn, vp 2 0, vs 3 0 1 1] 86), some cz6, some Zu4, some (.cells [vp 8 0] 87), some Zd2, some (.cells [vs 11 0 16 16, vs 12 0 16 16] 182), some (.cells [vi (1073741824 : Int), vi (1 : Int), vi (1 : Int)] 187), some ZbC, some ZqV, some Zes, some ZgM, some ZdH, some ZdH, some ZaD, some Zbx, some (.cells [vT, vf, vq, vi (4 : Int), vi (5 : Int), vi (24 : Int), vs 17 0 2 2, vs 18 0 1 1, vn, vq, vq, vq, vq, vq, vq, vq, vq, vq, vq, Value.nilFunc, Value.nilFunc, Value.nilFunc, vq, vq, vq, vq, vf, vq, vq, vq, vn, vq, Value.func (.func 215) #[vp 15 0] #[], vq, vq, vi (1 : Int), vn, vq, vq, vq, vp 2 0, vq, Value.func (.func 216) #[vp 15 0] #[], vq, vT, vi (1 : Int), vp 20 0, vp 21 0, vp 22 0, vn, vi (2 : Int), vq, vq] 213), some Zb6, some Zd1, some (.cells [vi (2 : Int), vi (1048594 : Int)] 25), some Zkc, some (.cells [vi (64 : Int), vs 25 0 5 5] 243), some (.cells [vT, vs 26 0 1 1] 247), some (.cells [vi (1 : Int), vq] 254), some (.ro (Zaq ([(⟨(1 : Int), (0 : Int)⟩ : R_ii)] : List R_ii)) true), some ZgN, some (.cells [vi (1 : Int), vq] 254)]) (ob := []) rfl (show 5 ∈ Zq (Zaa 5) from by decide +kernel) (fun gv => by kernel_rfl) Zi rfl (by decide) (by rfl) (fun _ => ⟨rr, ⟨rr, trivial⟩⟩) ⟨sm, ⟨sm, ⟨sm, ⟨sm, ⟨sm, ⟨sm, ⟨sm, ⟨sm, ⟨sm, ⟨sm, ⟨sm, ⟨sm, ⟨sm, ⟨sm, ⟨sm, ⟨sm, ⟨sm, ⟨sm, ⟨sm, ⟨sm, ⟨sm, ⟨sm, ⟨sm, ⟨(show Zaq ([(⟨(1 : Int), (0 : Int)⟩ : R_ii)] : List R_ii) = Zaq ([(⟨(1 : Int), (0 : Int)⟩ : R_ii)] : List R_ii) from rfl), ⟨sm, ⟨sm, trivial⟩⟩⟩⟩⟩⟩⟩⟩⟩⟩⟩⟩⟩⟩⟩⟩⟩⟩⟩⟩⟩⟩⟩⟩⟩⟩

theorem Zmz  (N : Nat) : (Zm  N).Ok Tryz.prog Zn (.h5m24 : Ze) (ZA  N (.h5m24 : Ze)) := by
 show (Zm  N).Ok Tryz.prog Zn (.h5m24 : Ze) (ZgD  N)
 unfold ZgD
 exact Mach.ok_next (M := Zm  N) (cd := 1000000) (cm := 0) (y := (.h5m25 : Ze)) (fu := 4000) (orc := (Zr [] [] [] [] [])) (live := [0, 60, 63, 2, 3, 51, 4, 5, 6, 7, 8, 9, 10, 11, 12, 13, 14, 15, 16, 17, 18, 19, 20, 21, 22, 23, 24, 25]) (tv := fun _ => [some (vp 0 0), some (vi (25 : Int))]) (bl := [some (.cells [vs 60 0 25 25, vs 63 0 1 1, vp 2 0, vs 3 0 1 1] 86), some cz5, some (.cells [vi (2 : Int), vq, vi (3 : Int), vi (4 : Int), vi (24 : Int), vi (25 : Int), vs 51 0 1 1, vq] 94), some Zu4, some (.cells [vp 8 0] 87), some (.cells [vi (2 : Int), vi (1048594 : Int)] 25), some Zd2, some (.cells [vs 11 0 16 16, vs 12 0 16 16] 182), some (.cells [vi (1073741824 : Int), vi (1 : Int), vi (1 : Int)] 187), some ZbC, some ZqV, some Zes, some ZgM, some ZdH, some ZdH, some ZaD, some Zbx, some (.cells [vT, vT, vq, vi (4 : Int), vi (5 : Int), vi (24 : Int), vs 17 0 2 2, vs 18 0 1 1, vn, vq, vq, vq, vq, vq, vq, vq, vq, vq, vq, Value.nilFunc, Value.nilFunc, Value.nilFunc, vq, vq, vq, vq, vf, vq, vq, vq, vn, vi (1 : Int), Value.func (.func 215) #[vp 15 0] #[], vq, vq, vi (1 : Int), vn, vq, vq, vq, vp 2 0, vq, Value.func (.func 267) #[vp 15 0] #[], vq, vT, vi (1 : Int), vp 19 0, vp 20 0, vp 21 0, vn, vi (2 : Int), vq, vq] 213), some Zb6, some Zd1, some (.cells [vi (2 : Int), vi (1048594 : Int)] 25), some Zf9, some (.cells [vi (64 : Int), vs 24 0 5 5] 243), some (.cells [vT, vs 25 0 1 1] 247), some (.cells [vi (1 : Int), vq] 254), some (.ro (Zaq ([(⟨(1 : Int), (0 : Int)⟩ : R_ii)] : List R_ii)) true), some ZgN, some (.cells [vi (1 : Int), vq] 254)]) (ob := []) rfl (show 5 ∈ Zq (Zaa 5) from by decide +kernel) (fun gv => by kernel_rfl) Zi rfl (by decide) (by rfl) (fun _ => ⟨rr, ⟨rr, trivial⟩⟩) ⟨sm, ⟨sm, ⟨sm, ⟨sm, ⟨sm, ⟨sm, ⟨sm, ⟨sm, ⟨sm, ⟨sm, ⟨sm, ⟨sm, ⟨sm, ⟨sm, ⟨sm, ⟨sm, ⟨sm, ⟨sm, ⟨sm, ⟨sm, ⟨sm, ⟨sm, ⟨sm, ⟨sm, ⟨sm, ⟨(show Zaq ([(⟨(1 : Int), (0 : Int)⟩ : R_ii)] : List R_ii) = Zaq ([(⟨(1 : Int), (0 : Int)⟩ : R_ii)] : List R_ii) from rfl), ⟨sm, ⟨sm, trivial⟩⟩⟩⟩⟩⟩⟩⟩⟩⟩⟩⟩⟩⟩⟩⟩⟩⟩⟩⟩⟩⟩⟩⟩⟩⟩⟩⟩

theorem Zm0  (N : Nat) : (Zm  N).Ok Tryz.prog Zn (.h5m25 : Ze) (ZA  N (.h5m25 : Ze)) := by
 show (Zm  N).Ok Tryz.prog Zn (.h5m25 : Ze) (ZgE  N)
 unfold ZgE
 exact Mach.ok_next (M := Zm  N) (cd := 1000000) (cm := 0) (y := (.h5m26 : Ze)) (fu := 4000) (orc := (Zr [] [] [] [] [])) (live := [0, 59, 2, 3, 4, 5, 6, 7, 8, 9, 10, 11, 12, 13, 14, 15, 16, 17, 18, 19, 20, 21, 22, 23, 24, 25, 26, 27]) (tv := fun _ => [some (vp 0 0), some (vi (26 : Int))]) (bl := [some (.cells [vs 59 0 26 26, vs 2 0 1 1, vp 3 0, vs 4 0 1 1] 86), some cz4, some ZjC, some Zu5, some (.cells [vp 10 0] 87), some (.cells [vi (2 : Int), vi (1048594 : Int)] 25), some ZjB, some (.cells [vs 13 0 16 16, vs 14 0 16 16] 182), some (.cells [vi (1073741824 : Int), vi (1 : Int), vi (1 : Int)] 187), some ZbC, some ZnT, some Zes, some ZgM, some Zkd, some ZdH, some ZaD, some Zbx, some cz44, some ZjA, some Zd1, some (.cells [vi (2 : Int), vi (1048594 : Int)] 25), some ZkZ, some (.cells [vi (64 : Int), vs 26 0 5 5] 243), some (.cells [vT, vs 27 0 0 1] 247), some (.cells [vi (1 : Int), vq] 254), some (.ro (Zaq ([(⟨(1 : Int), (0 : Int)⟩ : R_ii)] : List R_ii)) true), some ZgN, some (.cells [vi (1 : Int), vq] 254)]) (ob := []) rfl (show 5 ∈ Zq (Zaa 5) from by decide +kernel) (fun gv => by kernel_rfl) Zi rfl (by decide) (by rfl) (fun _ => ⟨rr, ⟨rr, trivial⟩⟩) ⟨sm, ⟨sm, ⟨sm, ⟨sm, ⟨sm, ⟨sm, ⟨sm, ⟨sm, ⟨sm, ⟨sm, ⟨sm, ⟨sm, ⟨sm, ⟨sm, ⟨sm, ⟨sm, ⟨sm, ⟨sm, ⟨sm, ⟨sm, ⟨sm, ⟨sm, ⟨sm, ⟨sm, ⟨sm, ⟨(show Zaq ([(⟨(1 : Int), (0 : Int)⟩ : R_ii)] : List R_ii) = Zaq ([(⟨(1 : Int), (0 : Int)⟩ : R_ii)] : List R_ii) from rfl), ⟨sm, ⟨sm, trivial⟩⟩⟩⟩⟩⟩⟩⟩⟩⟩⟩⟩⟩⟩⟩⟩⟩⟩⟩⟩⟩⟩⟩⟩⟩⟩⟩⟩

theorem Zm1  (N : Nat) : (Zm  N).Ok Tryz.prog Zn (.h5m26 : Ze) (ZA  N (.h5m26 : Ze)) := by
 show (Zm  N).Ok Tryz.prog Zn (.h5m26 : Ze) (ZgF  N)
 unfold ZgF
 exact Mach.ok_next (M := Zm  N) (cd := 1000000) (cm := 0) (y := (.h5m27 : Ze)) (fu := 4000) (orc := (Zr [] [] [] [] [])) (live := [0, 47, 2, 3, 4, 5, 6, 7, 8, 9, 10, 11, 12, 13, 14, 15, 16, 17, 18, 19, 20, 21, 22, 23, 24, 25, 26, 27]) (tv := fun _ => [some (vp 0 0), some (vi (27 : Int))]) (bl := [some (.cells [vs 47 0 27 27, vs 2 0 1 1, vp 3 0, vs 4 0 1 1] 86), some cz3, some ZjC, some Zma, some (.cells [vp 10 0] 87), some (.cells [vi (2 : Int), vi (1048594 : Int)] 25), some ZjB, some (.cells [vs 13 0 16 16, vs 14 0 16 16] 182), some (.cells [vi (1073741824 : Int), vi (1 : Int), vi (1 : Int)] 187), some Zmd, some ZnT, some Zes, some ZgM, some Zkd, some ZdH, some ZaD, some Zbx, some cz45, some ZjA, some Zd1, some (.cells [vi (2 : Int), vi (1048594 : Int)] 25), some ZkZ, some (.cells [vi (64 : Int), vs 26 0 5 5] 243), some (.cells [vT, vs 27 0 0 1] 247), some (.cells [vi (1 : Int), vq] 254), some (.ro (Zaq ([(⟨(1 : Int), (0 : Int)⟩ : R_ii)] : List R_ii)) true), some ZgN, some (.cells [vi (1 : Int), vq] 254)]) (ob := []) rfl (show 5 ∈ Zq (Zaa 5) from by decide +kernel) (fun gv => by kernel_rfl) Zi rfl (by decide) (by rfl) (fun _ => ⟨rr, ⟨rr, trivial⟩⟩) ⟨sm, ⟨sm, ⟨sm, ⟨sm, ⟨sm, ⟨sm, ⟨sm, ⟨sm, ⟨sm, ⟨sm, ⟨sm, ⟨sm, ⟨sm, ⟨sm, ⟨sm, ⟨sm, ⟨sm, ⟨sm, ⟨sm, ⟨sm, ⟨sm, ⟨sm, ⟨sm, ⟨sm, ⟨sm, ⟨(show Zaq ([(⟨(1 : Int), (0 : Int)⟩ : R_ii)] : List R_ii) = Zaq ([(⟨(1 : Int), (0 : Int)⟩ : R_ii)] : List R_ii) from rfl), ⟨sm, ⟨sm, trivial⟩⟩⟩⟩⟩⟩⟩⟩⟩⟩⟩⟩⟩⟩⟩⟩⟩⟩⟩⟩⟩⟩⟩⟩⟩⟩⟩⟩

theorem Zm2  (N : Nat) : (Zm  N).Ok Tryz.prog Zn (.h5m27 : Ze) (ZA  N (.h5m27 : Ze)) := by
 show (Zm  N).Ok Tryz.prog Zn (.h5m27 : Ze) (ZgG  N)
 unfold ZgG
 exact Mach.ok_next (M := Zm  N) (cd := 1000000) (cm := 0) (y := (.h5m28 : Ze)) (fu := 4000) (orc := (Zr [] [] [] [] [])) (live := [0, 49, 2, 3, 4, 5, 6, 7, 8, 9, 10, 11, 12, 13, 14, 15, 16, 17, 18, 19, 20, 37, 21, 22, 23, 24, 25, 26, 27]) (tv := fun _ => [some (vp 0 0), some (vi (28 : Int))]) (bl := [some (.cells [vs 49 0 28 28, vs 2 0 1 1, vp 3 0, vs 4 0 1 1] 86), some cz2, some ZjC, some Zma, some (.cells [vp 10 0] 87), some (.cells [vi (2 : Int), vi (1048594 : Int)] 25), some ZjB, some (.cells [vs 13 0 16 16, vs 14 0 16 16] 182), some (.cells [vi (1073741824 : Int), vi (1 : Int), vi (1 : Int)] 187), some Zmd, some ZnT, some Zes, some ZgM, some Zkd, some ZdH, some ZaD, some Zbx, some (.cells [vT, vT, vq, vi (4 : Int), vi (5 : Int), vi (24 : Int), vs 19 0 2 2, vs 20 0 1 1, vn, vq, vq, vq, vq, vq, vq, vq, vq, vq, vq, Value.nilFunc, Value.nilFunc, Value.nilFunc, vq, vq, vq, vq, vf, vq, vq, vq, vn, vi (1 : Int), Value.func (.func 215) #[vp 17 0] #[], vq, vq, vi (1 : Int), vs 37 0 1 1, vq, vq, vq, vp 3 0, vq, Value.func (.func 342) #[vp 17 0] #[], vq, vT, vi (1 : Int), vp 21 0, vp 22 0, vp 23 0, vn, vi (2 : Int), vq, vq] 213), some ZjA, some Zd1, some (.cells [vi (2 : Int), vi (1048594 : Int)] 25), some (.cells [vi (2 : Int)] 3), some ZkZ, some (.cells [vi (64 : Int), vs 26 0 5 5] 243), some (.cells [vT, vs 27 0 0 1] 247), some (.cells [vi (1 : Int), vq] 254), some (.ro (Zaq ([(⟨(1 : Int), (0 : Int)⟩ : R_ii)] : List R_ii)) true), some ZgN, some (.cells [vi (1 : Int), vq] 254)]) (ob := []) rfl (show 5 ∈ Zq (Zaa 5) from by decide +kernel) (fun gv => by kernel_rfl) Zi rfl (by decide) (by rfl) (fun _ => ⟨rr, ⟨rr, trivial⟩⟩) ⟨sm, ⟨sm, ⟨sm, ⟨sm, ⟨sm, ⟨sm, ⟨sm, ⟨sm, ⟨sm, ⟨sm, ⟨sm, ⟨sm, ⟨sm, ⟨sm, ⟨sm, ⟨sm, ⟨sm, ⟨sm, ⟨sm, ⟨sm, ⟨sm, ⟨sm, ⟨sm, ⟨sm, ⟨sm, ⟨sm, ⟨(show Zaq ([(⟨(1 : Int), (0 : Int)⟩ : R_ii)] : List R_ii) = Zaq ([(⟨(1 : Int), (0 : Int)⟩ : R_ii)] : List R_ii) from rfl), ⟨sm, ⟨sm, trivial⟩⟩⟩⟩⟩⟩⟩⟩⟩⟩⟩⟩⟩⟩⟩⟩⟩⟩⟩⟩⟩⟩⟩⟩⟩⟩⟩⟩⟩

end Ev
end Go.Proofs.YtjdojnecmplmnaaGreat
