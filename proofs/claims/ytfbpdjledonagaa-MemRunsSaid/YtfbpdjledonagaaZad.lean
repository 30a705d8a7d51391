/- Part 4. -/
import Derived.Test.YtfbpdjledonagaaZac
/- Calls do what the plain functions say. -/
namespace Go.Proofs.Ytfbpdjledonagaa
open Go.RowKit
namespace Ev
set_option linter.unusedVariables false
set_option maxRecDepth 100000
abbrev kza : AObj := .cells [vi 1, vi 2, vi 1048577, vi 1, vi 16, vi 255, vi 2, vq, vs 16 0 16 16] 174
abbrev kzb : AObj := .cells [vi 1, vi 2, vi 1048577, vi 1, vi 16, vi 255, vi 2, vq, vs 21 0 16 16] 174
abbrev kzc : AObj := .cells [vq, vq, vq, vq, vq, vq, vq, vq, vn, vn, vn, vq, vq, vq, vn, vn] 43
abbrev kzd : AObj := .cells [vi 1, vi 2, vi 1048577, vi 1, vi 16, vi 255, vi 2, vq, vs 15 0 16 16] 174
abbrev kze : AObj := .cells [vi 1, vi 2, vi 1048577, vi 1, vi 16, vi 255, vi 2, vq, vs 14 0 16 16] 174
noncomputable def Zkk (a0 : Int) : ZbC → Value
 | .r0 => Value.tuple #[Value.pointer none, vi 1]
 | .r1 => Value.tuple #[vp 0 0, vq]
noncomputable def Zjp (a0 : Int) : ZbC → List (Option AObj)
 | .r0 => []
 | .r1 => [some (.cells [vi a0, vs 1 0 17 17, vs 2 0 17 17, vn, vn, vn, vn, vn, vn, vn, vn, vn, vn, vn, vn, vn, vn, vn, vn, vn] 134), some (.cells (Zb Zl klc) 129), some (.cells (Zb Zj kla) 72)]

theorem Zmf (a0 : Int) (N : Nat) : Gx Try.prog 45 [] #[vi a0] (Zkk a0) (Zjp a0) (Zde a0 N) := by
 unfold Zde
 refine Z2 (fun g0 => ?_) (fun g0 => ?_)
 ·
  exact Zx Zw (r := (.r0 : ZbC)) (fu := 4000) (orc := (Zo [(0, true)] [] [] [] [])) (live := []) (u := Value.tuple #[Value.pointer none, vi 1]) (bl := []) (ob := [((decide (a0 < (17 : Int))), true)]) (by kernel_rfl) (oY Zi) rfl (by decide) (by rfl) rr trivial (Zu _ rfl)
 ·
  refine Z2 (fun g1 => ?_) (fun g1 => ?_)
  ·
   exact Zx Zw (r := (.r0 : ZbC)) (fu := 4000) (orc := (Zo [(0, false), (1, true)] [] [] [] [])) (live := []) (u := Value.tuple #[Value.pointer none, vi 1]) (bl := []) (ob := [((decide (a0 > (65536 : Int))), true), ((decide (a0 < (17 : Int))), false)]) (by kernel_rfl) (oY <| oN Zi) rfl (by decide) (by rfl) rr trivial (Zu _ rfl)
  ·
   exact Zx Zw (r := (.r1 : ZbC)) (fu := 4000) (orc := (Zo [(0, false), (1, false)] [] [] [] [])) (live := [0, 2, 3]) (u := Value.tuple #[vp 0 0, vq]) (bl := [some (.cells [vi a0, vs 2 0 17 17, vs 3 0 17 17, vn, vn, vn, vn, vn, vn, vn, vn, vn, vn, vn, vn, vn, vn, vn, vn, vn] 134), some (.cells [vi 1, vi 16, vi 255, vi 2, vq, vq, vq, vq, vq, vq, vq, vq, vq, vq, vq, vq, vq, vq, vq, vq, vq, vq, vq, vq, vq, vq, vq, vq, vq, vq, vq, vq, vq, vq, vq, vq, vq, vq, vq, vq, vq, vq, vq, vq, vq, vq, vq, vq, vq, vq, vq, vq, vq, vq, vq, vq, vq, vq, vq, vq, vq, vq, vq, vq, vq, vq, vq, vq, vq, vq, vq, vq, vq, vq, vq, vq, vq, vq, vq, vq, vq, vq, vq, vq, vq] 129), some (.cells [vq, vq, vi 2, vq, vi 2, vq, vi 2, vq, vi 2, vq, vi 2, vq, vi 2, vq, vi 2, vq, vi 2, vq, vi 1, vq, vi 1, vq, vi 1, vq, vi 1, vq, vi 1, vq, vi 1, vq, vi 1, vq, vi 1, vq] 72)]) (ob := [((decide (a0 > (65536 : Int))), false), ((decide (a0 < (17 : Int))), false)]) (by kernel_rfl) (oN <| oN Zi) rfl (by decide) (by rfl) rr ⟨⟨rfl, ⟨[], by rfl⟩, by rfl⟩, ⟨(ZeV (E := Zl) _ (L := klc) _ (show ([vi 1, vi 16, vi 255, vi 2, vq, vq, vq, vq, vq, vq, vq, vq, vq, vq, vq, vq, vq, vq, vq, vq, vq, vq, vq, vq, vq, vq, vq, vq, vq, vq, vq, vq, vq, vq, vq, vq, vq, vq, vq, vq, vq, vq, vq, vq, vq, vq, vq, vq, vq, vq, vq, vq, vq, vq, vq, vq, vq, vq, vq, vq, vq, vq, vq, vq, vq, vq, vq, vq, vq, vq, vq, vq, vq, vq, vq, vq, vq, vq, vq, vq, vq, vq, vq, vq, vq] : List Value) = Zb Zl klc from rfl)), ⟨(ZeV (E := Zj) _ (L := kla) _ (show ([vq, vq, vi 2, vq, vi 2, vq, vi 2, vq, vi 2, vq, vi 2, vq, vi 2, vq, vi 2, vq, vi 2, vq, vi 1, vq, vi 1, vq, vi 1, vq, vi 1, vq, vi 1, vq, vi 1, vq, vi 1, vq, vi 1, vq] : List Value) = Zb Zj kla from rfl)), trivial⟩⟩⟩ (Zu _ rfl)

theorem ZgF (a0 : Int) (N : Nat) (r : ZbC) (h : Zde a0 N = some r) : LSpec Try.prog 45 #[vi a0] [] (Zkk a0 r) (Zjp a0 r) :=
 (Zmf a0 N) r h

noncomputable def Zci (a0 : Int) (n : Nat) : ZaD := .call [] (Value.tuple #[Value.pointer none, vi 1]) [] 0
def Zb9 (A : Array Value) (a0 : Int) (n : Nat) : Prop := ZH Try.prog 45 A [] (Value.tuple #[Value.pointer none, vi 1]) [] n 0

theorem Zcj (A : Array Value) (a0 : Int) (N : Nat) (h : Zde a0 N = some (.r0)) (n : Nat) (hA : A = #[vi a0]) (hnd : ([] : List Nat).Nodup) (hlt : ∀ k ∈ ([] : List Nat), k < n) : Zb9 A a0  n :=
 Zah hA (LSpec.callL (show LSpec Try.prog 45 #[vi a0] [] (Value.tuple #[Value.pointer none, vi 1]) [] from ZgF a0 N _ h) [] n [] rfl hnd hlt (show 0 ≤ 0 from by decide) (show ∀ j ∈ ([] : List Nat), j < 0 from by decide) (by rfl) trivial (by rfl) trivial trivial rfl rfl rfl rfl rfl)

noncomputable def ZaH (a0 : Int) (n : Nat) : ZaD := .call [] (Value.tuple #[vp n 0, vq]) [(n, some (.cells [vi a0, vs (n + 1) 0 17 17, vs (n + 2) 0 17 17, vn, vn, vn, vn, vn, vn, vn, vn, vn, vn, vn, vn, vn, vn, vn, vn, vn] 134)), ((n + 1), some (.cells (Zb Zl klc) 129)), ((n + 2), some (.cells (Zb Zj kla) 72))] 3
def Za6 (A : Array Value) (a0 : Int) (n : Nat) : Prop := ZH Try.prog 45 A [] (Value.tuple #[vp n 0, vq]) [(n, some (.cells [vi a0, vs (n + 1) 0 17 17, vs (n + 2) 0 17 17, vn, vn, vn, vn, vn, vn, vn, vn, vn, vn, vn, vn, vn, vn, vn, vn, vn] 134)), ((n + 1), some (.cells (Zb Zl klc) 129)), ((n + 2), some (.cells (Zb Zj kla) 72))] n 3

theorem ZaI (A : Array Value) (a0 : Int) (N : Nat) (h : Zde a0 N = some (.r1)) (n : Nat) (hA : A = #[vi a0]) (hnd : ([] : List Nat).Nodup) (hlt : ∀ k ∈ ([] : List Nat), k < n) : Za6 A a0  n :=
 Zah hA (LSpec.callL (show LSpec Try.prog 45 #[vi a0] [] (Value.tuple #[vp 0 0, vq]) [some (.cells [vi a0, vs 1 0 17 17, vs 2 0 17 17, vn, vn, vn, vn, vn, vn, vn, vn, vn, vn, vn, vn, vn, vn, vn, vn, vn] 134), some (.cells (Zb Zl klc) 129), some (.cells (Zb Zj kla) 72)] from ZgF a0 N _ h) [] n [0, 1, 2] rfl hnd hlt (show 0 ≤ 3 from by decide) (show ∀ j ∈ ([0, 1, 2] : List Nat), j < 3 from by decide) (by rfl) trivial (by rfl) ⟨rfl, ⟨(ZC _ _ _), ⟨(ZC _ _ _), trivial⟩⟩⟩ ⟨(by decide), ⟨(by decide), ⟨(by decide), trivial⟩⟩⟩ rfl rfl rfl rfl (Zd (ZB rfl (ZY rfl)) (Zd (ZB rfl (ZY (ZU _ _ _))) (Zd (ZB rfl (ZY (ZU _ _ _))) rfl))))

noncomputable def Zkl (a0 : Int) : ZbD → Value
 | .r0 => Value.tuple #[Value.pointer none, vi 30]
 | .r1 => Value.tuple #[vp 0 0, vq]
noncomputable def Zjq (a0 : Int) : ZbD → List (Option AObj)
 | .r0 => []
 | .r1 => [some (.cells [vs 1 0 (a0).toNat (a0).toNat, vs 2 0 (a0).toNat (a0).toNat] 158), some (.cells (Zb eI (List.replicate (a0).toNat (0 : Int))) 155), some (.cells (Zb eI (List.replicate (a0).toNat (0 : Int))) 155)]

theorem Zmg (a0 : Int) (N : Nat) : Gx Try.prog 46 [] #[vi a0] (Zkl a0) (Zjq a0) (ZbN a0 N) := by
 unfold ZbN
 refine Z2 (fun g0 => ?_) (fun g0 => ?_)
 ·
  exact Zx Zw (r := (.r0 : ZbD)) (fu := 4000) (orc := (Zo [(0, true)] [] [] [] [])) (live := []) (u := Value.tuple #[Value.pointer none, vi 30]) (bl := []) (ob := [((decide (a0 < (1 : Int))), true)]) (by kernel_rfl) (oY Zi) rfl (by decide) (by rfl) rr trivial (Zu _ rfl)
 ·
  refine Z2 (fun g1 => ?_) (fun g1 => ?_)
  ·
   exact Zx Zw (r := (.r0 : ZbD)) (fu := 4000) (orc := (Zo [(0, false), (1, true)] [] [] [] [])) (live := []) (u := Value.tuple #[Value.pointer none, vi 30]) (bl := []) (ob := [((decide (a0 > (1024 : Int))), true), ((decide (a0 < (1 : Int))), false)]) (by kernel_rfl) (oY <| oN Zi) rfl (by decide) (by rfl) rr trivial (Zu _ rfl)
  ·
   exact Zx Zw (r := (.r1 : ZbD)) (fu := 4000) (orc := (Zo [(0, false), (1, false)] [] [] [] [(0, .mk (a0).toNat (a0).toNat (Zb eI (List.replicate (a0).toNat (0 : Int)))), (1, .mk (a0).toNat (a0).toNat (Zb eI (List.replicate (a0).toNat (0 : Int))))])) (live := [2, 0, 1]) (u := Value.tuple #[vp 2 0, vq]) (bl := [some (.cells [vs 0 0 (a0).toNat (a0).toNat, vs 1 0 (a0).toNat (a0).toNat] 158), some (.cells (Zb eI (List.replicate (a0).toNat (0 : Int))) 155), some (.cells (Zb eI (List.replicate (a0).toNat (0 : Int))) 155)]) (ob := [(dP ((a0).toNat ≤ (a0).toNat ∧ (a0).toNat ≤ 100000 ∧ Ev.rep [vq] ((a0).toNat * 1) = (Zb eI (List.replicate (a0).toNat (0 : Int)))), true), (a0 == Int.ofNat (a0).toNat, true), (a0 == Int.ofNat (a0).toNat, true), (dP ((a0).toNat ≤ (a0).toNat ∧ (a0).toNat ≤ 100000 ∧ Ev.rep [vq] ((a0).toNat * 1) = (Zb eI (List.replicate (a0).toNat (0 : Int)))), true), (a0 == Int.ofNat (a0).toNat, true), (a0 == Int.ofNat (a0).toNat, true), ((decide (a0 > (1024 : Int))), false), ((decide (a0 < (1 : Int))), false)]) (by kernel_rfl) (Zc (Zm ⟨by omega, by omega, Zfw (E := eI) (0 : Int) (a0).toNat (by decide) rfl rfl⟩) <| oI <| oI <| Zc (Zm ⟨by omega, by omega, Zfw (E := eI) (0 : Int) (a0).toNat (by decide) rfl rfl⟩) <| oI <| oI <| oN <| oN Zi) rfl (by decide) (by rfl) rr ⟨⟨rfl, ⟨[], by rfl⟩, by rfl⟩, ⟨(Za (E := eI) (α := Int) _ (List.replicate (a0).toNat (0 : Int)) _), ⟨(Za (E := eI) (α := Int) _ (List.replicate (a0).toNat (0 : Int)) _), trivial⟩⟩⟩ (Zu _ rfl)

theorem ZgG (a0 : Int) (N : Nat) (r : ZbD) (h : ZbN a0 N = some r) : LSpec Try.prog 46 #[vi a0] [] (Zkl a0 r) (Zjq a0 r) :=
 (Zmg a0 N) r h

noncomputable def Zbq (a0 : Int) (n : Nat) : ZaD := .call [] (Value.tuple #[Value.pointer none, vi 30]) [] 0
def Zba (A : Array Value) (a0 : Int) (n : Nat) : Prop := ZH Try.prog 46 A [] (Value.tuple #[Value.pointer none, vi 30]) [] n 0

theorem Zbr (A : Array Value) (a0 : Int) (N : Nat) (h : ZbN a0 N = some (.r0)) (n : Nat) (hA : A = #[vi a0]) (hnd : ([] : List Nat).Nodup) (hlt : ∀ k ∈ ([] : List Nat), k < n) : Zba A a0  n :=
 Zah hA (LSpec.callL (show LSpec Try.prog 46 #[vi a0] [] (Value.tuple #[Value.pointer none, vi 30]) [] from ZgG a0 N _ h) [] n [] rfl hnd hlt (show 0 ≤ 0 from by decide) (show ∀ j ∈ ([] : List Nat), j < 0 from by decide) (by rfl) trivial (by rfl) trivial trivial rfl rfl rfl rfl rfl)

noncomputable def Zaw (a0 : Int) (n : Nat) : ZaD := .call [] (Value.tuple #[vp n 0, vq]) [(n, some (.cells [vs (n + 1) 0 (a0).toNat (a0).toNat, vs (n + 2) 0 (a0).toNat (a0).toNat] 158)), ((n + 1), some (.cells (Zb eI (List.replicate (a0).toNat (0 : Int))) 155)), ((n + 2), some (.cells (Zb eI (List.replicate (a0).toNat (0 : Int))) 155))] 3
def Zar (A : Array Value) (a0 : Int) (n : Nat) : Prop := ZH Try.prog 46 A [] (Value.tuple #[vp n 0, vq]) [(n, some (.cells [vs (n + 1) 0 (a0).toNat (a0).toNat, vs (n + 2) 0 (a0).toNat (a0).toNat] 158)), ((n + 1), some (.cells (Zb eI (List.replicate (a0).toNat (0 : Int))) 155)), ((n + 2), some (.cells (Zb eI (List.replicate (a0).toNat (0 : Int))) 155))] n 3

theorem Zax (A : Array Value) (a0 : Int) (N : Nat) (h : ZbN a0 N = some (.r1)) (n : Nat) (hA : A = #[vi a0]) (hnd : ([] : List Nat).Nodup) (hlt : ∀ k ∈ ([] : List Nat), k < n) : Zar A a0  n :=
 Zah hA (LSpec.callL (show LSpec Try.prog 46 #[vi a0] [] (Value.tuple #[vp 0 0, vq]) [some (.cells [vs 1 0 (a0).toNat (a0).toNat, vs 2 0 (a0).toNat (a0).toNat] 158), some (.cells (Zb eI (List.replicate (a0).toNat (0 : Int))) 155), some (.cells (Zb eI (List.replicate (a0).toNat (0 : Int))) 155)] from ZgG a0 N _ h) [] n [0, 1, 2] rfl hnd hlt (show 0 ≤ 3 from by decide) (show ∀ j ∈ ([0, 1, 2] : List Nat), j < 3 from by decide) (by rfl) trivial (by rfl) ⟨rfl, ⟨(ZC _ _ _), ⟨(ZC _ _ _), trivial⟩⟩⟩ ⟨(by decide), ⟨(by decide), ⟨(by decide), trivial⟩⟩⟩ rfl rfl rfl rfl (Zd (ZB rfl (ZY rfl)) (Zd (ZB rfl (ZY (ZU _ _ _))) (Zd (ZB rfl (ZY (ZU _ _ _))) rfl))))

noncomputable def Zjr (a0 : Int) : Zbk → Value
 | .r0 => Value.tuple #[Value.pointer none, vi 1]
 | .r1 => Value.tuple #[vp 0 0, vq]
noncomputable def Zip (a0 : Int) : Zbk → List (Option AObj)
 | .r0 => []
 | .r1 => [some (.cells [vi a0, vq, vq] 163)]

theorem Zl1 (a0 : Int) (N : Nat) : Gx Try.prog 47 [] #[vi a0] (Zjr a0) (Zip a0) (Zby a0 N) := by
 unfold Zby
 refine Z2 (fun g0 => ?_) (fun g0 => ?_)
 ·
  exact Zx Zw (r := (.r0 : Zbk)) (fu := 4000) (orc := (Zo [(0, true)] [] [] [] [])) (live := []) (u := Value.tuple #[Value.pointer none, vi 1]) (bl := []) (ob := [((decide (a0 < (1 : Int))), true)]) (by kernel_rfl) (oY Zi) rfl (by decide) (by rfl) rr trivial (Zu _ rfl)
 ·
  refine Z2 (fun g1 => ?_) (fun g1 => ?_)
  ·
   exact Zx Zw (r := (.r0 : Zbk)) (fu := 4000) (orc := (Zo [(0, false), (1, true)] [] [] [] [])) (live := []) (u := Value.tuple #[Value.pointer none, vi 1]) (bl := []) (ob := [((decide (a0 > (1099511627776 : Int))), true), ((decide (a0 < (1 : Int))), false)]) (by kernel_rfl) (oY <| oN Zi) rfl (by decide) (by rfl) rr trivial (Zu _ rfl)
  ·
   exact Zx Zw (r := (.r1 : Zbk)) (fu := 4000) (orc := (Zo [(0, false), (1, false)] [] [] [] [])) (live := [0]) (u := Value.tuple #[vp 0 0, vq]) (bl := [some (.cells [vi a0, vq, vq] 163)]) (ob := [((decide (a0 > (1099511627776 : Int))), false), ((decide (a0 < (1 : Int))), false)]) (by kernel_rfl) (oN <| oN Zi) rfl (by decide) (by rfl) rr ⟨⟨rfl, ⟨[], by rfl⟩, by rfl⟩, trivial⟩ (Zu _ rfl)

theorem Zgd (a0 : Int) (N : Nat) (r : Zbk) (h : Zby a0 N = some r) : LSpec Try.prog 47 #[vi a0] [] (Zjr a0 r) (Zip a0 r) :=
 (Zl1 a0 N) r h

noncomputable def ZbE (a0 : Int) (n : Nat) : ZaD := .call [] (Value.tuple #[Value.pointer none, vi 1]) [] 0
def Zbs (A : Array Value) (a0 : Int) (n : Nat) : Prop := ZH Try.prog 47 A [] (Value.tuple #[Value.pointer none, vi 1]) [] n 0

theorem ZbF (A : Array Value) (a0 : Int) (N : Nat) (h : Zby a0 N = some (.r0)) (n : Nat) (hA : A = #[vi a0]) (hnd : ([] : List Nat).Nodup) (hlt : ∀ k ∈ ([] : List Nat), k < n) : Zbs A a0  n :=
 Zah hA (LSpec.callL (show LSpec Try.prog 47 #[vi a0] [] (Value.tuple #[Value.pointer none, vi 1]) [] from Zgd a0 N _ h) [] n [] rfl hnd hlt (show 0 ≤ 0 from by decide) (show ∀ j ∈ ([] : List Nat), j < 0 from by decide) (by rfl) trivial (by rfl) trivial trivial rfl rfl rfl rfl rfl)

noncomputable def Zaz (a0 : Int) (n : Nat) : ZaD := .call [] (Value.tuple #[vp n 0, vq]) [(n, some (.cells [vi a0, vq, vq] 163))] 1
def Zat (A : Array Value) (a0 : Int) (n : Nat) : Prop := ZH Try.prog 47 A [] (Value.tuple #[vp n 0, vq]) [(n, some (.cells [vi a0, vq, vq] 163))] n 1

theorem Za0 (A : Array Value) (a0 : Int) (N : Nat) (h : Zby a0 N = some (.r1)) (n : Nat) (hA : A = #[vi a0]) (hnd : ([] : List Nat).Nodup) (hlt : ∀ k ∈ ([] : List Nat), k < n) : Zat A a0  n :=
 Zah hA (LSpec.callL (show LSpec Try.prog 47 #[vi a0] [] (Value.tuple #[vp 0 0, vq]) [some (.cells [vi a0, vq, vq] 163)] from Zgd a0 N _ h) [] n [0] rfl hnd hlt (show 0 ≤ 1 from by decide) (show ∀ j ∈ ([0] : List Nat), j < 1 from by decide) (by rfl) trivial (by rfl) ⟨rfl, trivial⟩ ⟨(by decide), trivial⟩ rfl rfl rfl rfl (Zd (ZB rfl (ZY rfl)) rfl))

noncomputable def Zjs (a0 : Int) : Zbl → Value
 | .r0 => Value.tuple #[Value.pointer none, vi 50]
 | .r1 => Value.tuple #[vp 0 0, vq]
noncomputable def Ziq (a0 : Int) : Zbl → List (Option AObj)
 | .r0 => []
 | .r1 => [some (.cells (Zk eI 64 [vi a0] (List.replicate 64 (0 : Int)) []) 171)]

theorem Zl2 (a0 : Int) (N : Nat) : Gx Try.prog 48 [] #[vi a0] (Zjs a0) (Ziq a0) (Za9 a0 N) := by
 unfold Za9
 refine Z2 (fun g0 => ?_) (fun g0 => ?_)
 ·
  exact Zx Zw (r := (.r0 : Zbl)) (fu := 4000) (orc := (Zo [(0, true)] [] [] [] [])) (live := []) (u := Value.tuple #[Value.pointer none, vi 50]) (bl := []) (ob := [((decide (a0 < (1 : Int))), true)]) (by kernel_rfl) (oY Zi) rfl (by decide) (by rfl) rr trivial (Zu _ rfl)
 ·
  refine Z2 (fun g1 => ?_) (fun g1 => ?_)
  ·
   exact Zx Zw (r := (.r0 : Zbl)) (fu := 4000) (orc := (Zo [(0, false), (1, true)] [] [] [] [])) (live := []) (u := Value.tuple #[Value.pointer none, vi 50]) (bl := []) (ob := [((decide (a0 > (64 : Int))), true), ((decide (a0 < (1 : Int))), false)]) (by kernel_rfl) (oY <| oN Zi) rfl (by decide) (by rfl) rr trivial (Zu _ rfl)
  ·
   exact Zx Zw (r := (.r1 : Zbl)) (fu := 4000) (orc := (Zo [(0, false), (1, false)] [] [] [] [])) (live := [0]) (u := Value.tuple #[vp 0 0, vq]) (bl := [some (.cells (Zk eI 64 [vi a0] (List.replicate 64 (0 : Int)) []) 171)]) (ob := [((decide (a0 > (64 : Int))), false), ((decide (a0 < (1 : Int))), false)]) (by kernel_rfl) (oN <| oN Zi) rfl (by decide) (by rfl) rr ⟨⟨rfl, ⟨[], by kernel_rfl⟩, by kernel_rfl⟩, trivial⟩ (Zu _ rfl)

theorem Zge (a0 : Int) (N : Nat) (r : Zbl) (h : Za9 a0 N = some r) : LSpec Try.prog 48 #[vi a0] [] (Zjs a0 r) (Ziq a0 r) :=
 (Zl2 a0 N) r h

noncomputable def ZbG (a0 : Int) (n : Nat) : ZaD := .call [] (Value.tuple #[Value.pointer none, vi 50]) [] 0
def Zbt (A : Array Value) (a0 : Int) (n : Nat) : Prop := ZH Try.prog 48 A [] (Value.tuple #[Value.pointer none, vi 50]) [] n 0

theorem ZbH (A : Array Value) (a0 : Int) (N : Nat) (h : Za9 a0 N = some (.r0)) (n : Nat) (hA : A = #[vi a0]) (hnd : ([] : List Nat).Nodup) (hlt : ∀ k ∈ ([] : List Nat), k < n) : Zbt A a0  n :=
 Zah hA (LSpec.callL (show LSpec Try.prog 48 #[vi a0] [] (Value.tuple #[Value.pointer none, vi 50]) [] from Zge a0 N _ h) [] n [] rfl hnd hlt (show 0 ≤ 0 from by decide) (show ∀ j ∈ ([] : List Nat), j < 0 from by decide) (by rfl) trivial (by rfl) trivial trivial rfl rfl rfl rfl rfl)

noncomputable def Za1 (a0 : Int) (n : Nat) : ZaD := .call [] (Value.tuple #[vp n 0, vq]) [(n, some (.cells (Zk eI 64 [vi a0] (List.replicate 64 (0 : Int)) []) 171))] 1
def Zau (A : Array Value) (a0 : Int) (n : Nat) : Prop := ZH Try.prog 48 A [] (Value.tuple #[vp n 0, vq]) [(n, some (.cells (Zk eI 64 [vi a0] (List.replicate 64 (0 : Int)) []) 171))] n 1

theorem Za2 (A : Array Value) (a0 : Int) (N : Nat) (h : Za9 a0 N = some (.r1)) (n : Nat) (hA : A = #[vi a0]) (hnd : ([] : List Nat).Nodup) (hlt : ∀ k ∈ ([] : List Nat), k < n) : Zau A a0  n :=
 Zah hA (LSpec.callL (show LSpec Try.prog 48 #[vi a0] [] (Value.tuple #[vp 0 0, vq]) [some (.cells (Zk eI 64 [vi a0] (List.replicate 64 (0 : Int)) []) 171)] from Zge a0 N _ h) [] n [0] rfl hnd hlt (show 0 ≤ 1 from by decide) (show ∀ j ∈ ([0] : List Nat), j < 1 from by decide) (by rfl) trivial (by rfl) ⟨(by kernel_rfl), trivial⟩ ⟨(by decide), trivial⟩ rfl rfl rfl rfl (Zd (ZB rfl (ZY (by kernel_rfl))) rfl))

noncomputable def Zkm (a0 a1 : Int) : ZaO → Value
 | .r0 w0 => vi w0
noncomputable def Zjt (a0 a1 : Int) : ZaO → List (Option AObj)
 | .r0 w0 => []

theorem Zmh (a0 a1 : Int) (N : Nat) : Gx Try.prog 49 [] #[vi a0, vi a1] (Zkm a0 a1) (Zjt a0 a1) (Zaj a0 a1 N) := by
 unfold Zaj
 refine Z2 (fun g0 => ?_) (fun g0 => ?_)
 ·
  refine Z2 (fun g1 => ?_) (fun g1 => ?_)
  ·
   exact Zx Zw (r := (.r0 ((90 : Int)) : ZaO)) (fu := 4000) (orc := (Zo [(0, true), (1, true)] [] [] [] [])) (live := []) (u := vi 90) (bl := []) (ob := [((decide (a1 < (1 : Int))), true), ((a0 == (2 : Int)), true)]) (by kernel_rfl) (oY <| oT Zi) rfl (by decide) (by rfl) rr trivial (Zu _ rfl)
  ·
   refine Z2 (fun g2 => ?_) (fun g2 => ?_)
   ·
    exact Zx Zw (r := (.r0 ((90 : Int)) : ZaO)) (fu := 4000) (orc := (Zo [(0, true), (1, false), (2, true)] [] [] [] [])) (live := []) (u := vi 90) (bl := []) (ob := [((decide (a1 > (1000 : Int))), true), ((decide (a1 < (1 : Int))), false), ((a0 == (2 : Int)), true)]) (by kernel_rfl) (oY <| oN <| oT Zi) rfl (by decide) (by rfl) rr trivial (Zu _ rfl)
   ·
    exact Zx Zw (r := (.r0 ((0 : Int)) : ZaO)) (fu := 4000) (orc := (Zo [(0, true), (1, false), (2, false)] [] [] [] [])) (live := []) (u := vq) (bl := []) (ob := [((decide (a1 > (1000 : Int))), false), ((decide (a1 < (1 : Int))), false), ((a0 == (2 : Int)), true)]) (by kernel_rfl) (oN <| oN <| oT Zi) rfl (by decide) (by rfl) rr trivial (Zu _ rfl)
 ·
  refine Z2 (fun g1 => ?_) (fun g1 => ?_)
  ·
   exact Zx Zw (r := (.r0 ((0 : Int)) : ZaO)) (fu := 4000) (orc := (Zo [(0, false), (1, true)] [] [] [] [])) (live := []) (u := vq) (bl := []) (ob := [((a0 == (1 : Int)), true), ((a0 == (2 : Int)), false)]) (by kernel_rfl) (oT <| oF Zi) rfl (by decide) (by rfl) rr trivial (Zu _ rfl)
  ·
   exact Zx Zw (r := (.r0 ((90 : Int)) : ZaO)) (fu := 4000) (orc := (Zo [(0, false), (1, false)] [] [] [] [])) (live := []) (u := vi 90) (bl := []) (ob := [((a0 == (1 : Int)), false), ((a0 == (2 : Int)), false)]) (by kernel_rfl) (oF <| oF Zi) rfl (by decide) (by rfl) rr trivial (Zu _ rfl)

theorem Zkx (a0 a1 : Int) (N : Nat) (r : ZaO) (h : Zaj a0 a1 N = some r) : LSpec Try.prog 49 #[vi a0, vi a1] [] (Zkm a0 a1 r) (Zjt a0 a1 r) :=
 (Zmh a0 a1 N) r h

noncomputable def Zab (a0 a1 w0 : Int) (n : Nat) : ZaD := .call [] (vi w0) [] 0
def ZW (A : Array Value) (a0 a1 w0 : Int) (n : Nat) : Prop := ZH Try.prog 49 A [] (vi w0) [] n 0

theorem Zac (A : Array Value) (a0 a1 w0 : Int) (N : Nat) (h : Zaj a0 a1 N = some (.r0 w0)) (n : Nat) (hA : A = #[vi a0, vi a1]) (hnd : ([] : List Nat).Nodup) (hlt : ∀ k ∈ ([] : List Nat), k < n) : ZW A a0 a1 w0  n :=
 Zah hA (LSpec.callL (show LSpec Try.prog 49 #[vi a0, vi a1] [] (vi w0) [] from Zkx a0 a1 N _ h) [] n [] rfl hnd hlt (show 0 ≤ 0 from by decide) (show ∀ j ∈ ([] : List Nat), j < 0 from by decide) (by rfl) trivial (by rfl) trivial trivial rfl rfl rfl rfl rfl)

noncomputable def Zl3 (a0 a1 a2 a3 a4 a5 a6 a7 : Int) : Z8 → Value
 | .r0 => Value.tuple #[Value.pointer none, vi 150]
 | .r1 => Value.tuple #[vp 0 0, vq]
noncomputable def Zkn (a0 a1 a2 a3 a4 a5 a6 a7 : Int) : Z8 → List (Option AObj)
 | .r0 => []
 | .r1 => [some (.cells (Zk Ze 64 [vi a7] (List.replicate 64 (⟨(0 : Int), false, false⟩ : RA)) [vi a0, vi a1, vi a2, vi a3, vi a4, vi a5, vi a6, vp 1 0, vp 2 0, vp 3 0, vp 4 0]) 111), some (.cells [vi a0, vs 5 0 17 17, vs 6 0 17 17, vn, vn, vn, vn, vn, vn, vn, vn, vn, vn, vn, vn, vn, vn, vn, vn, vn] 134), some (.cells [vs 7 0 (a1).toNat (a1).toNat, vs 8 0 (a1).toNat (a1).toNat] 158), some (.cells [vi a4, vq, vq] 163), some (.cells (Zk eI 64 [vi a7] (List.replicate 64 (0 : Int)) []) 171), some (.cells (Zb Zl klc) 129), some (.cells (Zb Zj kla) 72), some (.cells (Zb eI (List.replicate (a1).toNat (0 : Int))) 155), some (.cells (Zb eI (List.replicate (a1).toNat (0 : Int))) 155)]

theorem Zns (a0 a1 a2 a3 a4 a5 a6 a7 : Int) (N : Nat) : Gx Try.prog 5 [] #[Value.agg #[vi a0, vi a1, vi a2, vi a3, vi a4, vi a5, vi a6], vi a7] (Zl3 a0 a1 a2 a3 a4 a5 a6 a7) (Zkn a0 a1 a2 a3 a4 a5 a6 a7) (ZcL a0 a1 a2 a3 a4 a5 a6 a7 N) := by
 unfold ZcL
 refine Z6 (fun z0 c0 => ?_)
 cases z0 with
 | r0 =>
  refine Z6 (fun z1 c1 => ?_)
  cases z1 with
  | r0 =>
   refine Z6 (fun z2 c2 => ?_)
   cases z2 with
   | r0 =>
    refine Z6 (fun z3 c3 => ?_)
    cases z3 with
    | r0 =>
     refine Z6 (fun z4 c4 => ?_)
     cases z4 with
     | r0 y4_0 =>
      exact Zx Zw (r := (.r0 : Z8)) (fu := 4000) (orc := (Zo [] [] [] [] [(0, (Zci (a0)    1)), (1, (Zbq (a1)    1)), (2, (ZbE (a4)    1)), (3, (ZbG (a7)    1)), (4, (Zab (a5) (a6)  y4_0  1))])) (live := []) (u := Value.tuple #[Value.pointer none, vi 150]) (bl := []) (ob := [(dP (ZW #[vi a5, vi a6] (a5) (a6)  y4_0  1), true), (dP (Zbt #[vi a7] (a7)    1), true), (dP (Zbs #[vi a4] (a4)    1), true), (dP (Zba #[vi a1] (a1)    1), true), (dP (Zb9 #[vi a0] (a0)    1), true)]) (by kernel_rfl) (Zc (Zm (Zac #[vi a5, vi a6] (a5) (a6)  y4_0 N c4  1 rfl (by decide) (by decide))) <| Zc (Zm (ZbH #[vi a7] (a7)   N c3  1 rfl (by decide) (by decide))) <| Zc (Zm (ZbF #[vi a4] (a4)   N c2  1 rfl (by decide) (by decide))) <| Zc (Zm (Zbr #[vi a1] (a1)   N c1  1 rfl (by decide) (by decide))) <| Zc (Zm (Zcj #[vi a0] (a0)   N c0  1 rfl (by decide) (by decide))) Zi) rfl (by decide) (by rfl) rr trivial (Zu _ rfl)
    | r1 =>
     refine Z6 (fun z4 c4 => ?_)
     cases z4 with
     | r0 y4_0 =>
      exact Zx Zw (r := (.r0 : Z8)) (fu := 4000) (orc := (Zo [] [] [] [] [(0, (Zci (a0)    1)), (1, (Zbq (a1)    1)), (2, (ZbE (a4)    1)), (3, (Za1 (a7)    1)), (4, (Zab (a5) (a6)  y4_0  2))])) (live := []) (u := Value.tuple #[Value.pointer none, vi 150]) (bl := []) (ob := [(dP (ZW #[vi a5, vi a6] (a5) (a6)  y4_0  2), true), (dP (Zau #[vi a7] (a7)    1), true), (dP (Zbs #[vi a4] (a4)    1), true), (dP (Zba #[vi a1] (a1)    1), true), (dP (Zb9 #[vi a0] (a0)    1), true)]) (by kernel_rfl) (Zc (Zm (Zac #[vi a5, vi a6] (a5) (a6)  y4_0 N c4  2 rfl (by decide) (by decide))) <| Zc (Zm (Za2 #[vi a7] (a7)   N c3  1 rfl (by decide) (by decide))) <| Zc (Zm (ZbF #[vi a4] (a4)   N c2  1 rfl (by decide) (by decide))) <| Zc (Zm (Zbr #[vi a1] (a1)   N c1  1 rfl (by decide) (by decide))) <| Zc (Zm (Zcj #[vi a0] (a0)   N c0  1 rfl (by decide) (by decide))) Zi) rfl (by decide) (by rfl) rr trivial (Zu _ rfl)
   | r1 =>
    refine Z6 (fun z3 c3 => ?_)
    cases z3 with
    | r0 =>
     refine Z6 (fun z4 c4 => ?_)
     cases z4 with
     | r0 y4_0 =>
      exact Zx Zw (r := (.r0 : Z8)) (fu := 4000) (orc := (Zo [] [] [] [] [(0, (Zci (a0)    1)), (1, (Zbq (a1)    1)), (2, (Zaz (a4)    1)), (3, (ZbG (a7)    2)), (4, (Zab (a5) (a6)  y4_0  2))])) (live := []) (u := Value.tuple #[Value.pointer none, vi 150]) (bl := []) (ob := [(dP (ZW #[vi a5, vi a6] (a5) (a6)  y4_0  2), true), (dP (Zbt #[vi a7] (a7)    2), true), (dP (Zat #[vi a4] (a4)    1), true), (dP (Zba #[vi a1] (a1)    1), true), (dP (Zb9 #[vi a0] (a0)    1), true)]) (by kernel_rfl) (Zc (Zm (Zac #[vi a5, vi a6] (a5) (a6)  y4_0 N c4  2 rfl (by decide) (by decide))) <| Zc (Zm (ZbH #[vi a7] (a7)   N c3  2 rfl (by decide) (by decide))) <| Zc (Zm (Za0 #[vi a4] (a4)   N c2  1 rfl (by decide) (by decide))) <| Zc (Zm (Zbr #[vi a1] (a1)   N c1  1 rfl (by decide) (by decide))) <| Zc (Zm (Zcj #[vi a0] (a0)   N c0  1 rfl (by decide) (by decide))) Zi) rfl (by decide) (by rfl) rr trivial (Zu _ rfl)
    | r1 =>
     refine Z6 (fun z4 c4 => ?_)
     cases z4 with
     | r0 y4_0 =>
      exact Zx Zw (r := (.r0 : Z8)) (fu := 4000) (orc := (Zo [] [] [] [] [(0, (Zci (a0)    1)), (1, (Zbq (a1)    1)), (2, (Zaz (a4)    1)), (3, (Za1 (a7)    2)), (4, (Zab (a5) (a6)  y4_0  3))])) (live := []) (u := Value.tuple #[Value.pointer none, vi 150]) (bl := []) (ob := [(dP (ZW #[vi a5, vi a6] (a5) (a6)  y4_0  3), true), (dP (Zau #[vi a7] (a7)    2), true), (dP (Zat #[vi a4] (a4)    1), true), (dP (Zba #[vi a1] (a1)    1), true), (dP (Zb9 #[vi a0] (a0)    1), true)]) (by kernel_rfl) (Zc (Zm (Zac #[vi a5, vi a6] (a5) (a6)  y4_0 N c4  3 rfl (by decide) (by decide))) <| Zc (Zm (Za2 #[vi a7] (a7)   N c3  2 rfl (by decide) (by decide))) <| Zc (Zm (Za0 #[vi a4] (a4)   N c2  1 rfl (by decide) (by decide))) <| Zc (Zm (Zbr #[vi a1] (a1)   N c1  1 rfl (by decide) (by decide))) <| Zc (Zm (Zcj #[vi a0] (a0)   N c0  1 rfl (by decide) (by decide))) Zi) rfl (by decide) (by rfl) rr trivial (Zu _ rfl)
  | r1 =>
   refine Z6 (fun z2 c2 => ?_)
   cases z2 with
   | r0 =>
    refine Z6 (fun z3 c3 => ?_)
    cases z3 with
    | r0 =>
     refine Z6 (fun z4 c4 => ?_)
     cases z4 with
     | r0 y4_0 =>
      exact Zx Zw (r := (.r0 : Z8)) (fu := 4000) (orc := (Zo [] [] [] [] [(0, (Zci (a0)    1)), (1, (Zaw (a1)    1)), (2, (ZbE (a4)    4)), (3, (ZbG (a7)    4)), (4, (Zab (a5) (a6)  y4_0  4))])) (live := []) (u := Value.tuple #[Value.pointer none, vi 150]) (bl := []) (ob := [(dP (ZW #[vi a5, vi a6] (a5) (a6)  y4_0  4), true), (dP (Zbt #[vi a7] (a7)    4), true), (dP (Zbs #[vi a4] (a4)    4), true), (dP (Zar #[vi a1] (a1)    1), true), (dP (Zb9 #[vi a0] (a0)    1), true)]) (by kernel_rfl) (Zc (Zm (Zac #[vi a5, vi a6] (a5) (a6)  y4_0 N c4  4 rfl (by decide) (by decide))) <| Zc (Zm (ZbH #[vi a7] (a7)   N c3  4 rfl (by decide) (by decide))) <| Zc (Zm (ZbF #[vi a4] (a4)   N c2  4 rfl (by decide) (by decide))) <| Zc (Zm (Zax #[vi a1] (a1)   N c1  1 rfl (by decide) (by decide))) <| Zc (Zm (Zcj #[vi a0] (a0)   N c0  1 rfl (by decide) (by decide))) Zi) rfl (by decide) (by rfl) rr trivial (Zu _ rfl)
    | r1 =>
     refine Z6 (fun z4 c4 => ?_)
     cases z4 with
     | r0 y4_0 =>
      exact Zx Zw (r := (.r0 : Z8)) (fu := 4000) (orc := (Zo [] [] [] [] [(0, (Zci (a0)    1)), (1, (Zaw (a1)    1)), (2, (ZbE (a4)    4)), (3, (Za1 (a7)    4)), (4, (Zab (a5) (a6)  y4_0  5))])) (live := []) (u := Value.tuple #[Value.pointer none, vi 150]) (bl := []) (ob := [(dP (ZW #[vi a5, vi a6] (a5) (a6)  y4_0  5), true), (dP (Zau #[vi a7] (a7)    4), true), (dP (Zbs #[vi a4] (a4)    4), true), (dP (Zar #[vi a1] (a1)    1), true), (dP (Zb9 #[vi a0] (a0)    1), true)]) (by kernel_rfl) (Zc (Zm (Zac #[vi a5, vi a6] (a5) (a6)  y4_0 N c4  5 rfl (by decide) (by decide))) <| Zc (Zm (Za2 #[vi a7] (a7)   N c3  4 rfl (by decide) (by decide))) <| Zc (Zm (ZbF #[vi a4] (a4)   N c2  4 rfl (by decide) (by decide))) <| Zc (Zm (Zax #[vi a1] (a1)   N c1  1 rfl (by decide) (by decide))) <| Zc (Zm (Zcj #[vi a0] (a0)   N c0  1 rfl (by decide) (by decide))) Zi) rfl (by decide) (by rfl) rr trivial (Zu _ rfl)
   | r1 =>
    refine Z6 (fun z3 c3 => ?_)
    cases z3 with
    | r0 =>
     refine Z6 (fun z4 c4 => ?_)
     cases z4 with
     | r0 y4_0 =>
      exact Zx Zw (r := (.r0 : Z8)) (fu := 4000) (orc := (Zo [] [] [] [] [(0, (Zci (a0)    1)), (1, (Zaw (a1)    1)), (2, (Zaz (a4)    4)), (3, (ZbG (a7)    5)), (4, (Zab (a5) (a6)  y4_0  5))])) (live := []) (u := Value.tuple #[Value.pointer none, vi 150]) (bl := []) (ob := [(dP (ZW #[vi a5, vi a6] (a5) (a6)  y4_0  5), true), (dP (Zbt #[vi a7] (a7)    5), true), (dP (Zat #[vi a4] (a4)    4), true), (dP (Zar #[vi a1] (a1)    1), true), (dP (Zb9 #[vi a0] (a0)    1), true)]) (by kernel_rfl) (Zc (Zm (Zac #[vi a5, vi a6] (a5) (a6)  y4_0 N c4  5 rfl (by decide) (by decide))) <| Zc (Zm (ZbH #[vi a7] (a7)   N c3  5 rfl (by decide) (by decide))) <| Zc (Zm (Za0 #[vi a4] (a4)   N c2  4 rfl (by decide) (by decide))) <| Zc (Zm (Zax #[vi a1] (a1)   N c1  1 rfl (by decide) (by decide))) <| Zc (Zm (Zcj #[vi a0] (a0)   N c0  1 rfl (by decide) (by decide))) Zi) rfl (by decide) (by rfl) rr trivial (Zu _ rfl)
    | r1 =>
     refine Z6 (fun z4 c4 => ?_)
     cases z4 with
     | r0 y4_0 =>
      exact Zx Zw (r := (.r0 : Z8)) (fu := 4000) (orc := (Zo [] [] [] [] [(0, (Zci (a0)    1)), (1, (Zaw (a1)    1)), (2, (Zaz (a4)    4)), (3, (Za1 (a7)    5)), (4, (Zab (a5) (a6)  y4_0  6))])) (live := []) (u := Value.tuple #[Value.pointer none, vi 150]) (bl := []) (ob := [(dP (ZW #[vi a5, vi a6] (a5) (a6)  y4_0  6), true), (dP (Zau #[vi a7] (a7)    5), true), (dP (Zat #[vi a4] (a4)    4), true), (dP (Zar #[vi a1] (a1)    1), true), (dP (Zb9 #[vi a0] (a0)    1), true)]) (by kernel_rfl) (Zc (Zm (Zac #[vi a5, vi a6] (a5) (a6)  y4_0 N c4  6 rfl (by decide) (by decide))) <| Zc (Zm (Za2 #[vi a7] (a7)   N c3  5 rfl (by decide) (by decide))) <| Zc (Zm (Za0 #[vi a4] (a4)   N c2  4 rfl (by decide) (by decide))) <| Zc (Zm (Zax #[vi a1] (a1)   N c1  1 rfl (by decide) (by decide))) <| Zc (Zm (Zcj #[vi a0] (a0)   N c0  1 rfl (by decide) (by decide))) Zi) rfl (by decide) (by rfl) rr trivial (Zu _ rfl)
 | r1 =>
  refine Z6 (fun z1 c1 => ?_)
  cases z1 with
  | r0 =>
   refine Z6 (fun z2 c2 => ?_)
   cases z2 with
   | r0 =>
    refine Z6 (fun z3 c3 => ?_)
    cases z3 with
    | r0 =>
     refine Z6 (fun z4 c4 => ?_)
     cases z4 with
     | r0 y4_0 =>
      exact Zx Zw (r := (.r0 : Z8)) (fu := 4000) (orc := (Zo [] [] [] [] [(0, (ZaH (a0)    1)), (1, (Zbq (a1)    4)), (2, (ZbE (a4)    4)), (3, (ZbG (a7)    4)), (4, (Zab (a5) (a6)  y4_0  4))])) (live := []) (u := Value.tuple #[Value.pointer none, vi 150]) (bl := []) (ob := [(dP (ZW #[vi a5, vi a6] (a5) (a6)  y4_0  4), true), (dP (Zbt #[vi a7] (a7)    4), true), (dP (Zbs #[vi a4] (a4)    4), true), (dP (Zba #[vi a1] (a1)    4), true), (dP (Za6 #[vi a0] (a0)    1), true)]) (by kernel_rfl) (Zc (Zm (Zac #[vi a5, vi a6] (a5) (a6)  y4_0 N c4  4 rfl (by decide) (by decide))) <| Zc (Zm (ZbH #[vi a7] (a7)   N c3  4 rfl (by decide) (by decide))) <| Zc (Zm (ZbF #[vi a4] (a4)   N c2  4 rfl (by decide) (by decide))) <| Zc (Zm (Zbr #[vi a1] (a1)   N c1  4 rfl (by decide) (by decide))) <| Zc (Zm (ZaI #[vi a0] (a0)   N c0  1 rfl (by decide) (by decide))) Zi) rfl (by decide) (by rfl) rr trivial (Zu _ rfl)
    | r1 =>
     refine Z6 (fun z4 c4 => ?_)
     cases z4 with
     | r0 y4_0 =>
      exact Zx Zw (r := (.r0 : Z8)) (fu := 4000) (orc := (Zo [] [] [] [] [(0, (ZaH (a0)    1)), (1, (Zbq (a1)    4)), (2, (ZbE (a4)    4)), (3, (Za1 (a7)    4)), (4, (Zab (a5) (a6)  y4_0  5))])) (live := []) (u := Value.tuple #[Value.pointer none, vi 150]) (bl := []) (ob := [(dP (ZW #[vi a5, vi a6] (a5) (a6)  y4_0  5), true), (dP (Zau #[vi a7] (a7)    4), true), (dP (Zbs #[vi a4] (a4)    4), true), (dP (Zba #[vi a1] (a1)    4), true), (dP (Za6 #[vi a0] (a0)    1), true)]) (by kernel_rfl) (Zc (Zm (Zac #[vi a5, vi a6] (a5) (a6)  y4_0 N c4  5 rfl (by decide) (by decide))) <| Zc (Zm (Za2 #[vi a7] (a7)   N c3  4 rfl (by decide) (by decide))) <| Zc (Zm (ZbF #[vi a4] (a4)   N c2  4 rfl (by decide) (by decide))) <| Zc (Zm (Zbr #[vi a1] (a1)   N c1  4 rfl (by decide) (by decide))) <| Zc (Zm (ZaI #[vi a0] (a0)   N c0  1 rfl (by decide) (by decide))) Zi) rfl (by decide) (by rfl) rr trivial (Zu _ rfl)
   | r1 =>
    refine Z6 (fun z3 c3 => ?_)
    cases z3 with
    | r0 =>
     refine Z6 (fun z4 c4 => ?_)
     cases z4 with
     | r0 y4_0 =>
      exact Zx Zw (r := (.r0 : Z8)) (fu := 4000) (orc := (Zo [] [] [] [] [(0, (ZaH (a0)    1)), (1, (Zbq (a1)    4)), (2, (Zaz (a4)    4)), (3, (ZbG (a7)    5)), (4, (Zab (a5) (a6)  y4_0  5))])) (live := []) (u := Value.tuple #[Value.pointer none, vi 150]) (bl := []) (ob := [(dP (ZW #[vi a5, vi a6] (a5) (a6)  y4_0  5), true), (dP (Zbt #[vi a7] (a7)    5), true), (dP (Zat #[vi a4] (a4)    4), true), (dP (Zba #[vi a1] (a1)    4), true), (dP (Za6 #[vi a0] (a0)    1), true)]) (by kernel_rfl) (Zc (Zm (Zac #[vi a5, vi a6] (a5) (a6)  y4_0 N c4  5 rfl (by decide) (by decide))) <| Zc (Zm (ZbH #[vi a7] (a7)   N c3  5 rfl (by decide) (by decide))) <| Zc (Zm (Za0 #[vi a4] (a4)   N c2  4 rfl (by decide) (by decide))) <| Zc (Zm (Zbr #[vi a1] (a1)   N c1  4 rfl (by decide) (by decide))) <| Zc (Zm (ZaI #[vi a0] (a0)   N c0  1 rfl (by decide) (by decide))) Zi) rfl (by decide) (by rfl) rr trivial (Zu _ rfl)
    | r1 =>
     refine Z6 (fun z4 c4 => ?_)
     cases z4 with
     | r0 y4_0 =>
      exact Zx Zw (r := (.r0 : Z8)) (fu := 4000) (orc := (Zo [] [] [] [] [(0, (ZaH (a0)    1)), (1, (Zbq (a1)    4)), (2, (Zaz (a4)    4)), (3, (Za1 (a7)    5)), (4, (Zab (a5) (a6)  y4_0  6))])) (live := []) (u := Value.tuple #[Value.pointer none, vi 150]) (bl := []) (ob := [(dP (ZW #[vi a5, vi a6] (a5) (a6)  y4_0  6), true), (dP (Zau #[vi a7] (a7)    5), true), (dP (Zat #[vi a4] (a4)    4), true), (dP (Zba #[vi a1] (a1)    4), true), (dP (Za6 #[vi a0] (a0)    1), true)]) (by kernel_rfl) (Zc (Zm (Zac #[vi a5, vi a6] (a5) (a6)  y4_0 N c4  6 rfl (by decide) (by decide))) <| Zc (Zm (Za2 #[vi a7] (a7)   N c3  5 rfl (by decide) (by decide))) <| Zc (Zm (Za0 #[vi a4] (a4)   N c2  4 rfl (by decide) (by decide))) <| Zc (Zm (Zbr #[vi a1] (a1)   N c1  4 rfl (by decide) (by decide))) <| Zc (Zm (ZaI #[vi a0] (a0)   N c0  1 rfl (by decide) (by decide))) Zi) rfl (by decide) (by rfl) rr trivial (Zu _ rfl)
  | r1 =>
   refine Z6 (fun z2 c2 => ?_)
   cases z2 with
   | r0 =>
    refine Z6 (fun z3 c3 => ?_)
    cases z3 with
    | r0 =>
     refine Z6 (fun z4 c4 => ?_)
     cases z4 with
     | r0 y4_0 =>
      exact Zx Zw (r := (.r0 : Z8)) (fu := 4000) (orc := (Zo [] [] [] [] [(0, (ZaH (a0)    1)), (1, (Zaw (a1)    4)), (2, (ZbE (a4)    7)), (3, (ZbG (a7)    7)), (4, (Zab (a5) (a6)  y4_0  7))])) (live := []) (u := Value.tuple #[Value.pointer none, vi 150]) (bl := []) (ob := [(dP (ZW #[vi a5, vi a6] (a5) (a6)  y4_0  7), true), (dP (Zbt #[vi a7] (a7)    7), true), (dP (Zbs #[vi a4] (a4)    7), true), (dP (Zar #[vi a1] (a1)    4), true), (dP (Za6 #[vi a0] (a0)    1), true)]) (by kernel_rfl) (Zc (Zm (Zac #[vi a5, vi a6] (a5) (a6)  y4_0 N c4  7 rfl (by decide) (by decide))) <| Zc (Zm (ZbH #[vi a7] (a7)   N c3  7 rfl (by decide) (by decide))) <| Zc (Zm (ZbF #[vi a4] (a4)   N c2  7 rfl (by decide) (by decide))) <| Zc (Zm (Zax #[vi a1] (a1)   N c1  4 rfl (by decide) (by decide))) <| Zc (Zm (ZaI #[vi a0] (a0)   N c0  1 rfl (by decide) (by decide))) Zi) rfl (by decide) (by rfl) rr trivial (Zu _ rfl)
    | r1 =>
     refine Z6 (fun z4 c4 => ?_)
     cases z4 with
     | r0 y4_0 =>
      exact Zx Zw (r := (.r0 : Z8)) (fu := 4000) (orc := (Zo [] [] [] [] [(0, (ZaH (a0)    1)), (1, (Zaw (a1)    4)), (2, (ZbE (a4)    7)), (3, (Za1 (a7)    7)), (4, (Zab (a5) (a6)  y4_0  8))])) (live := []) (u := Value.tuple #[Value.pointer none, vi 150]) (bl := []) (ob := [(dP (ZW #[vi a5, vi a6] (a5) (a6)  y4_0  8), true), (dP (Zau #[vi a7] (a7)    7), true), (dP (Zbs #[vi a4] (a4)    7), true), (dP (Zar #[vi a1] (a1)    4), true), (dP (Za6 #[vi a0] (a0)    1), true)]) (by kernel_rfl) (Zc (Zm (Zac #[vi a5, vi a6] (a5) (a6)  y4_0 N c4  8 rfl (by decide) (by decide))) <| Zc (Zm (Za2 #[vi a7] (a7)   N c3  7 rfl (by decide) (by decide))) <| Zc (Zm (ZbF #[vi a4] (a4)   N c2  7 rfl (by decide) (by decide))) <| Zc (Zm (Zax #[vi a1] (a1)   N c1  4 rfl (by decide) (by decide))) <| Zc (Zm (ZaI #[vi a0] (a0)   N c0  1 rfl (by decide) (by decide))) Zi) rfl (by decide) (by rfl) rr trivial (Zu _ rfl)
   | r1 =>
    refine Z6 (fun z3 c3 => ?_)
    cases z3 with
    | r0 =>
     refine Z6 (fun z4 c4 => ?_)
     cases z4 with
     | r0 y4_0 =>
      exact Zx Zw (r := (.r0 : Z8)) (fu := 4000) (orc := (Zo [] [] [] [] [(0, (ZaH (a0)    1)), (1, (Zaw (a1)    4)), (2, (Zaz (a4)    7)), (3, (ZbG (a7)    8)), (4, (Zab (a5) (a6)  y4_0  8))])) (live := []) (u := Value.tuple #[Value.pointer none, vi 150]) (bl := []) (ob := [(dP (ZW #[vi a5, vi a6] (a5) (a6)  y4_0  8), true), (dP (Zbt #[vi a7] (a7)    8), true), (dP (Zat #[vi a4] (a4)    7), true), (dP (Zar #[vi a1] (a1)    4), true), (dP (Za6 #[vi a0] (a0)    1), true)]) (by kernel_rfl) (Zc (Zm (Zac #[vi a5, vi a6] (a5) (a6)  y4_0 N c4  8 rfl (by decide) (by decide))) <| Zc (Zm (ZbH #[vi a7] (a7)   N c3  8 rfl (by decide) (by decide))) <| Zc (Zm (Za0 #[vi a4] (a4)   N c2  7 rfl (by decide) (by decide))) <| Zc (Zm (Zax #[vi a1] (a1)   N c1  4 rfl (by decide) (by decide))) <| Zc (Zm (ZaI #[vi a0] (a0)   N c0  1 rfl (by decide) (by decide))) Zi) rfl (by decide) (by rfl) rr trivial (Zu _ rfl)
    | r1 =>
     refine Z6 (fun z4 c4 => ?_)
     cases z4 with
     | r0 y4_0 =>
      refine Z2 (fun g5 => ?_) (fun g5 => ?_)
      ·
       exact Zx Zw (r := (.r0 : Z8)) (fu := 4000) (orc := (Zo [(9, true)] [] [] [] [(0, (ZaH (a0)    1)), (1, (Zaw (a1)    4)), (2, (Zaz (a4)    7)), (3, (Za1 (a7)    8)), (4, (Zab (a5) (a6)  y4_0  9))])) (live := []) (u := Value.tuple #[Value.pointer none, vi 150]) (bl := []) (ob := [((y4_0 != (0 : Int)), true), (dP (ZW #[vi a5, vi a6] (a5) (a6)  y4_0  9), true), (dP (Zau #[vi a7] (a7)    8), true), (dP (Zat #[vi a4] (a4)    7), true), (dP (Zar #[vi a1] (a1)    4), true), (dP (Za6 #[vi a0] (a0)    1), true)]) (by kernel_rfl) (oD <| Zc (Zm (Zac #[vi a5, vi a6] (a5) (a6)  y4_0 N c4  9 rfl (by decide) (by decide))) <| Zc (Zm (Za2 #[vi a7] (a7)   N c3  8 rfl (by decide) (by decide))) <| Zc (Zm (Za0 #[vi a4] (a4)   N c2  7 rfl (by decide) (by decide))) <| Zc (Zm (Zax #[vi a1] (a1)   N c1  4 rfl (by decide) (by decide))) <| Zc (Zm (ZaI #[vi a0] (a0)   N c0  1 rfl (by decide) (by decide))) Zi) rfl (by decide) (by rfl) rr trivial (Zu _ rfl)
      ·
       refine Z2 (fun g6 => ?_) (fun g6 => ?_)
       ·
        exact Zx Zw (r := (.r0 : Z8)) (fu := 4000) (orc := (Zo [(9, false), (11, true)] [] [] [] [(0, (ZaH (a0)    1)), (1, (Zaw (a1)    4)), (2, (Zaz (a4)    7)), (3, (Za1 (a7)    8)), (4, (Zab (a5) (a6)  y4_0  9))])) (live := []) (u := Value.tuple #[Value.pointer none, vi 150]) (bl := []) (ob := [((decide (a2 < (1 : Int))), true), ((y4_0 != (0 : Int)), false), (dP (ZW #[vi a5, vi a6] (a5) (a6)  y4_0  9), true), (dP (Zau #[vi a7] (a7)    8), true), (dP (Zat #[vi a4] (a4)    7), true), (dP (Zar #[vi a1] (a1)    4), true), (dP (Za6 #[vi a0] (a0)    1), true)]) (by kernel_rfl) (oY <| oE <| Zc (Zm (Zac #[vi a5, vi a6] (a5) (a6)  y4_0 N c4  9 rfl (by decide) (by decide))) <| Zc (Zm (Za2 #[vi a7] (a7)   N c3  8 rfl (by decide) (by decide))) <| Zc (Zm (Za0 #[vi a4] (a4)   N c2  7 rfl (by decide) (by decide))) <| Zc (Zm (Zax #[vi a1] (a1)   N c1  4 rfl (by decide) (by decide))) <| Zc (Zm (ZaI #[vi a0] (a0)   N c0  1 rfl (by decide) (by decide))) Zi) rfl (by decide) (by rfl) rr trivial (Zu _ rfl)
       ·
        refine Z2 (fun g7 => ?_) (fun g7 => ?_)
        ·
         exact Zx Zw (r := (.r0 : Z8)) (fu := 4000) (orc := (Zo [(9, false), (11, false), (12, true)] [] [] [] [(0, (ZaH (a0)    1)), (1, (Zaw (a1)    4)), (2, (Zaz (a4)    7)), (3, (Za1 (a7)    8)), (4, (Zab (a5) (a6)  y4_0  9))])) (live := []) (u := Value.tuple #[Value.pointer none, vi 150]) (bl := []) (ob := [((decide (a2 > (4096 : Int))), true), ((decide (a2 < (1 : Int))), false), ((y4_0 != (0 : Int)), false), (dP (ZW #[vi a5, vi a6] (a5) (a6)  y4_0  9), true), (dP (Zau #[vi a7] (a7)    8), true), (dP (Zat #[vi a4] (a4)    7), true), (dP (Zar #[vi a1] (a1)    4), true), (dP (Za6 #[vi a0] (a0)    1), true)]) (by kernel_rfl) (oY <| oN <| oE <| Zc (Zm (Zac #[vi a5, vi a6] (a5) (a6)  y4_0 N c4  9 rfl (by decide) (by decide))) <| Zc (Zm (Za2 #[vi a7] (a7)   N c3  8 rfl (by decide) (by decide))) <| Zc (Zm (Za0 #[vi a4] (a4)   N c2  7 rfl (by decide) (by decide))) <| Zc (Zm (Zax #[vi a1] (a1)   N c1  4 rfl (by decide) (by decide))) <| Zc (Zm (ZaI #[vi a0] (a0)   N c0  1 rfl (by decide) (by decide))) Zi) rfl (by decide) (by rfl) rr trivial (Zu _ rfl)
        ·
         refine Z2 (fun g8 => ?_) (fun g8 => ?_)
         ·
          exact Zx Zw (r := (.r0 : Z8)) (fu := 4000) (orc := (Zo [(9, false), (11, false), (12, false), (13, true)] [] [] [] [(0, (ZaH (a0)    1)), (1, (Zaw (a1)    4)), (2, (Zaz (a4)    7)), (3, (Za1 (a7)    8)), (4, (Zab (a5) (a6)  y4_0  9))])) (live := []) (u := Value.tuple #[Value.pointer none, vi 150]) (bl := []) (ob := [((decide (a3 < (1 : Int))), true), ((decide (a2 > (4096 : Int))), false), ((decide (a2 < (1 : Int))), false), ((y4_0 != (0 : Int)), false), (dP (ZW #[vi a5, vi a6] (a5) (a6)  y4_0  9), true), (dP (Zau #[vi a7] (a7)    8), true), (dP (Zat #[vi a4] (a4)    7), true), (dP (Zar #[vi a1] (a1)    4), true), (dP (Za6 #[vi a0] (a0)    1), true)]) (by kernel_rfl) (oY <| oN <| oN <| oE <| Zc (Zm (Zac #[vi a5, vi a6] (a5) (a6)  y4_0 N c4  9 rfl (by decide) (by decide))) <| Zc (Zm (Za2 #[vi a7] (a7)   N c3  8 rfl (by decide) (by decide))) <| Zc (Zm (Za0 #[vi a4] (a4)   N c2  7 rfl (by decide) (by decide))) <| Zc (Zm (Zax #[vi a1] (a1)   N c1  4 rfl (by decide) (by decide))) <| Zc (Zm (ZaI #[vi a0] (a0)   N c0  1 rfl (by decide) (by decide))) Zi) rfl (by decide) (by rfl) rr trivial (Zu _ rfl)
         ·
          refine Z2 (fun g9 => ?_) (fun g9 => ?_)
          ·
           exact Zx Zw (r := (.r0 : Z8)) (fu := 4000) (orc := (Zo [(9, false), (11, false), (12, false), (13, false), (14, true)] [] [] [] [(0, (ZaH (a0)    1)), (1, (Zaw (a1)    4)), (2, (Zaz (a4)    7)), (3, (Za1 (a7)    8)), (4, (Zab (a5) (a6)  y4_0  9))])) (live := []) (u := Value.tuple #[Value.pointer none, vi 150]) (bl := []) (ob := [((decide (a3 > (4096 : Int))), true), ((decide (a3 < (1 : Int))), false), ((decide (a2 > (4096 : Int))), false), ((decide (a2 < (1 : Int))), false), ((y4_0 != (0 : Int)), false), (dP (ZW #[vi a5, vi a6] (a5) (a6)  y4_0  9), true), (dP (Zau #[vi a7] (a7)    8), true), (dP (Zat #[vi a4] (a4)    7), true), (dP (Zar #[vi a1] (a1)    4), true), (dP (Za6 #[vi a0] (a0)    1), true)]) (by kernel_rfl) (oY <| oN <| oN <| oN <| oE <| Zc (Zm (Zac #[vi a5, vi a6] (a5) (a6)  y4_0 N c4  9 rfl (by decide) (by decide))) <| Zc (Zm (Za2 #[vi a7] (a7)   N c3  8 rfl (by decide) (by decide))) <| Zc (Zm (Za0 #[vi a4] (a4)   N c2  7 rfl (by decide) (by decide))) <| Zc (Zm (Zax #[vi a1] (a1)   N c1  4 rfl (by decide) (by decide))) <| Zc (Zm (ZaI #[vi a0] (a0)   N c0  1 rfl (by decide) (by decide))) Zi) rfl (by decide) (by rfl) rr trivial (Zu _ rfl)
          ·
           exact Zx Zw (r := (.r1 : Z8)) (fu := 4000) (orc := (Zo [(9, false), (11, false), (12, false), (13, false), (14, false)] [] [] [] [(0, (ZaH (a0)    1)), (1, (Zaw (a1)    4)), (2, (Zaz (a4)    7)), (3, (Za1 (a7)    8)), (4, (Zab (a5) (a6)  y4_0  9))])) (live := [10, 1, 4, 7, 8, 2, 3, 5, 6]) (u := Value.tuple #[vp 10 0, vq]) (bl := [some (.cells (Zk Ze 64 [vi a7] (List.replicate 64 (⟨(0 : Int), false, false⟩ : RA)) [vi a0, vi a1, vi a2, vi a3, vi a4, vi a5, vi a6, vp 1 0, vp 4 0, vp 7 0, vp 8 0]) 111), some (.cells [vi a0, vs 2 0 17 17, vs 3 0 17 17, vn, vn, vn, vn, vn, vn, vn, vn, vn, vn, vn, vn, vn, vn, vn, vn, vn] 134), some (.cells [vs 5 0 (a1).toNat (a1).toNat, vs 6 0 (a1).toNat (a1).toNat] 158), some (.cells [vi a4, vq, vq] 163), some (.cells (Zk eI 64 [vi a7] (List.replicate 64 (0 : Int)) []) 171), some (.cells (Zb Zl klc) 129), some (.cells (Zb Zj kla) 72), some (.cells (Zb eI (List.replicate (a1).toNat (0 : Int))) 155), some (.cells (Zb eI (List.replicate (a1).toNat (0 : Int))) 155)]) (ob := [((decide (a3 > (4096 : Int))), false), ((decide (a3 < (1 : Int))), false), ((decide (a2 > (4096 : Int))), false), ((decide (a2 < (1 : Int))), false), ((y4_0 != (0 : Int)), false), (dP (ZW #[vi a5, vi a6] (a5) (a6)  y4_0  9), true), (dP (Zau #[vi a7] (a7)    8), true), (dP (Zat #[vi a4] (a4)    7), true), (dP (Zar #[vi a1] (a1)    4), true), (dP (Za6 #[vi a0] (a0)    1), true)]) (by kernel_rfl) (oN <| oN <| oN <| oN <| oE <| Zc (Zm (Zac #[vi a5, vi a6] (a5) (a6)  y4_0 N c4  9 rfl (by decide) (by decide))) <| Zc (Zm (Za2 #[vi a7] (a7)   N c3  8 rfl (by decide) (by decide))) <| Zc (Zm (Za0 #[vi a4] (a4)   N c2  7 rfl (by decide) (by decide))) <| Zc (Zm (Zax #[vi a1] (a1)   N c1  4 rfl (by decide) (by decide))) <| Zc (Zm (ZaI #[vi a0] (a0)   N c0  1 rfl (by decide) (by decide))) Zi) rfl (by decide) (by rfl) rr ⟨⟨rfl, ⟨[], by kernel_rfl⟩, by kernel_rfl⟩, ⟨⟨rfl, ⟨[], by rfl⟩, by rfl⟩, ⟨⟨rfl, ⟨[], by rfl⟩, by rfl⟩, ⟨⟨rfl, ⟨[], by rfl⟩, by rfl⟩, ⟨⟨rfl, ⟨[], by kernel_rfl⟩, by kernel_rfl⟩, ⟨(Za (E := Zl) (α := RD) _ klc _), ⟨(Za (E := Zj) (α := R_ii) _ kla _), ⟨(Za (E := eI) (α := Int) _ (List.replicate (a1).toNat (0 : Int)) _), ⟨(Za (E := eI) (α := Int) _ (List.replicate (a1).toNat (0 : Int)) _), trivial⟩⟩⟩⟩⟩⟩⟩⟩⟩ (Zu _ rfl)

theorem Zh4 (a0 a1 a2 a3 a4 a5 a6 a7 : Int) (N : Nat) (r : Z8) (h : ZcL a0 a1 a2 a3 a4 a5 a6 a7 N = some r) : LSpec Try.prog 5 #[Value.agg #[vi a0, vi a1, vi a2, vi a3, vi a4, vi a5, vi a6], vi a7] [] (Zl3 a0 a1 a2 a3 a4 a5 a6 a7 r) (Zkn a0 a1 a2 a3 a4 a5 a6 a7 r) :=
 (Zns a0 a1 a2 a3 a4 a5 a6 a7 N) r h

noncomputable def Zck (a0 a1 a2 a3 a4 a5 a6 a7 : Int) (n : Nat) : ZaD := .call [] (Value.tuple #[Value.pointer none, vi 150]) [] 0
def ZbI (A : Array Value) (a0 a1 a2 a3 a4 a5 a6 a7 : Int) (n : Nat) : Prop := ZH Try.prog 5 A [] (Value.tuple #[Value.pointer none, vi 150]) [] n 0

theorem Zcl (A : Array Value) (a0 a1 a2 a3 a4 a5 a6 a7 : Int) (N : Nat) (h : ZcL a0 a1 a2 a3 a4 a5 a6 a7 N = some (.r0)) (n : Nat) (hA : A = #[Value.agg #[vi a0, vi a1, vi a2, vi a3, vi a4, vi a5, vi a6], vi a7]) (hnd : ([] : List Nat).Nodup) (hlt : ∀ k ∈ ([] : List Nat), k < n) : ZbI A a0 a1 a2 a3 a4 a5 a6 a7  n :=
 Zah hA (LSpec.callL (show LSpec Try.prog 5 #[Value.agg #[vi a0, vi a1, vi a2, vi a3, vi a4, vi a5, vi a6], vi a7] [] (Value.tuple #[Value.pointer none, vi 150]) [] from Zh4 a0 a1 a2 a3 a4 a5 a6 a7 N _ h) [] n [] rfl hnd hlt (show 0 ≤ 0 from by decide) (show ∀ j ∈ ([] : List Nat), j < 0 from by decide) (by rfl) trivial (by rfl) trivial trivial rfl rfl rfl rfl rfl)

noncomputable def Zcm (a0 a1 a2 a3 a4 a5 a6 a7 : Int) (n : Nat) : ZaD := .call [] (Value.tuple #[vp n 0, vq]) [(n, some (.cells (Zk Ze 64 [vi a7] (List.replicate 64 (⟨(0 : Int), false, false⟩ : RA)) [vi a0, vi a1, vi a2, vi a3, vi a4, vi a5, vi a6, vp (n + 1) 0, vp (n + 2) 0, vp (n + 3) 0, vp (n + 4) 0]) 111)), ((n + 1), some (.cells [vi a0, vs (n + 5) 0 17 17, vs (n + 6) 0 17 17, vn, vn, vn, vn, vn, vn, vn, vn, vn, vn, vn, vn, vn, vn, vn, vn, vn] 134)), ((n + 2), some (.cells [vs (n + 7) 0 (a1).toNat (a1).toNat, vs (n + 8) 0 (a1).toNat (a1).toNat] 158)), ((n + 3), some (.cells [vi a4, vq, vq] 163)), ((n + 4), some (.cells (Zk eI 64 [vi a7] (List.replicate 64 (0 : Int)) []) 171)), ((n + 5), some (.cells (Zb Zl klc) 129)), ((n + 6), some (.cells (Zb Zj kla) 72)), ((n + 7), some (.cells (Zb eI (List.replicate (a1).toNat (0 : Int))) 155)), ((n + 8), some (.cells (Zb eI (List.replicate (a1).toNat (0 : Int))) 155))] 9
def ZbJ (A : Array Value) (a0 a1 a2 a3 a4 a5 a6 a7 : Int) (n : Nat) : Prop := ZH Try.prog 5 A [] (Value.tuple #[vp n 0, vq]) [(n, some (.cells (Zk Ze 64 [vi a7] (List.replicate 64 (⟨(0 : Int), false, false⟩ : RA)) [vi a0, vi a1, vi a2, vi a3, vi a4, vi a5, vi a6, vp (n + 1) 0, vp (n + 2) 0, vp (n + 3) 0, vp (n + 4) 0]) 111)), ((n + 1), some (.cells [vi a0, vs (n + 5) 0 17 17, vs (n + 6) 0 17 17, vn, vn, vn, vn, vn, vn, vn, vn, vn, vn, vn, vn, vn, vn, vn, vn, vn] 134)), ((n + 2), some (.cells [vs (n + 7) 0 (a1).toNat (a1).toNat, vs (n + 8) 0 (a1).toNat (a1).toNat] 158)), ((n + 3), some (.cells [vi a4, vq, vq] 163)), ((n + 4), some (.cells (Zk eI 64 [vi a7] (List.replicate 64 (0 : Int)) []) 171)), ((n + 5), some (.cells (Zb Zl klc) 129)), ((n + 6), some (.cells (Zb Zj kla) 72)), ((n + 7), some (.cells (Zb eI (List.replicate (a1).toNat (0 : Int))) 155)), ((n + 8), some (.cells (Zb eI (List.replicate (a1).toNat (0 : Int))) 155))] n 9

theorem Zcn (A : Array Value) (a0 a1 a2 a3 a4 a5 a6 a7 : Int) (N : Nat) (h : ZcL a0 a1 a2 a3 a4 a5 a6 a7 N = some (.r1)) (n : Nat) (hA : A = #[Value.agg #[vi a0, vi a1, vi a2, vi a3, vi a4, vi a5, vi a6], vi a7]) (hnd : ([] : List Nat).Nodup) (hlt : ∀ k ∈ ([] : List Nat), k < n) : ZbJ A a0 a1 a2 a3 a4 a5 a6 a7  n :=
 Zah hA (LSpec.callL (show LSpec Try.prog 5 #[Value.agg #[vi a0, vi a1, vi a2, vi a3, vi a4, vi a5, vi a6], vi a7] [] (Value.tuple #[vp 0 0, vq]) [some (.cells (Zk Ze 64 [vi a7] (List.replicate 64 (⟨(0 : Int), false, false⟩ : RA)) [vi a0, vi a1, vi a2, vi a3, vi a4, vi a5, vi a6, vp 1 0, vp 2 0, vp 3 0, vp 4 0]) 111), some (.cells [vi a0, vs 5 0 17 17, vs 6 0 17 17, vn, vn, vn, vn, vn, vn, vn, vn, vn, vn, vn, vn, vn, vn, vn, vn, vn] 134), some (.cells [vs 7 0 (a1).toNat (a1).toNat, vs 8 0 (a1).toNat (a1).toNat] 158), some (.cells [vi a4, vq, vq] 163), some (.cells (Zk eI 64 [vi a7] (List.replicate 64 (0 : Int)) []) 171), some (.cells (Zb Zl klc) 129), some (.cells (Zb Zj kla) 72), some (.cells (Zb eI (List.replicate (a1).toNat (0 : Int))) 155), some (.cells (Zb eI (List.replicate (a1).toNat (0 : Int))) 155)] from Zh4 a0 a1 a2 a3 a4 a5 a6 a7 N _ h) [] n [0, 1, 2, 3, 4, 5, 6, 7, 8] rfl hnd hlt (show 0 ≤ 9 from by decide) (show ∀ j ∈ ([0, 1, 2, 3, 4, 5, 6, 7, 8] : List Nat), j < 9 from by decide) (by rfl) trivial (by rfl) ⟨(by kernel_rfl), ⟨rfl, ⟨rfl, ⟨rfl, ⟨(by kernel_rfl), ⟨(ZC _ _ _), ⟨(ZC _ _ _), ⟨(ZC _ _ _), ⟨(ZC _ _ _), trivial⟩⟩⟩⟩⟩⟩⟩⟩⟩ ⟨(by decide), ⟨(by decide), ⟨(by decide), ⟨(by decide), ⟨(by decide), ⟨(by decide), ⟨(by decide), ⟨(by decide), ⟨(by decide), trivial⟩⟩⟩⟩⟩⟩⟩⟩⟩ rfl rfl rfl rfl (Zd (ZB rfl (ZY (by kernel_rfl))) (Zd (ZB rfl (ZY rfl)) (Zd (ZB rfl (ZY rfl)) (Zd (ZB rfl (ZY rfl)) (Zd (ZB rfl (ZY (by kernel_rfl))) (Zd (ZB rfl (ZY (ZU _ _ _))) (Zd (ZB rfl (ZY (ZU _ _ _))) (Zd (ZB rfl (ZY (ZU _ _ _))) (Zd (ZB rfl (ZY (ZU _ _ _))) rfl))))))))))

noncomputable def Zju (a0 : Int) : Zbm → Value
 | .r0 => Value.tuple #[Value.agg #[vq, vn, vn], vi 1]
 | .r1 => Value.tuple #[Value.agg #[vi a0, vs 0 0 1 1, vn], vq]
noncomputable def Zir (a0 : Int) : Zbm → List (Option AObj)
 | .r0 => []
 | .r1 => [some (.cells [vi 1, vi 2, vi 1048577, vi 1, vi 16, vi 255, vi 2, vq, vs 1 0 16 16] 174), some (.cells (Zb Zj klb) 72)]

theorem Zl4 (a0 : Int) (N : Nat) : Gx Try.prog 50 [] #[vi a0] (Zju a0) (Zir a0) (ZbZ a0 N) := by
 unfold ZbZ
 refine Z2 (fun g0 => ?_) (fun g0 => ?_)
 ·
  exact Zx Zw (r := (.r0 : Zbm)) (fu := 4000) (orc := (Zo [(0, true)] [] [] [] [])) (live := []) (u := Value.tuple #[Value.agg #[vq, vn, vn], vi 1]) (bl := []) (ob := [((decide (a0 < (17 : Int))), true)]) (by kernel_rfl) (oY Zi) rfl (by decide) (by rfl) rr trivial (Zu _ rfl)
 ·
  refine Z2 (fun g1 => ?_) (fun g1 => ?_)
  ·
   exact Zx Zw (r := (.r0 : Zbm)) (fu := 4000) (orc := (Zo [(0, false), (1, true)] [] [] [] [])) (live := []) (u := Value.tuple #[Value.agg #[vq, vn, vn], vi 1]) (bl := []) (ob := [((decide (a0 > (65536 : Int))), true), ((decide (a0 < (17 : Int))), false)]) (by kernel_rfl) (oY <| oN Zi) rfl (by decide) (by rfl) rr trivial (Zu _ rfl)
  ·
   exact Zx Zw (r := (.r1 : Zbm)) (fu := 4000) (orc := (Zo [(0, false), (1, false)] [] [] [] [])) (live := [53, 52]) (u := Value.tuple #[Value.agg #[vi a0, vs 53 0 1 1, vn], vq]) (bl := [some (.cells [vi 1, vi 2, vi 1048577, vi 1, vi 16, vi 255, vi 2, vq, vs 52 0 16 16] 174), some (.cells [vi 2, vq, vi 2, vq, vi 2, vq, vi 2, vq, vi 2, vq, vi 2, vq, vi 2, vq, vi 2, vq, vi 1, vq, vi 1, vq, vi 1, vq, vi 1, vq, vi 1, vq, vi 1, vq, vi 1, vq, vi 1, vq] 72)]) (ob := [((decide (a0 > (65536 : Int))), false), ((decide (a0 < (17 : Int))), false)]) (by kernel_rfl) (oN <| oN Zi) rfl (by decide) (by rfl) rr ⟨⟨rfl, ⟨[], by rfl⟩, by rfl⟩, ⟨(ZeV (E := Zj) _ (L := klb) _ (show ([vi 2, vq, vi 2, vq, vi 2, vq, vi 2, vq, vi 2, vq, vi 2, vq, vi 2, vq, vi 2, vq, vi 1, vq, vi 1, vq, vi 1, vq, vi 1, vq, vi 1, vq, vi 1, vq, vi 1, vq, vi 1, vq] : List Value) = Zb Zj klb from rfl)), trivial⟩⟩ (Zu _ rfl)

theorem Zgf (a0 : Int) (N : Nat) (r : Zbm) (h : ZbZ a0 N = some r) : LSpec Try.prog 50 #[vi a0] [] (Zju a0 r) (Zir a0 r) :=
 (Zl4 a0 N) r h

noncomputable def Zmi (a0 : Int) (n : Nat) : ZaD := .call [] (Value.tuple #[Value.agg #[vq, vn, vn], vi 1]) [] 0
def Zis (A : Array Value) (a0 : Int) (n : Nat) : Prop := ZH Try.prog 50 A [] (Value.tuple #[Value.agg #[vq, vn, vn], vi 1]) [] n 0

theorem Zmj (A : Array Value) (a0 : Int) (N : Nat) (h : ZbZ a0 N = some (.r0)) (n : Nat) (hA : A = #[vi a0]) (hnd : ([] : List Nat).Nodup) (hlt : ∀ k ∈ ([] : List Nat), k < n) : Zis A a0  n :=
 Zah hA (LSpec.callL (show LSpec Try.prog 50 #[vi a0] [] (Value.tuple #[Value.agg #[vq, vn, vn], vi 1]) [] from Zgf a0 N _ h) [] n [] rfl hnd hlt (show 0 ≤ 0 from by decide) (show ∀ j ∈ ([] : List Nat), j < 0 from by decide) (by rfl) trivial (by rfl) trivial trivial rfl rfl rfl rfl rfl)

noncomputable def ZaP (a0 : Int) (n : Nat) : ZaD := .call [] (Value.tuple #[Value.agg #[vi a0, vs n 0 1 1, vn], vq]) [(n, some (.cells [vi 1, vi 2, vi 1048577, vi 1, vi 16, vi 255, vi 2, vq, vs (n + 1) 0 16 16] 174)), ((n + 1), some (.cells (Zb Zj klb) 72))] 2
def ZaC (A : Array Value) (a0 : Int) (n : Nat) : Prop := ZH Try.prog 50 A [] (Value.tuple #[Value.agg #[vi a0, vs n 0 1 1, vn], vq]) [(n, some (.cells [vi 1, vi 2, vi 1048577, vi 1, vi 16, vi 255, vi 2, vq, vs (n + 1) 0 16 16] 174)), ((n + 1), some (.cells (Zb Zj klb) 72))] n 2

theorem ZaQ (A : Array Value) (a0 : Int) (N : Nat) (h : ZbZ a0 N = some (.r1)) (n : Nat) (hA : A = #[vi a0]) (hnd : ([] : List Nat).Nodup) (hlt : ∀ k ∈ ([] : List Nat), k < n) : ZaC A a0  n :=
 Zah hA (LSpec.callL (show LSpec Try.prog 50 #[vi a0] [] (Value.tuple #[Value.agg #[vi a0, vs 0 0 1 1, vn], vq]) [some (.cells [vi 1, vi 2, vi 1048577, vi 1, vi 16, vi 255, vi 2, vq, vs 1 0 16 16] 174), some (.cells (Zb Zj klb) 72)] from Zgf a0 N _ h) [] n [0, 1] rfl hnd hlt (show 0 ≤ 2 from by decide) (show ∀ j ∈ ([0, 1] : List Nat), j < 2 from by decide) (by rfl) trivial (by rfl) ⟨rfl, ⟨(ZC _ _ _), trivial⟩⟩ ⟨(by decide), ⟨(by decide), trivial⟩⟩ rfl rfl rfl rfl (Zd (ZB rfl (ZY rfl)) (Zd (ZB rfl (ZY (ZU _ _ _))) rfl)))

noncomputable def Zh5 (a0 a1 : Int) : Zaq → Value
 | .r0 w0 => vi w0
noncomputable def ZgH (a0 a1 : Int) : Zaq → List (Option AObj)
 | .r0 w0 => []

theorem ZjJ (a0 a1 : Int) (N : Nat) : Gx Try.prog 54 [] #[vi a0, vi a1] (Zh5 a0 a1) (ZgH a0 a1) (Zcu a0 a1 N) := by
 unfold Zcu
 refine Z2 (fun g0 => ?_) (fun g0 => ?_)
 ·
  exact Zx Zw (r := (.r0 ((0 : Int)) : Zaq)) (fu := 4000) (orc := (Zo [(0, true)] [] [] [] [])) (live := []) (u := vq) (bl := []) (ob := [((a0 == (1 : Int)), true)]) (by kernel_rfl) (oT Zi) rfl (by decide) (by rfl) rr trivial (Zu _ rfl)
 ·
  refine Z2 (fun g1 => ?_) (fun g1 => ?_)
  ·
   refine Z2 (fun g2 => ?_) (fun g2 => ?_)
   ·
    refine Z2 (fun g3 => ?_) (fun g3 => ?_)
    ·
     exact Zx Zw (r := (.r0 ((0 : Int)) : Zaq)) (fu := 4000) (orc := (Zo [(0, false), (1, true), (2, true), (3, true)] [] [] [] [])) (live := []) (u := vq) (bl := []) (ob := [((decide (a1 ≤ (1000 : Int))), true), ((decide (a1 ≥ (1 : Int))), true), ((a0 == (2 : Int)), true), ((a0 == (1 : Int)), false)]) (by kernel_rfl) (oY <| oY <| oT <| oF Zi) rfl (by decide) (by rfl) rr trivial (Zu _ rfl)
    ·
     exact Zx Zw (r := (.r0 ((90 : Int)) : Zaq)) (fu := 4000) (orc := (Zo [(0, false), (1, true), (2, true), (3, false)] [] [] [] [])) (live := []) (u := vi 90) (bl := []) (ob := [((decide (a1 ≤ (1000 : Int))), false), ((decide (a1 ≥ (1 : Int))), true), ((a0 == (2 : Int)), true), ((a0 == (1 : Int)), false)]) (by kernel_rfl) (oN <| oY <| oT <| oF Zi) rfl (by decide) (by rfl) rr trivial (Zu _ rfl)
   ·
    exact Zx Zw (r := (.r0 ((90 : Int)) : Zaq)) (fu := 4000) (orc := (Zo [(0, false), (1, true), (2, false)] [] [] [] [])) (live := []) (u := vi 90) (bl := []) (ob := [((decide (a1 ≥ (1 : Int))), false), ((a0 == (2 : Int)), true), ((a0 == (1 : Int)), false)]) (by kernel_rfl) (oN <| oT <| oF Zi) rfl (by decide) (by rfl) rr trivial (Zu _ rfl)
  ·
   exact Zx Zw (r := (.r0 ((90 : Int)) : Zaq)) (fu := 4000) (orc := (Zo [(0, false), (1, false)] [] [] [] [])) (live := []) (u := vi 90) (bl := []) (ob := [((a0 == (2 : Int)), false), ((a0 == (1 : Int)), false)]) (by kernel_rfl) (oF <| oF Zi) rfl (by decide) (by rfl) rr trivial (Zu _ rfl)

theorem ZiK (a0 a1 : Int) (N : Nat) (r : Zaq) (h : Zcu a0 a1 N = some r) : LSpec Try.prog 54 #[vi a0, vi a1] [] (Zh5 a0 a1 r) (ZgH a0 a1 r) :=
 (ZjJ a0 a1 N) r h

noncomputable def ZgI (a0 a1 w0 : Int) (n : Nat) : ZaD := .call [] (vi w0) [] 0
def ZeG (A : Array Value) (a0 a1 w0 : Int) (n : Nat) : Prop := ZH Try.prog 54 A [] (vi w0) [] n 0

theorem ZgJ (A : Array Value) (a0 a1 w0 : Int) (N : Nat) (h : Zcu a0 a1 N = some (.r0 w0)) (n : Nat) (hA : A = #[vi a0, vi a1]) (hnd : ([] : List Nat).Nodup) (hlt : ∀ k ∈ ([] : List Nat), k < n) : ZeG A a0 a1 w0  n :=
 Zah hA (LSpec.callL (show LSpec Try.prog 54 #[vi a0, vi a1] [] (vi w0) [] from ZiK a0 a1 N _ h) [] n [] rfl hnd hlt (show 0 ≤ 0 from by decide) (show ∀ j ∈ ([] : List Nat), j < 0 from by decide) (by rfl) trivial (by rfl) trivial trivial rfl rfl rfl rfl rfl)

noncomputable def Zko (a0 a1 a2 a3 a4 a5 a6 : Int) : ZM → Value
 | .r0 w0 => Value.bool w0
noncomputable def Zjv (a0 a1 a2 a3 a4 a5 a6 : Int) : ZM → List (Option AObj)
 | .r0 w0 => []

theorem Zmk (a0 a1 a2 a3 a4 a5 a6 : Int) (N : Nat) : Gx Try.prog 8 [] #[Value.agg #[vi a0, vi a1, vi a2, vi a3, vi a4, vi a5, vi a6]] (Zko a0 a1 a2 a3 a4 a5 a6) (Zjv a0 a1 a2 a3 a4 a5 a6) (ZbO a0 a1 a2 a3 a4 a5 a6 N) := by
 unfold ZbO
 refine Z6 (fun z0 c0 => ?_)
 cases z0 with
 | r0 =>
  exact Zx Zw (r := (.r0 (false) : ZM)) (fu := 4000) (orc := (Zo [] [] [] [] [(0, (Zmi (a0)    1))])) (live := []) (u := vf) (bl := []) (ob := [(dP (Zis #[vi a0] (a0)    1), true)]) (by kernel_rfl) (Zc (Zm (Zmj #[vi a0] (a0)   N c0  1 rfl (by decide) (by decide))) Zi) rfl (by decide) (by rfl) rr trivial (Zu _ rfl)
 | r1 =>
  refine Z2 (fun g1 => ?_) (fun g1 => ?_)
  ·
   refine Z2 (fun g2 => ?_) (fun g2 => ?_)
   ·
    refine Z2 (fun g3 => ?_) (fun g3 => ?_)
    ·
     refine Z2 (fun g4 => ?_) (fun g4 => ?_)
     ·
      refine Z2 (fun g5 => ?_) (fun g5 => ?_)
      ·
       refine Z2 (fun g6 => ?_) (fun g6 => ?_)
       ·
        refine Z2 (fun g7 => ?_) (fun g7 => ?_)
        ·
         refine Z2 (fun g8 => ?_) (fun g8 => ?_)
         ·
          refine Z6 (fun z9 c9 => ?_)
          cases z9 with
          | r0 y9_0 =>
           refine Z2 (fun g10 => ?_) (fun g10 => ?_)
           ·
            exact Zx Zw (r := (.r0 (true) : ZM)) (fu := 4000) (orc := (Zo [(1, true), (2, true), (3, true), (4, true), (5, true), (6, true), (7, true), (8, true), (9, true)] [] [] [] [(0, (ZaP (a0)    1)), (2, (ZgI (a5) (a6)  y9_0  4))])) (live := []) (u := vT) (bl := []) (ob := [((y9_0 == (0 : Int)), true), (dP (ZeG #[vi a5, vi a6] (a5) (a6)  y9_0  4), true), ((decide (a4 ≤ (1099511627776 : Int))), true), ((decide (a4 ≥ (1 : Int))), true), ((decide (a3 ≤ (4096 : Int))), true), ((decide (a3 ≥ (1 : Int))), true), ((decide (a2 ≤ (4096 : Int))), true), ((decide (a2 ≥ (1 : Int))), true), ((decide (a1 ≤ (1024 : Int))), true), ((decide (a1 ≥ (1 : Int))), true), (dP (ZaC #[vi a0] (a0)    1), true)]) (by kernel_rfl) (oT <| Zc (Zm (ZgJ #[vi a5, vi a6] (a5) (a6)  y9_0 N c9  4 rfl (by decide) (by decide))) <| oY <| oY <| oY <| oY <| oY <| oY <| oY <| oY <| Zc (Zm (ZaQ #[vi a0] (a0)   N c0  1 rfl (by decide) (by decide))) Zi) rfl (by decide) (by rfl) rr trivial (Zu _ rfl)
           ·
            exact Zx Zw (r := (.r0 (false) : ZM)) (fu := 4000) (orc := (Zo [(1, true), (2, true), (3, true), (4, true), (5, true), (6, true), (7, true), (8, true), (9, false)] [] [] [] [(0, (ZaP (a0)    1)), (2, (ZgI (a5) (a6)  y9_0  4))])) (live := []) (u := vf) (bl := []) (ob := [((y9_0 == (0 : Int)), false), (dP (ZeG #[vi a5, vi a6] (a5) (a6)  y9_0  4), true), ((decide (a4 ≤ (1099511627776 : Int))), true), ((decide (a4 ≥ (1 : Int))), true), ((decide (a3 ≤ (4096 : Int))), true), ((decide (a3 ≥ (1 : Int))), true), ((decide (a2 ≤ (4096 : Int))), true), ((decide (a2 ≥ (1 : Int))), true), ((decide (a1 ≤ (1024 : Int))), true), ((decide (a1 ≥ (1 : Int))), true), (dP (ZaC #[vi a0] (a0)    1), true)]) (by kernel_rfl) (oF <| Zc (Zm (ZgJ #[vi a5, vi a6] (a5) (a6)  y9_0 N c9  4 rfl (by decide) (by decide))) <| oY <| oY <| oY <| oY <| oY <| oY <| oY <| oY <| Zc (Zm (ZaQ #[vi a0] (a0)   N c0  1 rfl (by decide) (by decide))) Zi) rfl (by decide) (by rfl) rr trivial (Zu _ rfl)
         ·
          exact Zx Zw (r := (.r0 (false) : ZM)) (fu := 4000) (orc := (Zo [(1, true), (2, true), (3, true), (4, true), (5, true), (6, true), (7, true), (8, false)] [] [] [] [(0, (ZaP (a0)    1))])) (live := []) (u := vf) (bl := []) (ob := [((decide (a4 ≤ (1099511627776 : Int))), false), ((decide (a4 ≥ (1 : Int))), true), ((decide (a3 ≤ (4096 : Int))), true), ((decide (a3 ≥ (1 : Int))), true), ((decide (a2 ≤ (4096 : Int))), true), ((decide (a2 ≥ (1 : Int))), true), ((decide (a1 ≤ (1024 : Int))), true), ((decide (a1 ≥ (1 : Int))), true), (dP (ZaC #[vi a0] (a0)    1), true)]) (by kernel_rfl) (oN <| oY <| oY <| oY <| oY <| oY <| oY <| oY <| Zc (Zm (ZaQ #[vi a0] (a0)   N c0  1 rfl (by decide) (by decide))) Zi) rfl (by decide) (by rfl) rr trivial (Zu _ rfl)
        ·
         exact Zx Zw (r := (.r0 (false) : ZM)) (fu := 4000) (orc := (Zo [(1, true), (2, true), (3, true), (4, true), (5, true), (6, true), (7, false)] [] [] [] [(0, (ZaP (a0)    1))])) (live := []) (u := vf) (bl := []) (ob := [((decide (a4 ≥ (1 : Int))), false), ((decide (a3 ≤ (4096 : Int))), true), ((decide (a3 ≥ (1 : Int))), true), ((decide (a2 ≤ (4096 : Int))), true), ((decide (a2 ≥ (1 : Int))), true), ((decide (a1 ≤ (1024 : Int))), true), ((decide (a1 ≥ (1 : Int))), true), (dP (ZaC #[vi a0] (a0)    1), true)]) (by kernel_rfl) (oN <| oY <| oY <| oY <| oY <| oY <| oY <| Zc (Zm (ZaQ #[vi a0] (a0)   N c0  1 rfl (by decide) (by decide))) Zi) rfl (by decide) (by rfl) rr trivial (Zu _ rfl)
       ·
        exact Zx Zw (r := (.r0 (false) : ZM)) (fu := 4000) (orc := (Zo [(1, true), (2, true), (3, true), (4, true), (5, true), (6, false)] [] [] [] [(0, (ZaP (a0)    1))])) (live := []) (u := vf) (bl := []) (ob := [((decide (a3 ≤ (4096 : Int))), false), ((decide (a3 ≥ (1 : Int))), true), ((decide (a2 ≤ (4096 : Int))), true), ((decide (a2 ≥ (1 : Int))), true), ((decide (a1 ≤ (1024 : Int))), true), ((decide (a1 ≥ (1 : Int))), true), (dP (ZaC #[vi a0] (a0)    1), true)]) (by kernel_rfl) (oN <| oY <| oY <| oY <| oY <| oY <| Zc (Zm (ZaQ #[vi a0] (a0)   N c0  1 rfl (by decide) (by decide))) Zi) rfl (by decide) (by rfl) rr trivial (Zu _ rfl)
      ·
       exact Zx Zw (r := (.r0 (false) : ZM)) (fu := 4000) (orc := (Zo [(1, true), (2, true), (3, true), (4, true), (5, false)] [] [] [] [(0, (ZaP (a0)    1))])) (live := []) (u := vf) (bl := []) (ob := [((decide (a3 ≥ (1 : Int))), false), ((decide (a2 ≤ (4096 : Int))), true), ((decide (a2 ≥ (1 : Int))), true), ((decide (a1 ≤ (1024 : Int))), true), ((decide (a1 ≥ (1 : Int))), true), (dP (ZaC #[vi a0] (a0)    1), true)]) (by kernel_rfl) (oN <| oY <| oY <| oY <| oY <| Zc (Zm (ZaQ #[vi a0] (a0)   N c0  1 rfl (by decide) (by decide))) Zi) rfl (by decide) (by rfl) rr trivial (Zu _ rfl)
     ·
      exact Zx Zw (r := (.r0 (false) : ZM)) (fu := 4000) (orc := (Zo [(1, true), (2, true), (3, true), (4, false)] [] [] [] [(0, (ZaP (a0)    1))])) (live := []) (u := vf) (bl := []) (ob := [((decide (a2 ≤ (4096 : Int))), false), ((decide (a2 ≥ (1 : Int))), true), ((decide (a1 ≤ (1024 : Int))), true), ((decide (a1 ≥ (1 : Int))), true), (dP (ZaC #[vi a0] (a0)    1), true)]) (by kernel_rfl) (oN <| oY <| oY <| oY <| Zc (Zm (ZaQ #[vi a0] (a0)   N c0  1 rfl (by decide) (by decide))) Zi) rfl (by decide) (by rfl) rr trivial (Zu _ rfl)
    ·
     exact Zx Zw (r := (.r0 (false) : ZM)) (fu := 4000) (orc := (Zo [(1, true), (2, true), (3, false)] [] [] [] [(0, (ZaP (a0)    1))])) (live := []) (u := vf) (bl := []) (ob := [((decide (a2 ≥ (1 : Int))), false), ((decide (a1 ≤ (1024 : Int))), true), ((decide (a1 ≥ (1 : Int))), true), (dP (ZaC #[vi a0] (a0)    1), true)]) (by kernel_rfl) (oN <| oY <| oY <| Zc (Zm (ZaQ #[vi a0] (a0)   N c0  1 rfl (by decide) (by decide))) Zi) rfl (by decide) (by rfl) rr trivial (Zu _ rfl)
   ·
    exact Zx Zw (r := (.r0 (false) : ZM)) (fu := 4000) (orc := (Zo [(1, true), (2, false)] [] [] [] [(0, (ZaP (a0)    1))])) (live := []) (u := vf) (bl := []) (ob := [((decide (a1 ≤ (1024 : Int))), false), ((decide (a1 ≥ (1 : Int))), true), (dP (ZaC #[vi a0] (a0)    1), true)]) (by kernel_rfl) (oN <| oY <| Zc (Zm (ZaQ #[vi a0] (a0)   N c0  1 rfl (by decide) (by decide))) Zi) rfl (by decide) (by rfl) rr trivial (Zu _ rfl)
  ·
   exact Zx Zw (r := (.r0 (false) : ZM)) (fu := 4000) (orc := (Zo [(1, false)] [] [] [] [(0, (ZaP (a0)    1))])) (live := []) (u := vf) (bl := []) (ob := [((decide (a1 ≥ (1 : Int))), false), (dP (ZaC #[vi a0] (a0)    1), true)]) (by kernel_rfl) (oN <| Zc (Zm (ZaQ #[vi a0] (a0)   N c0  1 rfl (by decide) (by decide))) Zi) rfl (by decide) (by rfl) rr trivial (Zu _ rfl)

theorem Zky (a0 a1 a2 a3 a4 a5 a6 : Int) (N : Nat) (r : ZM) (h : ZbO a0 a1 a2 a3 a4 a5 a6 N = some r) : LSpec Try.prog 8 #[Value.agg #[vi a0, vi a1, vi a2, vi a3, vi a4, vi a5, vi a6]] [] (Zko a0 a1 a2 a3 a4 a5 a6 r) (Zjv a0 a1 a2 a3 a4 a5 a6 r) :=
 (Zmk a0 a1 a2 a3 a4 a5 a6 N) r h

noncomputable def ZaS (a0 a1 a2 a3 a4 a5 a6 : Int) (w0 : Bool) (n : Nat) : ZaD := .call [] (Value.bool w0) [] 0
def ZaJ (A : Array Value) (a0 a1 a2 a3 a4 a5 a6 : Int) (w0 : Bool) (n : Nat) : Prop := ZH Try.prog 8 A [] (Value.bool w0) [] n 0

theorem ZaT (A : Array Value) (a0 a1 a2 a3 a4 a5 a6 : Int) (w0 : Bool) (N : Nat) (h : ZbO a0 a1 a2 a3 a4 a5 a6 N = some (.r0 w0)) (n : Nat) (hA : A = #[Value.agg #[vi a0, vi a1, vi a2, vi a3, vi a4, vi a5, vi a6]]) (hnd : ([] : List Nat).Nodup) (hlt : ∀ k ∈ ([] : List Nat), k < n) : ZaJ A a0 a1 a2 a3 a4 a5 a6 w0  n :=
 Zah hA (LSpec.callL (show LSpec Try.prog 8 #[Value.agg #[vi a0, vi a1, vi a2, vi a3, vi a4, vi a5, vi a6]] [] (Value.bool w0) [] from Zky a0 a1 a2 a3 a4 a5 a6 N _ h) [] n [] rfl hnd hlt (show 0 ≤ 0 from by decide) (show ∀ j ∈ ([] : List Nat), j < 0 from by decide) (by rfl) trivial (by rfl) trivial trivial rfl rfl rfl rfl rfl)

noncomputable def Zjw (a0 : Int) : Zbn → Value
 | .r0 => Value.tuple #[Value.agg #[vn], vi 30]
 | .r1 => Value.tuple #[Value.agg #[vs 0 0 (a0).toNat (a0).toNat], vq]
noncomputable def Zit (a0 : Int) : Zbn → List (Option AObj)
 | .r0 => []
 | .r1 => [some (.cells (Zb Zp (List.replicate (a0).toNat (⟨(0 : Int), (0 : Int), (0 : Int)⟩ : RB))) 89)]

theorem Zl5 (a0 : Int) (N : Nat) : Gx Try.prog 51 [] #[vi a0] (Zjw a0) (Zit a0) (ZdH a0 N) := by
 unfold ZdH
 refine Z2 (fun g0 => ?_) (fun g0 => ?_)
 ·
  exact Zx Zw (r := (.r0 : Zbn)) (fu := 4000) (orc := (Zo [(0, true)] [] [] [] [])) (live := []) (u := Value.tuple #[Value.agg #[vn], vi 30]) (bl := []) (ob := [((decide (a0 < (1 : Int))), true)]) (by kernel_rfl) (oY Zi) rfl (by decide) (by rfl) rr trivial (Zu _ rfl)
 ·
  refine Z2 (fun g1 => ?_) (fun g1 => ?_)
  ·
   exact Zx Zw (r := (.r0 : Zbn)) (fu := 4000) (orc := (Zo [(0, false), (1, true)] [] [] [] [])) (live := []) (u := Value.tuple #[Value.agg #[vn], vi 30]) (bl := []) (ob := [((decide (a0 > (1024 : Int))), true), ((decide (a0 < (1 : Int))), false)]) (by kernel_rfl) (oY <| oN Zi) rfl (by decide) (by rfl) rr trivial (Zu _ rfl)
  ·
   exact Zx Zw (r := (.r1 : Zbn)) (fu := 4000) (orc := (Zo [(0, false), (1, false)] [] [] [] [(0, .mk (a0).toNat (a0).toNat (Zb Zp (List.replicate (a0).toNat (⟨(0 : Int), (0 : Int), (0 : Int)⟩ : RB))))])) (live := [1]) (u := Value.tuple #[Value.agg #[vs 1 0 (a0).toNat (a0).toNat], vq]) (bl := [some (.cells (Zb Zp (List.replicate (a0).toNat (⟨(0 : Int), (0 : Int), (0 : Int)⟩ : RB))) 89)]) (ob := [(dP ((a0).toNat ≤ (a0).toNat ∧ (a0).toNat ≤ 100000 ∧ Ev.rep [vq, vq, vq] ((a0).toNat * 3) = (Zb Zp (List.replicate (a0).toNat (⟨(0 : Int), (0 : Int), (0 : Int)⟩ : RB)))), true), (a0 == Int.ofNat (a0).toNat, true), (a0 == Int.ofNat (a0).toNat, true), ((decide (a0 > (1024 : Int))), false), ((decide (a0 < (1 : Int))), false)]) (by kernel_rfl) (Zc (Zm ⟨by omega, by omega, Zfw (E := Zp) (⟨(0 : Int), (0 : Int), (0 : Int)⟩ : RB) (a0).toNat (by decide) rfl rfl⟩) <| oI <| oI <| oN <| oN Zi) rfl (by decide) (by rfl) rr ⟨(Za (E := Zp) (α := RB) _ (List.replicate (a0).toNat (⟨(0 : Int), (0 : Int), (0 : Int)⟩ : RB)) _), trivial⟩ (Zu _ rfl)

theorem ZjK (a0 : Int) (N : Nat) (r : Zbn) (h : ZdH a0 N = some r) : LSpec Try.prog 51 #[vi a0] [] (Zjw a0 r) (Zit a0 r) :=
 (Zl5 a0 N) r h

noncomputable def Zml (a0 : Int) (n : Nat) : ZaD := .call [] (Value.tuple #[Value.agg #[vs n 0 (a0).toNat (a0).toNat], vq]) [(n, some (.cells (Zb Zp (List.replicate (a0).toNat (⟨(0 : Int), (0 : Int), (0 : Int)⟩ : RB))) 89))] 1
def Ziu (A : Array Value) (a0 : Int) (n : Nat) : Prop := ZH Try.prog 51 A [] (Value.tuple #[Value.agg #[vs n 0 (a0).toNat (a0).toNat], vq]) [(n, some (.cells (Zb Zp (List.replicate (a0).toNat (⟨(0 : Int), (0 : Int), (0 : Int)⟩ : RB))) 89))] n 1

theorem Zmm (A : Array Value) (a0 : Int) (N : Nat) (h : ZdH a0 N = some (.r1)) (n : Nat) (hA : A = #[vi a0]) (hnd : ([] : List Nat).Nodup) (hlt : ∀ k ∈ ([] : List Nat), k < n) : Ziu A a0  n :=
 Zah hA (LSpec.callL (show LSpec Try.prog 51 #[vi a0] [] (Value.tuple #[Value.agg #[vs 0 0 (a0).toNat (a0).toNat], vq]) [some (.cells (Zb Zp (List.replicate (a0).toNat (⟨(0 : Int), (0 : Int), (0 : Int)⟩ : RB))) 89)] from ZjK a0 N _ h) [] n [0] rfl hnd hlt (show 0 ≤ 1 from by decide) (show ∀ j ∈ ([0] : List Nat), j < 1 from by decide) (by rfl) trivial (by rfl) ⟨(ZC _ _ _), trivial⟩ ⟨(by decide), trivial⟩ rfl rfl rfl rfl (Zd (ZB rfl (ZY (ZU _ _ _))) rfl))

noncomputable def Zjx (a0 : Int) : Zbo → Value
 | .r0 w0 w3 => Value.tuple #[Value.agg #[vi w0, vq, vq], vi w3]
noncomputable def Ziv (a0 : Int) : Zbo → List (Option AObj)
 | .r0 w0 w3 => []

theorem Zl6 (a0 : Int) (N : Nat) : Gx Try.prog 52 [] #[vi a0] (Zjx a0) (Ziv a0) (ZdI a0 N) := by
 unfold ZdI
 refine Z2 (fun g0 => ?_) (fun g0 => ?_)
 ·
  exact Zx Zw (r := (.r0 ((0 : Int)) ((1 : Int)) : Zbo)) (fu := 4000) (orc := (Zo [(0, true)] [] [] [] [])) (live := []) (u := Value.tuple #[Value.agg #[vq, vq, vq], vi 1]) (bl := []) (ob := [((decide (a0 < (1 : Int))), true)]) (by kernel_rfl) (oY Zi) rfl (by decide) (by rfl) rr trivial (Zu _ rfl)
 ·
  refine Z2 (fun g1 => ?_) (fun g1 => ?_)
  ·
   exact Zx Zw (r := (.r0 ((0 : Int)) ((1 : Int)) : Zbo)) (fu := 4000) (orc := (Zo [(0, false), (1, true)] [] [] [] [])) (live := []) (u := Value.tuple #[Value.agg #[vq, vq, vq], vi 1]) (bl := []) (ob := [((decide (a0 > (1099511627776 : Int))), true), ((decide (a0 < (1 : Int))), false)]) (by kernel_rfl) (oY <| oN Zi) rfl (by decide) (by rfl) rr trivial (Zu _ rfl)
  ·
   exact Zx Zw (r := (.r0 (a0) ((0 : Int)) : Zbo)) (fu := 4000) (orc := (Zo [(0, false), (1, false)] [] [] [] [])) (live := []) (u := Value.tuple #[Value.agg #[vi a0, vq, vq], vq]) (bl := []) (ob := [((decide (a0 > (1099511627776 : Int))), false), ((decide (a0 < (1 : Int))), false)]) (by kernel_rfl) (oN <| oN Zi) rfl (by decide) (by rfl) rr trivial (Zu _ rfl)

theorem ZjL (a0 : Int) (N : Nat) (r : Zbo) (h : ZdI a0 N = some r) : LSpec Try.prog 52 #[vi a0] [] (Zjx a0 r) (Ziv a0 r) :=
 (Zl6 a0 N) r h

noncomputable def Zmn (a0 w0 w3 : Int) (n : Nat) : ZaD := .call [] (Value.tuple #[Value.agg #[vi w0, vq, vq], vi w3]) [] 0
def Ziw (A : Array Value) (a0 w0 w3 : Int) (n : Nat) : Prop := ZH Try.prog 52 A [] (Value.tuple #[Value.agg #[vi w0, vq, vq], vi w3]) [] n 0

theorem Zmo (A : Array Value) (a0 w0 w3 : Int) (N : Nat) (h : ZdI a0 N = some (.r0 w0 w3)) (n : Nat) (hA : A = #[vi a0]) (hnd : ([] : List Nat).Nodup) (hlt : ∀ k ∈ ([] : List Nat), k < n) : Ziw A a0 w0 w3  n :=
 Zah hA (LSpec.callL (show LSpec Try.prog 52 #[vi a0] [] (Value.tuple #[Value.agg #[vi w0, vq, vq], vi w3]) [] from ZjL a0 N _ h) [] n [] rfl hnd hlt (show 0 ≤ 0 from by decide) (show ∀ j ∈ ([] : List Nat), j < 0 from by decide) (by rfl) trivial (by rfl) trivial trivial rfl rfl rfl rfl rfl)

noncomputable def Zjy (a0 : Int) : Zbp → Value
 | .r0 => Value.tuple #[Value.agg #[vn], vi 50]
 | .r1 => Value.tuple #[Value.agg #[vs 0 0 (a0).toNat (a0).toNat], vq]
noncomputable def Zix (a0 : Int) : Zbp → List (Option AObj)
 | .r0 => []
 | .r1 => [some (.cells (Zb eI (List.replicate (a0).toNat (0 : Int))) 3)]

theorem Zl7 (a0 : Int) (N : Nat) : Gx Try.prog 53 [] #[vi a0] (Zjy a0) (Zix a0) (ZdJ a0 N) := by
 unfold ZdJ
 refine Z2 (fun g0 => ?_) (fun g0 => ?_)
 ·
  exact Zx Zw (r := (.r0 : Zbp)) (fu := 4000) (orc := (Zo [(0, true)] [] [] [] [])) (live := []) (u := Value.tuple #[Value.agg #[vn], vi 50]) (bl := []) (ob := [((decide (a0 < (1 : Int))), true)]) (by kernel_rfl) (oY Zi) rfl (by decide) (by rfl) rr trivial (Zu _ rfl)
 ·
  refine Z2 (fun g1 => ?_) (fun g1 => ?_)
  ·
   exact Zx Zw (r := (.r0 : Zbp)) (fu := 4000) (orc := (Zo [(0, false), (1, true)] [] [] [] [])) (live := []) (u := Value.tuple #[Value.agg #[vn], vi 50]) (bl := []) (ob := [((decide (a0 > (64 : Int))), true), ((decide (a0 < (1 : Int))), false)]) (by kernel_rfl) (oY <| oN Zi) rfl (by decide) (by rfl) rr trivial (Zu _ rfl)
  ·
   exact Zx Zw (r := (.r1 : Zbp)) (fu := 4000) (orc := (Zo [(0, false), (1, false)] [] [] [] [(0, .mk (a0).toNat (a0).toNat (Zb eI (List.replicate (a0).toNat (0 : Int))))])) (live := [1]) (u := Value.tuple #[Value.agg #[vs 1 0 (a0).toNat (a0).toNat], vq]) (bl := [some (.cells (Zb eI (List.replicate (a0).toNat (0 : Int))) 3)]) (ob := [(dP ((a0).toNat ≤ (a0).toNat ∧ (a0).toNat ≤ 100000 ∧ Ev.rep [vq] ((a0).toNat * 1) = (Zb eI (List.replicate (a0).toNat (0 : Int)))), true), (a0 == Int.ofNat (a0).toNat, true), (a0 == Int.ofNat (a0).toNat, true), ((decide (a0 > (64 : Int))), false), ((decide (a0 < (1 : Int))), false)]) (by kernel_rfl) (Zc (Zm ⟨by omega, by omega, Zfw (E := eI) (0 : Int) (a0).toNat (by decide) rfl rfl⟩) <| oI <| oI <| oN <| oN Zi) rfl (by decide) (by rfl) rr ⟨(Za (E := eI) (α := Int) _ (List.replicate (a0).toNat (0 : Int)) _), trivial⟩ (Zu _ rfl)

theorem ZjM (a0 : Int) (N : Nat) (r : Zbp) (h : ZdJ a0 N = some r) : LSpec Try.prog 53 #[vi a0] [] (Zjy a0 r) (Zix a0 r) :=
 (Zl7 a0 N) r h

noncomputable def Zmp (a0 : Int) (n : Nat) : ZaD := .call [] (Value.tuple #[Value.agg #[vs n 0 (a0).toNat (a0).toNat], vq]) [(n, some (.cells (Zb eI (List.replicate (a0).toNat (0 : Int))) 3))] 1
def Ziy (A : Array Value) (a0 : Int) (n : Nat) : Prop := ZH Try.prog 53 A [] (Value.tuple #[Value.agg #[vs n 0 (a0).toNat (a0).toNat], vq]) [(n, some (.cells (Zb eI (List.replicate (a0).toNat (0 : Int))) 3))] n 1

theorem Zmq (A : Array Value) (a0 : Int) (N : Nat) (h : ZdJ a0 N = some (.r1)) (n : Nat) (hA : A = #[vi a0]) (hnd : ([] : List Nat).Nodup) (hlt : ∀ k ∈ ([] : List Nat), k < n) : Ziy A a0  n :=
 Zah hA (LSpec.callL (show LSpec Try.prog 53 #[vi a0] [] (Value.tuple #[Value.agg #[vs 0 0 (a0).toNat (a0).toNat], vq]) [some (.cells (Zb eI (List.replicate (a0).toNat (0 : Int))) 3)] from ZjM a0 N _ h) [] n [0] rfl hnd hlt (show 0 ≤ 1 from by decide) (show ∀ j ∈ ([0] : List Nat), j < 1 from by decide) (by rfl) trivial (by rfl) ⟨(ZC _ _ _), trivial⟩ ⟨(by decide), trivial⟩ rfl rfl rfl rfl (Zd (ZB rfl (ZY (ZU _ _ _))) rfl))

noncomputable def Zjz (a0 a1 a2 a3 a4 a5 a6 a7 : Int) : ZaR → Value
 | .r0 => Value.tuple #[Value.agg #[vq, vq, vq, vq, vq, vq, vq, vq, vn, vn, vn, vq, vq, vq, vn, vn], vi 150]
 | .r1 w9 => Value.tuple #[Value.agg #[vi a0, vi a1, vi a2, vi a3, vi a4, vi a5, vi a6, vi a0, vs 0 0 1 1, vn, vs 1 0 (a1).toNat (a1).toNat, vi w9, vq, vq, vs 2 0 (a7).toNat (a7).toNat, vs 3 0 (a7).toNat (a7).toNat], vq]
noncomputable def Ziz (a0 a1 a2 a3 a4 a5 a6 a7 : Int) : ZaR → List (Option AObj)
 | .r0 => []
 | .r1 w9 => [some (.cells [vi 1, vi 2, vi 1048577, vi 1, vi 16, vi 255, vi 2, vq, vs 4 0 16 16] 174), some (.cells (Zb Zp (List.replicate (a1).toNat (⟨(0 : Int), (0 : Int), (0 : Int)⟩ : RB))) 89), some (.cells (Zb eI (List.replicate (a7).toNat (0 : Int))) 3), some (.cells (Zb Ze (List.replicate (a7).toNat (⟨(0 : Int), false, false⟩ : RA))) 63), some (.cells (Zb Zj klb) 72)]

theorem Zl8 (a0 a1 a2 a3 a4 a5 a6 a7 : Int) (N : Nat) : Gx Try.prog 6 [] #[Value.agg #[vi a0, vi a1, vi a2, vi a3, vi a4, vi a5, vi a6], vi a7] (Zjz a0 a1 a2 a3 a4 a5 a6 a7) (Ziz a0 a1 a2 a3 a4 a5 a6 a7) (Zca a0 a1 a2 a3 a4 a5 a6 a7 N) := by
 unfold Zca
 refine Z6 (fun z0 c0 => ?_)
 cases z0 with
 | r0 y0_0 =>
  refine Z2 (fun g1 => ?_) (fun g1 => ?_)
  ·
   exact Zx Zw (r := (.r0 : ZaR)) (fu := 4000) (orc := (Zo [(0, true)] [] [] [] [(0, (ZaS (a0) (a1) (a2) (a3) (a4) (a5) (a6)  y0_0  2))])) (live := []) (u := Value.tuple #[Value.agg #[vq, vq, vq, vq, vq, vq, vq, vq, vn, vn, vn, vq, vq, vq, vn, vn], vi 150]) (bl := []) (ob := [((!y0_0), true), (dP (ZaJ #[Value.agg #[vi a0, vi a1, vi a2, vi a3, vi a4, vi a5, vi a6]] (a0) (a1) (a2) (a3) (a4) (a5) (a6)  y0_0  2), true)]) (by kernel_rfl) (Zc (Zpn (by first | assumption | simp_all)) <| Zc (Zm (ZaT #[Value.agg #[vi a0, vi a1, vi a2, vi a3, vi a4, vi a5, vi a6]] (a0) (a1) (a2) (a3) (a4) (a5) (a6)  y0_0 N c0  2 rfl (by decide) (by decide))) Zi) rfl (by decide) (by rfl) rr trivial (Zu _ rfl)
  ·
   refine Z2 (fun g2 => ?_) (fun g2 => ?_)
   ·
    exact Zx Zw (r := (.r0 : ZaR)) (fu := 4000) (orc := (Zo [(0, false), (1, true)] [] [] [] [(0, (ZaS (a0) (a1) (a2) (a3) (a4) (a5) (a6)  y0_0  2))])) (live := []) (u := Value.tuple #[Value.agg #[vq, vq, vq, vq, vq, vq, vq, vq, vn, vn, vn, vq, vq, vq, vn, vn], vi 150]) (bl := []) (ob := [((decide (a7 < (1 : Int))), true), ((!y0_0), false), (dP (ZaJ #[Value.agg #[vi a0, vi a1, vi a2, vi a3, vi a4, vi a5, vi a6]] (a0) (a1) (a2) (a3) (a4) (a5) (a6)  y0_0  2), true)]) (by kernel_rfl) (oY <| Zc (Zlx (by first | assumption | exact Decidable.not_not.1 (by assumption) | simp_all)) <| Zc (Zm (ZaT #[Value.agg #[vi a0, vi a1, vi a2, vi a3, vi a4, vi a5, vi a6]] (a0) (a1) (a2) (a3) (a4) (a5) (a6)  y0_0 N c0  2 rfl (by decide) (by decide))) Zi) rfl (by decide) (by rfl) rr trivial (Zu _ rfl)
   ·
    refine Z2 (fun g3 => ?_) (fun g3 => ?_)
    ·
     exact Zx Zw (r := (.r0 : ZaR)) (fu := 4000) (orc := (Zo [(0, false), (1, false), (2, true)] [] [] [] [(0, (ZaS (a0) (a1) (a2) (a3) (a4) (a5) (a6)  y0_0  2))])) (live := []) (u := Value.tuple #[Value.agg #[vq, vq, vq, vq, vq, vq, vq, vq, vn, vn, vn, vq, vq, vq, vn, vn], vi 150]) (bl := []) (ob := [((decide (a7 > (64 : Int))), true), ((decide (a7 < (1 : Int))), false), ((!y0_0), false), (dP (ZaJ #[Value.agg #[vi a0, vi a1, vi a2, vi a3, vi a4, vi a5, vi a6]] (a0) (a1) (a2) (a3) (a4) (a5) (a6)  y0_0  2), true)]) (by kernel_rfl) (oY <| oN <| Zc (Zlx (by first | assumption | exact Decidable.not_not.1 (by assumption) | simp_all)) <| Zc (Zm (ZaT #[Value.agg #[vi a0, vi a1, vi a2, vi a3, vi a4, vi a5, vi a6]] (a0) (a1) (a2) (a3) (a4) (a5) (a6)  y0_0 N c0  2 rfl (by decide) (by decide))) Zi) rfl (by decide) (by rfl) rr trivial (Zu _ rfl)
    ·
     refine Z6 (fun z4 c4 => ?_)
     cases z4 with
     | r0 =>
      exact ZdG
     | r1 =>
      refine Z6 (fun z5 c5 => ?_)
      cases z5 with
      | r0 =>
       exact ZdG
      | r1 =>
       refine Z6 (fun z6 c6 => ?_)
       cases z6 with
       | r0 y6_0 y6_1 =>
        refine Z6 (fun z7 c7 => ?_)
        cases z7 with
        | r0 =>
         exact ZdG
        | r1 =>
         exact Zx Zw (r := (.r1 (y6_0) : ZaR)) (fu := 4000) (orc := (Zo [(0, false), (1, false), (2, false)] [] [] [] [(0, (ZaS (a0) (a1) (a2) (a3) (a4) (a5) (a6)  y0_0  2)), (1, (ZaP (a0)    2)), (3, (Zml (a1)    5)), (5, (Zmn (a4)  y6_0 y6_1  7)), (7, (Zmp (a7)    8)), (9, .mk (a7).toNat (a7).toNat (Zb Ze (List.replicate (a7).toNat (⟨(0 : Int), false, false⟩ : RA))))])) (live := [2, 5, 8, 10, 3]) (u := Value.tuple #[Value.agg #[vi a0, vi a1, vi a2, vi a3, vi a4, vi a5, vi a6, vi a0, vs 2 0 1 1, vn, vs 5 0 (a1).toNat (a1).toNat, vi y6_0, vq, vq, vs 8 0 (a7).toNat (a7).toNat, vs 10 0 (a7).toNat (a7).toNat], vq]) (bl := [some (.cells [vi 1, vi 2, vi 1048577, vi 1, vi 16, vi 255, vi 2, vq, vs 3 0 16 16] 174), some (.cells (Zb Zp (List.replicate (a1).toNat (⟨(0 : Int), (0 : Int), (0 : Int)⟩ : RB))) 89), some (.cells (Zb eI (List.replicate (a7).toNat (0 : Int))) 3), some (.cells (Zb Ze (List.replicate (a7).toNat (⟨(0 : Int), false, false⟩ : RA))) 63), some (.cells (Zb Zj klb) 72)]) (ob := [(dP ((a7).toNat ≤ (a7).toNat ∧ (a7).toNat ≤ 100000 ∧ Ev.rep [vq, vf, vf] ((a7).toNat * 3) = (Zb Ze (List.replicate (a7).toNat (⟨(0 : Int), false, false⟩ : RA)))), true), (a7 == Int.ofNat (a7).toNat, true), (a7 == Int.ofNat (a7).toNat, true), (dP (Ziy #[vi a7] (a7)    8), true), (dP (Ziw #[vi a4] (a4)  y6_0 y6_1  7), true), (dP (Ziu #[vi a1] (a1)    5), true), (dP (ZaC #[vi a0] (a0)    2), true), ((decide (a7 > (64 : Int))), false), ((decide (a7 < (1 : Int))), false), ((!y0_0), false), (dP (ZaJ #[Value.agg #[vi a0, vi a1, vi a2, vi a3, vi a4, vi a5, vi a6]] (a0) (a1) (a2) (a3) (a4) (a5) (a6)  y0_0  2), true)]) (by kernel_rfl) (Zc (Zm ⟨by omega, by omega, Zfw (E := Ze) (⟨(0 : Int), false, false⟩ : RA) (a7).toNat (by decide) rfl rfl⟩) <| oI <| oI <| Zc (Zm (Zmq #[vi a7] (a7)   N c7  8 rfl (by decide) (by decide))) <| Zc (Zm (Zmo #[vi a4] (a4)  y6_0 y6_1 N c6  7 rfl (by decide) (by decide))) <| Zc (Zm (Zmm #[vi a1] (a1)   N c5  5 rfl (by decide) (by decide))) <| Zc (Zm (ZaQ #[vi a0] (a0)   N c4  2 rfl (by decide) (by decide))) <| oN <| oN <| Zc (Zlx (by first | assumption | exact Decidable.not_not.1 (by assumption) | simp_all)) <| Zc (Zm (ZaT #[Value.agg #[vi a0, vi a1, vi a2, vi a3, vi a4, vi a5, vi a6]] (a0) (a1) (a2) (a3) (a4) (a5) (a6)  y0_0 N c0  2 rfl (by decide) (by decide))) Zi) rfl (by decide) (by rfl) rr ⟨⟨rfl, ⟨[], by rfl⟩, by rfl⟩, ⟨(Za (E := Zp) (α := RB) _ (List.replicate (a1).toNat (⟨(0 : Int), (0 : Int), (0 : Int)⟩ : RB)) _), ⟨(Za (E := eI) (α := Int) _ (List.replicate (a7).toNat (0 : Int)) _), ⟨(Za (E := Ze) (α := RA) _ (List.replicate (a7).toNat (⟨(0 : Int), false, false⟩ : RA)) _), ⟨(Za (E := Zj) (α := R_ii) _ klb _), trivial⟩⟩⟩⟩⟩ (Zu _ rfl)

theorem Zgg (a0 a1 a2 a3 a4 a5 a6 a7 : Int) (N : Nat) (r : ZaR) (h : Zca a0 a1 a2 a3 a4 a5 a6 a7 N = some r) : LSpec Try.prog 6 #[Value.agg #[vi a0, vi a1, vi a2, vi a3, vi a4, vi a5, vi a6], vi a7] [] (Zjz a0 a1 a2 a3 a4 a5 a6 a7 r) (Ziz a0 a1 a2 a3 a4 a5 a6 a7 r) :=
 (Zl8 a0 a1 a2 a3 a4 a5 a6 a7 N) r h

noncomputable def Zd0 (a0 a1 a2 a3 a4 a5 a6 a7 : Int) (n : Nat) : ZaD := .call [] (Value.tuple #[Value.agg #[vq, vq, vq, vq, vq, vq, vq, vq, vn, vn, vn, vq, vq, vq, vn, vn], vi 150]) [] 0
def ZcM (A : Array Value) (a0 a1 a2 a3 a4 a5 a6 a7 : Int) (n : Nat) : Prop := ZH Try.prog 6 A [] (Value.tuple #[Value.agg #[vq, vq, vq, vq, vq, vq, vq, vq, vn, vn, vn, vq, vq, vq, vn, vn], vi 150]) [] n 0

theorem Zd1 (A : Array Value) (a0 a1 a2 a3 a4 a5 a6 a7 : Int) (N : Nat) (h : Zca a0 a1 a2 a3 a4 a5 a6 a7 N = some (.r0)) (n : Nat) (hA : A = #[Value.agg #[vi a0, vi a1, vi a2, vi a3, vi a4, vi a5, vi a6], vi a7]) (hnd : ([] : List Nat).Nodup) (hlt : ∀ k ∈ ([] : List Nat), k < n) : ZcM A a0 a1 a2 a3 a4 a5 a6 a7  n :=
 Zah hA (LSpec.callL (show LSpec Try.prog 6 #[Value.agg #[vi a0, vi a1, vi a2, vi a3, vi a4, vi a5, vi a6], vi a7] [] (Value.tuple #[Value.agg #[vq, vq, vq, vq, vq, vq, vq, vq, vn, vn, vn, vq, vq, vq, vn, vn], vi 150]) [] from Zgg a0 a1 a2 a3 a4 a5 a6 a7 N _ h) [] n [] rfl hnd hlt (show 0 ≤ 0 from by decide) (show ∀ j ∈ ([] : List Nat), j < 0 from by decide) (by rfl) trivial (by rfl) trivial trivial rfl rfl rfl rfl rfl)

noncomputable def Zd2 (a0 a1 a2 a3 a4 a5 a6 a7 w9 : Int) (n : Nat) : ZaD := .call [] (Value.tuple #[Value.agg #[vi a0, vi a1, vi a2, vi a3, vi a4, vi a5, vi a6, vi a0, vs n 0 1 1, vn, vs (n + 1) 0 (a1).toNat (a1).toNat, vi w9, vq, vq, vs (n + 2) 0 (a7).toNat (a7).toNat, vs (n + 3) 0 (a7).toNat (a7).toNat], vq]) [(n, some (.cells [vi 1, vi 2, vi 1048577, vi 1, vi 16, vi 255, vi 2, vq, vs (n + 4) 0 16 16] 174)), ((n + 1), some (.cells (Zb Zp (List.replicate (a1).toNat (⟨(0 : Int), (0 : Int), (0 : Int)⟩ : RB))) 89)), ((n + 2), some (.cells (Zb eI (List.replicate (a7).toNat (0 : Int))) 3)), ((n + 3), some (.cells (Zb Ze (List.replicate (a7).toNat (⟨(0 : Int), false, false⟩ : RA))) 63)), ((n + 4), some (.cells (Zb Zj klb) 72))] 5
def ZcN (A : Array Value) (a0 a1 a2 a3 a4 a5 a6 a7 w9 : Int) (n : Nat) : Prop := ZH Try.prog 6 A [] (Value.tuple #[Value.agg #[vi a0, vi a1, vi a2, vi a3, vi a4, vi a5, vi a6, vi a0, vs n 0 1 1, vn, vs (n + 1) 0 (a1).toNat (a1).toNat, vi w9, vq, vq, vs (n + 2) 0 (a7).toNat (a7).toNat, vs (n + 3) 0 (a7).toNat (a7).toNat], vq]) [(n, some (.cells [vi 1, vi 2, vi 1048577, vi 1, vi 16, vi 255, vi 2, vq, vs (n + 4) 0 16 16] 174)), ((n + 1), some (.cells (Zb Zp (List.replicate (a1).toNat (⟨(0 : Int), (0 : Int), (0 : Int)⟩ : RB))) 89)), ((n + 2), some (.cells (Zb eI (List.replicate (a7).toNat (0 : Int))) 3)), ((n + 3), some (.cells (Zb Ze (List.replicate (a7).toNat (⟨(0 : Int), false, false⟩ : RA))) 63)), ((n + 4), some (.cells (Zb Zj klb) 72))] n 5

theorem Zd3 (A : Array Value) (a0 a1 a2 a3 a4 a5 a6 a7 w9 : Int) (N : Nat) (h : Zca a0 a1 a2 a3 a4 a5 a6 a7 N = some (.r1 w9)) (n : Nat) (hA : A = #[Value.agg #[vi a0, vi a1, vi a2, vi a3, vi a4, vi a5, vi a6], vi a7]) (hnd : ([] : List Nat).Nodup) (hlt : ∀ k ∈ ([] : List Nat), k < n) : ZcN A a0 a1 a2 a3 a4 a5 a6 a7 w9  n :=
 Zah hA (LSpec.callL (show LSpec Try.prog 6 #[Value.agg #[vi a0, vi a1, vi a2, vi a3, vi a4, vi a5, vi a6], vi a7] [] (Value.tuple #[Value.agg #[vi a0, vi a1, vi a2, vi a3, vi a4, vi a5, vi a6, vi a0, vs 0 0 1 1, vn, vs 1 0 (a1).toNat (a1).toNat, vi w9, vq, vq, vs 2 0 (a7).toNat (a7).toNat, vs 3 0 (a7).toNat (a7).toNat], vq]) [some (.cells [vi 1, vi 2, vi 1048577, vi 1, vi 16, vi 255, vi 2, vq, vs 4 0 16 16] 174), some (.cells (Zb Zp (List.replicate (a1).toNat (⟨(0 : Int), (0 : Int), (0 : Int)⟩ : RB))) 89), some (.cells (Zb eI (List.replicate (a7).toNat (0 : Int))) 3), some (.cells (Zb Ze (List.replicate (a7).toNat (⟨(0 : Int), false, false⟩ : RA))) 63), some (.cells (Zb Zj klb) 72)] from Zgg a0 a1 a2 a3 a4 a5 a6 a7 N _ h) [] n [0, 1, 2, 3, 4] rfl hnd hlt (show 0 ≤ 5 from by decide) (show ∀ j ∈ ([0, 1, 2, 3, 4] : List Nat), j < 5 from by decide) (by rfl) trivial (by rfl) ⟨rfl, ⟨(ZC _ _ _), ⟨(ZC _ _ _), ⟨(ZC _ _ _), ⟨(ZC _ _ _), trivial⟩⟩⟩⟩⟩ ⟨(by decide), ⟨(by decide), ⟨(by decide), ⟨(by decide), ⟨(by decide), trivial⟩⟩⟩⟩⟩ rfl rfl rfl rfl (Zd (ZB rfl (ZY rfl)) (Zd (ZB rfl (ZY (ZU _ _ _))) (Zd (ZB rfl (ZY (ZU _ _ _))) (Zd (ZB rfl (ZY (ZU _ _ _))) (Zd (ZB rfl (ZY (ZU _ _ _))) rfl))))))

noncomputable def Zj0 (a0 a1 a2 : Int) (b3 : Bool) (a4 a5 : Int) : ZV → Value
 | .r0 w0 => vi w0
noncomputable def Zi0 (a0 a1 a2 : Int) (b3 : Bool) (a4 a5 : Int) : ZV → List (Option AObj)
 | .r0 w0 => []

theorem Zl9 (a0 a1 a2 : Int) (b3 : Bool) (a4 a5 : Int) (N : Nat) : Gx Try.prog 60 [] #[vi a0, vi a1, vi a2, Value.bool b3, vi a4, vi a5] (Zj0 a0 a1 a2 b3 a4 a5) (Zi0 a0 a1 a2 b3 a4 a5) (ZaA a0 a1 a2 b3 a4 a5 N) := by
 unfold ZaA
 refine Z2 (fun g0 => ?_) (fun g0 => ?_)
 ·
  subst g0
  refine Z2 (fun g1 => ?_) (fun g1 => ?_)
  ·
   exact Zx Zw (r := (.r0 ((1 : Int)) : ZV)) (fu := 4000) (orc := (Zo [(0, true)] [] [] [] [])) (live := []) (u := vi 1) (bl := []) (ob := [((a0 == (1 : Int)), true)]) (by kernel_rfl) (oT Zi) rfl (by decide) (by rfl) rr trivial (Zu _ rfl)
  ·
   refine Z2 (fun g2 => ?_) (fun g2 => ?_)
   ·
    refine Z2 (fun g3 => ?_) (fun g3 => ?_)
    ·
     exact Zx Zw (r := (.r0 ((1 : Int)) : ZV)) (fu := 4000) (orc := (Zo [(0, false), (1, true), (2, true)] [] [] [] [])) (live := []) (u := vi 1) (bl := []) (ob := [((decide (a4 < a5)), true), ((a0 == (2 : Int)), true), ((a0 == (1 : Int)), false)]) (by kernel_rfl) (oY <| oT <| oF Zi) rfl (by decide) (by rfl) rr trivial (Zu _ rfl)
    ·
     exact Zx Zw (r := (.r0 ((3 : Int)) : ZV)) (fu := 4000) (orc := (Zo [(0, false), (1, true), (2, false), (3, false)] [] [] [] [])) (live := []) (u := vi 3) (bl := []) (ob := [((a0 == (1 : Int)), false), ((decide (a4 < a5)), false), ((a0 == (2 : Int)), true), ((a0 == (1 : Int)), false)]) (by kernel_rfl) (oF <| oN <| oT <| oF Zi) rfl (by decide) (by rfl) rr trivial (Zu _ rfl)
   ·
    exact Zx Zw (r := (.r0 ((3 : Int)) : ZV)) (fu := 4000) (orc := (Zo [(0, false), (1, false), (2, false)] [] [] [] [])) (live := []) (u := vi 3) (bl := []) (ob := [((a0 == (1 : Int)), false), ((a0 == (2 : Int)), false), ((a0 == (1 : Int)), false)]) (by kernel_rfl) (oF <| oF <| oF Zi) rfl (by decide) (by rfl) rr trivial (Zu _ rfl)
 ·
  obtain rfl : b3 = false := by simpa using g0
  refine Z2 (fun g1 => ?_) (fun g1 => ?_)
  ·
   refine Z2 (fun g2 => ?_) (fun g2 => ?_)
   ·
    exact Zx Zw (r := (.r0 ((2 : Int)) : ZV)) (fu := 4000) (orc := (Zo [(0, true), (1, false), (2, true), (3, true)] [] [] [] [])) (live := []) (u := vi 2) (bl := []) (ob := [((decide (a1 < a2)), true), ((a0 == (1 : Int)), true), ((a0 == (2 : Int)), false), ((a0 == (1 : Int)), true)]) (by kernel_rfl) (oY <| oT <| oF <| oT Zi) rfl (by decide) (by rfl) rr trivial (Zu _ rfl)
   ·
    exact Zx Zw (r := (.r0 ((3 : Int)) : ZV)) (fu := 4000) (orc := (Zo [(0, true), (1, false), (2, true), (3, false)] [] [] [] [])) (live := []) (u := vi 3) (bl := []) (ob := [((decide (a1 < a2)), false), ((a0 == (1 : Int)), true), ((a0 == (2 : Int)), false), ((a0 == (1 : Int)), true)]) (by kernel_rfl) (oN <| oT <| oF <| oT Zi) rfl (by decide) (by rfl) rr trivial (Zu _ rfl)
  ·
   refine Z2 (fun g2 => ?_) (fun g2 => ?_)
   ·
    refine Z2 (fun g3 => ?_) (fun g3 => ?_)
    ·
     exact Zx Zw (r := (.r0 ((1 : Int)) : ZV)) (fu := 4000) (orc := (Zo [(0, false), (1, true), (2, true)] [] [] [] [])) (live := []) (u := vi 1) (bl := []) (ob := [((decide (a4 < a5)), true), ((a0 == (2 : Int)), true), ((a0 == (1 : Int)), false)]) (by kernel_rfl) (oY <| oT <| oF Zi) rfl (by decide) (by rfl) rr trivial (Zu _ rfl)
    ·
     exact Zx Zw (r := (.r0 ((3 : Int)) : ZV)) (fu := 4000) (orc := (Zo [(0, false), (1, true), (2, false), (3, false)] [] [] [] [])) (live := []) (u := vi 3) (bl := []) (ob := [((a0 == (1 : Int)), false), ((decide (a4 < a5)), false), ((a0 == (2 : Int)), true), ((a0 == (1 : Int)), false)]) (by kernel_rfl) (oF <| oN <| oT <| oF Zi) rfl (by decide) (by rfl) rr trivial (Zu _ rfl)
   ·
    exact Zx Zw (r := (.r0 ((3 : Int)) : ZV)) (fu := 4000) (orc := (Zo [(0, false), (1, false), (2, false)] [] [] [] [])) (live := []) (u := vi 3) (bl := []) (ob := [((a0 == (1 : Int)), false), ((a0 == (2 : Int)), false), ((a0 == (1 : Int)), false)]) (by kernel_rfl) (oF <| oF <| oF Zi) rfl (by decide) (by rfl) rr trivial (Zu _ rfl)

theorem ZjN (a0 a1 a2 : Int) (b3 : Bool) (a4 a5 : Int) (N : Nat) (r : ZV) (h : ZaA a0 a1 a2 b3 a4 a5 N = some r) : LSpec Try.prog 60 #[vi a0, vi a1, vi a2, Value.bool b3, vi a4, vi a5] [] (Zj0 a0 a1 a2 b3 a4 a5 r) (Zi0 a0 a1 a2 b3 a4 a5 r) :=
 (Zl9 a0 a1 a2 b3 a4 a5 N) r h

noncomputable def Zbu (a0 a1 a2 : Int) (b3 : Bool) (a4 a5 w0 : Int) (n : Nat) : ZaD := .call [] (vi w0) [] 0
def ZaV (A : Array Value) (a0 a1 a2 : Int) (b3 : Bool) (a4 a5 w0 : Int) (n : Nat) : Prop := ZH Try.prog 60 A [] (vi w0) [] n 0

theorem Zbv (A : Array Value) (a0 a1 a2 : Int) (b3 : Bool) (a4 a5 w0 : Int) (N : Nat) (h : ZaA a0 a1 a2 b3 a4 a5 N = some (.r0 w0)) (n : Nat) (hA : A = #[vi a0, vi a1, vi a2, Value.bool b3, vi a4, vi a5]) (hnd : ([] : List Nat).Nodup) (hlt : ∀ k ∈ ([] : List Nat), k < n) : ZaV A a0 a1 a2 b3 a4 a5 w0  n :=
 Zah hA (LSpec.callL (show LSpec Try.prog 60 #[vi a0, vi a1, vi a2, Value.bool b3, vi a4, vi a5] [] (vi w0) [] from ZjN a0 a1 a2 b3 a4 a5 N _ h) [] n [] rfl hnd hlt (show 0 ≤ 0 from by decide) (show ∀ j ∈ ([] : List Nat), j < 0 from by decide) (by rfl) trivial (by rfl) trivial trivial rfl rfl rfl rfl rfl)

noncomputable def Zfx (a0 a1 a2 : Int) (b3 : Bool) (a4 : Int) (L5 : List RA) (a6 a7 a8 a9 a10 a11 a12 a13 : Int) (L14 : List RD) (L15 : List R_ii) (L16 L17 : List Int) (a18 a19 a20 a21 : Int) (L22 : List Int) : Z5 → Value
 | .r0 w4 => vi w4
noncomputable def ZeH (a0 a1 a2 : Int) (b3 : Bool) (a4 : Int) (L5 : List RA) (a6 a7 a8 a9 a10 a11 a12 a13 : Int) (L14 : List RD) (L15 : List R_ii) (L16 L17 : List Int) (a18 a19 a20 a21 : Int) (L22 : List Int) : Z5 → List (Option AObj)
 | .r0 w4 => [some (.cells (Zk Ze 64 [vi a4] L5 [vi a6, vi a7, vi a8, vi a9, vi a10, vi a11, vi a12, vp 1 0, vp 2 0, vp 3 0, vp 4 0]) 111), some (.cells [vi a13, vs 5 0 L14.length L14.length, vs 6 0 L15.length L15.length, vn, vn, vn, vn, vn, vn, vn, vn, vn, vn, vn, vn, vn, vn, vn, vn, vn] 134), some (.cells [vs 7 0 L16.length L16.length, vs 8 0 L17.length L17.length] 158), some (.cells [vi a18, vi a19, vi a20] 163), some (.cells (Zk eI 64 [vi a21] L22 []) 171), some (.cells (Zb Zl L14) 129), some (.cells (Zb Zj L15) 72), some (.cells (Zb eI L16) 155), some (.cells (Zb eI L17) 155)]

theorem Zh6 (a0 a1 a2 : Int) (b3 : Bool) (a4 : Int) (L5 : List RA) (a6 a7 a8 a9 a10 a11 a12 a13 : Int) (L14 : List RD) (L15 : List R_ii) (L16 L17 : List Int) (a18 a19 a20 a21 : Int) (L22 : List Int) (N : Nat) : Gx Try.prog 18 [.cells (Zk Ze 64 [vi a4] L5 [vi a6, vi a7, vi a8, vi a9, vi a10, vi a11, vi a12, vp 1 0, vp 2 0, vp 3 0, vp 4 0]) 111, .cells [vi a13, vs 5 0 L14.length L14.length, vs 6 0 L15.length L15.length, vn, vn, vn, vn, vn, vn, vn, vn, vn, vn, vn, vn, vn, vn, vn, vn, vn] 134, .cells [vs 7 0 L16.length L16.length, vs 8 0 L17.length L17.length] 158, .cells [vi a18, vi a19, vi a20] 163, .cells (Zk eI 64 [vi a21] L22 []) 171, .cells (Zb Zl L14) 129, .cells (Zb Zj L15) 72, .cells (Zb eI L16) 155, .cells (Zb eI L17) 155] #[vp 0 0, vi a0, vi a1, vi a2, Value.bool b3] (Zfx a0 a1 a2 b3 a4 L5 a6 a7 a8 a9 a10 a11 a12 a13 L14 L15 L16 L17 a18 a19 a20 a21 L22) (ZeH a0 a1 a2 b3 a4 L5 a6 a7 a8 a9 a10 a11 a12 a13 L14 L15 L16 L17 a18 a19 a20 a21 L22) (ZaZ a0 a1 a2 b3 a4 L5 a6 a7 a8 a9 a10 a11 a12 a13 L14 L15 L16 L17 a18 a19 a20 a21 L22 N) := by
 unfold ZaZ
 refine Z2 (fun g0 => ?_) (fun g0 => ?_)
 ·
  refine Z2 (fun g1 => ?_) (fun g1 => ?_)
  ·
   refine Z2 (fun g2 => ?_) (fun g2 => ?_)
   ·
    refine Z6 (fun z3 c3 => ?_)
    cases z3 with
    | r0 y3_0 =>
     exact Zx Zw (r := (.r0 (y3_0) : Z5)) (fu := 4000) (orc := (Zo [(1, true), (4, true), (6, true), (10, true), (12, true)] [] [] [] [(2, (Zbu (a11) ((0 : Int)) ((0 : Int)) (b3) (a2) (a12)  y3_0  11))])) (live := [0, 1, 2, 3, 4, 5, 6, 7, 8]) (u := vi y3_0) (bl := [some (.cells (Zk Ze 64 [vi a4] L5 [vi a6, vi a7, vi a8, vi a9, vi a10, vi a11, vi a12, vp 1 0, vp 2 0, vp 3 0, vp 4 0]) 111), some (.cells [vi a13, vs 5 0 L14.length L14.length, vs 6 0 L15.length L15.length, vn, vn, vn, vn, vn, vn, vn, vn, vn, vn, vn, vn, vn, vn, vn, vn, vn] 134), some (.cells [vs 7 0 L16.length L16.length, vs 8 0 L17.length L17.length] 158), some (.cells [vi a18, vi a19, vi a20] 163), some (.cells (Zk eI 64 [vi a21] L22 []) 171), some (.cells (Zb Zl L14) 129), some (.cells (Zb Zj L15) 72), some (.cells (Zb eI L16) 155), some (.cells (Zb eI L17) 155)]) (ob := [(dP (ZaV #[vi a11, vq, vq, Value.bool b3, vi a2, vi a12] (a11) ((0 : Int)) ((0 : Int)) (b3) (a2) (a12)  y3_0  11), true), ((decide (a1 < (0 : Int))), true), ((decide (a4 > (0 : Int))), true), ((decide (a0 < (0 : Int))), true), ((decide (a4 > (0 : Int))), true), ((decide (a4 > (0 : Int))), true)]) (by kernel_rfl) (Zc (Zm (Zbv #[vi a11, vq, vq, Value.bool b3, vi a2, vi a12] (a11) ((0 : Int)) ((0 : Int)) (b3) (a2) (a12)  y3_0 N c3  11 rfl (by decide) (by decide))) <| oY <| oY <| oY <| oY <| oY Zi) rfl (by decide) (by rfl) rr ⟨⟨rfl, ⟨[], by kernel_rfl⟩, by kernel_rfl⟩, ⟨⟨rfl, ⟨[], by rfl⟩, by rfl⟩, ⟨⟨rfl, ⟨[], by rfl⟩, by rfl⟩, ⟨⟨rfl, ⟨[], by rfl⟩, by rfl⟩, ⟨⟨rfl, ⟨[], by kernel_rfl⟩, by kernel_rfl⟩, ⟨(Za (E := Zl) (α := RD) _ L14 _), ⟨(Za (E := Zj) (α := R_ii) _ L15 _), ⟨(Za (E := eI) (α := Int) _ L16 _), ⟨(Za (E := eI) (α := Int) _ L17 _), trivial⟩⟩⟩⟩⟩⟩⟩⟩⟩ (Zu _ rfl)
   ·
    refine Z2 (fun g3 => ?_) (fun g3 => ?_)
    ·
     refine Z6 (fun z4 c4 => ?_)
     cases z4 with
     | r0 y4_0 =>
      exact Zx Zw (r := (.r0 (y4_0) : Z5)) (fu := 4000) (orc := (Zo [(1, true), (4, true), (6, true), (10, true), (12, false), (13, true)] [] [] [] [(2, (Zbu (a11) ((0 : Int)) ((0 : Int)) (b3) (a2) (a12)  y4_0  11))])) (live := [0, 1, 2, 3, 4, 5, 6, 7, 8]) (u := vi y4_0) (bl := [some (.cells (Zk Ze 64 [vi a4] L5 [vi a6, vi a7, vi a8, vi a9, vi a10, vi a11, vi a12, vp 1 0, vp 2 0, vp 3 0, vp 4 0]) 111), some (.cells [vi a13, vs 5 0 L14.length L14.length, vs 6 0 L15.length L15.length, vn, vn, vn, vn, vn, vn, vn, vn, vn, vn, vn, vn, vn, vn, vn, vn, vn] 134), some (.cells [vs 7 0 L16.length L16.length, vs 8 0 L17.length L17.length] 158), some (.cells [vi a18, vi a19, vi a20] 163), some (.cells (Zk eI 64 [vi a21] L22 []) 171), some (.cells (Zb Zl L14) 129), some (.cells (Zb Zj L15) 72), some (.cells (Zb eI L16) 155), some (.cells (Zb eI L17) 155)]) (ob := [(dP (ZaV #[vi a11, vq, vq, Value.bool b3, vi a2, vi a12] (a11) ((0 : Int)) ((0 : Int)) (b3) (a2) (a12)  y4_0  11), true), ((decide (a1 ≥ a4)), true), ((decide (a1 < (0 : Int))), false), ((decide (a4 > (0 : Int))), true), ((decide (a0 < (0 : Int))), true), ((decide (a4 > (0 : Int))), true), ((decide (a4 > (0 : Int))), true)]) (by kernel_rfl) (Zc (Zm (Zbv #[vi a11, vq, vq, Value.bool b3, vi a2, vi a12] (a11) ((0 : Int)) ((0 : Int)) (b3) (a2) (a12)  y4_0 N c4  11 rfl (by decide) (by decide))) <| oY <| oN <| oY <| oY <| oY <| oY Zi) rfl (by decide) (by rfl) rr ⟨⟨rfl, ⟨[], by kernel_rfl⟩, by kernel_rfl⟩, ⟨⟨rfl, ⟨[], by rfl⟩, by rfl⟩, ⟨⟨rfl, ⟨[], by rfl⟩, by rfl⟩, ⟨⟨rfl, ⟨[], by rfl⟩, by rfl⟩, ⟨⟨rfl, ⟨[], by kernel_rfl⟩, by kernel_rfl⟩, ⟨(Za (E := Zl) (α := RD) _ L14 _), ⟨(Za (E := Zj) (α := R_ii) _ L15 _), ⟨(Za (E := eI) (α := Int) _ L16 _), ⟨(Za (E := eI) (α := Int) _ L17 _), trivial⟩⟩⟩⟩⟩⟩⟩⟩⟩ (Zu _ rfl)
    ·
     refine Z2 (fun g4 => ?_) (fun g4 => ?_)
     ·
      refine Z6 (fun z5 c5 => ?_)
      cases z5 with
      | r0 y5_0 =>
       exact Zx Zw (r := (.r0 (y5_0) : Z5)) (fu := 4000) (orc := (Zo [(1, true), (4, true), (6, true), (10, true), (12, false), (13, false)] [] [(0, (a1).toNat)] [(5, [.i (L5.getD (a1).toNat RA.z).a0, .b (L5.getD (a1).toNat RA.z).a1, .b (L5.getD (a1).toNat RA.z).a2])] [(2, (Zbu (a11) ((0 : Int)) ((L5.getD (a1).toNat RA.z).a0) (b3) (a2) (a12)  y5_0  11))])) (live := [0, 1, 2, 3, 4, 5, 6, 7, 8]) (u := vi y5_0) (bl := [some (.cells (Zk Ze 64 [vi a4] L5 [vi a6, vi a7, vi a8, vi a9, vi a10, vi a11, vi a12, vp 1 0, vp 2 0, vp 3 0, vp 4 0]) 111), some (.cells [vi a13, vs 5 0 L14.length L14.length, vs 6 0 L15.length L15.length, vn, vn, vn, vn, vn, vn, vn, vn, vn, vn, vn, vn, vn, vn, vn, vn, vn] 134), some (.cells [vs 7 0 L16.length L16.length, vs 8 0 L17.length L17.length] 158), some (.cells [vi a18, vi a19, vi a20] 163), some (.cells (Zk eI 64 [vi a21] L22 []) 171), some (.cells (Zb Zl L14) 129), some (.cells (Zb Zj L15) 72), some (.cells (Zb eI L16) 155), some (.cells (Zb eI L17) 155)]) (ob := [(dP (ZaV #[vi a11, vq, vi (L5.getD (a1).toNat RA.z).a0, Value.bool b3, vi a2, vi a12] (a11) ((0 : Int)) ((L5.getD (a1).toNat RA.z).a0) (b3) (a2) (a12)  y5_0  11), true), (Z0 (Zs 3 (List.drop (1 + ((a1).toNat * 3)) (Zk Ze 64 [vi a4] L5 [vi a6, vi a7, vi a8, vi a9, vi a10, vi a11, vi a12, vp 1 0, vp 2 0, vp 3 0, vp 4 0]))) [.i (L5.getD (a1).toNat RA.z).a0, .b (L5.getD (a1).toNat RA.z).a1, .b (L5.getD (a1).toNat RA.z).a2], true), (Nat.blt (a1).toNat 64, true), (a1 == Int.ofNat (a1).toNat, true), ((decide (a1 ≥ a4)), false), ((decide (a1 < (0 : Int))), false), ((decide (a4 > (0 : Int))), true), ((decide (a0 < (0 : Int))), true), ((decide (a4 > (0 : Int))), true), ((decide (a4 > (0 : Int))), true)]) (by kernel_rfl) (Zc (Zm (Zbv #[vi a11, vq, vi (L5.getD (a1).toNat RA.z).a0, Value.bool b3, vi a2, vi a12] (a11) ((0 : Int)) ((L5.getD (a1).toNat RA.z).a0) (b3) (a2) (a12)  y5_0 N c5  11 rfl (by decide) (by decide))) <| Zc (Z3 (E := Ze) (L := L5) (n := 64) (p := 1) (i := (a1).toNat) (q := 0) rfl (by omega) (show (1 + ((a1).toNat * 3)) = 1 + (a1).toNat * 3 + 0 from by omega) (show 0 + 3 ≤ 3 from by decide) rfl rfl) <| oB <| oI <| oN <| oN <| oY <| oY <| oY <| oY Zi) rfl (by decide) (by rfl) rr ⟨⟨rfl, ⟨[], by kernel_rfl⟩, by kernel_rfl⟩, ⟨⟨rfl, ⟨[], by rfl⟩, by rfl⟩, ⟨⟨rfl, ⟨[], by rfl⟩, by rfl⟩, ⟨⟨rfl, ⟨[], by rfl⟩, by rfl⟩, ⟨⟨rfl, ⟨[], by kernel_rfl⟩, by kernel_rfl⟩, ⟨(Za (E := Zl) (α := RD) _ L14 _), ⟨(Za (E := Zj) (α := R_ii) _ L15 _), ⟨(Za (E := eI) (α := Int) _ L16 _), ⟨(Za (E := eI) (α := Int) _ L17 _), trivial⟩⟩⟩⟩⟩⟩⟩⟩⟩ (Zu _ rfl)
     ·
      exact ZdG
  ·
   refine Z2 (fun g2 => ?_) (fun g2 => ?_)
   ·
    refine Z2 (fun g3 => ?_) (fun g3 => ?_)
    ·
     refine Z6 (fun z4 c4 => ?_)
     cases z4 with
     | r0 y4_0 =>
      exact Zx Zw (r := (.r0 (y4_0) : Z5)) (fu := 4000) (orc := (Zo [(1, true), (4, true), (6, false), (7, true), (11, true), (13, true)] [] [] [] [(2, (Zbu (a11) ((0 : Int)) ((0 : Int)) (b3) (a2) (a12)  y4_0  11))])) (live := [0, 1, 2, 3, 4, 5, 6, 7, 8]) (u := vi y4_0) (bl := [some (.cells (Zk Ze 64 [vi a4] L5 [vi a6, vi a7, vi a8, vi a9, vi a10, vi a11, vi a12, vp 1 0, vp 2 0, vp 3 0, vp 4 0]) 111), some (.cells [vi a13, vs 5 0 L14.length L14.length, vs 6 0 L15.length L15.length, vn, vn, vn, vn, vn, vn, vn, vn, vn, vn, vn, vn, vn, vn, vn, vn, vn] 134), some (.cells [vs 7 0 L16.length L16.length, vs 8 0 L17.length L17.length] 158), some (.cells [vi a18, vi a19, vi a20] 163), some (.cells (Zk eI 64 [vi a21] L22 []) 171), some (.cells (Zb Zl L14) 129), some (.cells (Zb Zj L15) 72), some (.cells (Zb eI L16) 155), some (.cells (Zb eI L17) 155)]) (ob := [(dP (ZaV #[vi a11, vq, vq, Value.bool b3, vi a2, vi a12] (a11) ((0 : Int)) ((0 : Int)) (b3) (a2) (a12)  y4_0  11), true), ((decide (a1 < (0 : Int))), true), ((decide (a4 > (0 : Int))), true), ((decide (a0 ≥ a4)), true), ((decide (a0 < (0 : Int))), false), ((decide (a4 > (0 : Int))), true), ((decide (a4 > (0 : Int))), true)]) (by kernel_rfl) (Zc (Zm (Zbv #[vi a11, vq, vq, Value.bool b3, vi a2, vi a12] (a11) ((0 : Int)) ((0 : Int)) (b3) (a2) (a12)  y4_0 N c4  11 rfl (by decide) (by decide))) <| oY <| oY <| oY <| oN <| oY <| oY Zi) rfl (by decide) (by rfl) rr ⟨⟨rfl, ⟨[], by kernel_rfl⟩, by kernel_rfl⟩, ⟨⟨rfl, ⟨[], by rfl⟩, by rfl⟩, ⟨⟨rfl, ⟨[], by rfl⟩, by rfl⟩, ⟨⟨rfl, ⟨[], by rfl⟩, by rfl⟩, ⟨⟨rfl, ⟨[], by kernel_rfl⟩, by kernel_rfl⟩, ⟨(Za (E := Zl) (α := RD) _ L14 _), ⟨(Za (E := Zj) (α := R_ii) _ L15 _), ⟨(Za (E := eI) (α := Int) _ L16 _), ⟨(Za (E := eI) (α := Int) _ L17 _), trivial⟩⟩⟩⟩⟩⟩⟩⟩⟩ (Zu _ rfl)
    ·
     refine Z2 (fun g4 => ?_) (fun g4 => ?_)
     ·
      refine Z6 (fun z5 c5 => ?_)
      cases z5 with
      | r0 y5_0 =>
       exact Zx Zw (r := (.r0 (y5_0) : Z5)) (fu := 4000) (orc := (Zo [(1, true), (4, true), (6, false), (7, true), (11, true), (13, false), (14, true)] [] [] [] [(2, (Zbu (a11) ((0 : Int)) ((0 : Int)) (b3) (a2) (a12)  y5_0  11))])) (live := [0, 1, 2, 3, 4, 5, 6, 7, 8]) (u := vi y5_0) (bl := [some (.cells (Zk Ze 64 [vi a4] L5 [vi a6, vi a7, vi a8, vi a9, vi a10, vi a11, vi a12, vp 1 0, vp 2 0, vp 3 0, vp 4 0]) 111), some (.cells [vi a13, vs 5 0 L14.length L14.length, vs 6 0 L15.length L15.length, vn, vn, vn, vn, vn, vn, vn, vn, vn, vn, vn, vn, vn, vn, vn, vn, vn] 134), some (.cells [vs 7 0 L16.length L16.length, vs 8 0 L17.length L17.length] 158), some (.cells [vi a18, vi a19, vi a20] 163), some (.cells (Zk eI 64 [vi a21] L22 []) 171), some (.cells (Zb Zl L14) 129), some (.cells (Zb Zj L15) 72), some (.cells (Zb eI L16) 155), some (.cells (Zb eI L17) 155)]) (ob := [(dP (ZaV #[vi a11, vq, vq, Value.bool b3, vi a2, vi a12] (a11) ((0 : Int)) ((0 : Int)) (b3) (a2) (a12)  y5_0  11), true), ((decide (a1 ≥ a4)), true), ((decide (a1 < (0 : Int))), false), ((decide (a4 > (0 : Int))), true), ((decide (a0 ≥ a4)), true), ((decide (a0 < (0 : Int))), false), ((decide (a4 > (0 : Int))), true), ((decide (a4 > (0 : Int))), true)]) (by kernel_rfl) (Zc (Zm (Zbv #[vi a11, vq, vq, Value.bool b3, vi a2, vi a12] (a11) ((0 : Int)) ((0 : Int)) (b3) (a2) (a12)  y5_0 N c5  11 rfl (by decide) (by decide))) <| oY <| oN <| oY <| oY <| oN <| oY <| oY Zi) rfl (by decide) (by rfl) rr ⟨⟨rfl, ⟨[], by kernel_rfl⟩, by kernel_rfl⟩, ⟨⟨rfl, ⟨[], by rfl⟩, by rfl⟩, ⟨⟨rfl, ⟨[], by rfl⟩, by rfl⟩, ⟨⟨rfl, ⟨[], by rfl⟩, by rfl⟩, ⟨⟨rfl, ⟨[], by kernel_rfl⟩, by kernel_rfl⟩, ⟨(Za (E := Zl) (α := RD) _ L14 _), ⟨(Za (E := Zj) (α := R_ii) _ L15 _), ⟨(Za (E := eI) (α := Int) _ L16 _), ⟨(Za (E := eI) (α := Int) _ L17 _), trivial⟩⟩⟩⟩⟩⟩⟩⟩⟩ (Zu _ rfl)
     ·
      refine Z2 (fun g5 => ?_) (fun g5 => ?_)
      ·
       refine Z6 (fun z6 c6 => ?_)
       cases z6 with
       | r0 y6_0 =>
        exact Zx Zw (r := (.r0 (y6_0) : Z5)) (fu := 4000) (orc := (Zo [(1, true), (4, true), (6, false), (7, true), (11, true), (13, false), (14, false)] [] [(0, (a1).toNat)] [(6, [.i (L5.getD (a1).toNat RA.z).a0, .b (L5.getD (a1).toNat RA.z).a1, .b (L5.getD (a1).toNat RA.z).a2])] [(2, (Zbu (a11) ((0 : Int)) ((L5.getD (a1).toNat RA.z).a0) (b3) (a2) (a12)  y6_0  11))])) (live := [0, 1, 2, 3, 4, 5, 6, 7, 8]) (u := vi y6_0) (bl := [some (.cells (Zk Ze 64 [vi a4] L5 [vi a6, vi a7, vi a8, vi a9, vi a10, vi a11, vi a12, vp 1 0, vp 2 0, vp 3 0, vp 4 0]) 111), some (.cells [vi a13, vs 5 0 L14.length L14.length, vs 6 0 L15.length L15.length, vn, vn, vn, vn, vn, vn, vn, vn, vn, vn, vn, vn, vn, vn, vn, vn, vn] 134), some (.cells [vs 7 0 L16.length L16.length, vs 8 0 L17.length L17.length] 158), some (.cells [vi a18, vi a19, vi a20] 163), some (.cells (Zk eI 64 [vi a21] L22 []) 171), some (.cells (Zb Zl L14) 129), some (.cells (Zb Zj L15) 72), some (.cells (Zb eI L16) 155), some (.cells (Zb eI L17) 155)]) (ob := [(dP (ZaV #[vi a11, vq, vi (L5.getD (a1).toNat RA.z).a0, Value.bool b3, vi a2, vi a12] (a11) ((0 : Int)) ((L5.getD (a1).toNat RA.z).a0) (b3) (a2) (a12)  y6_0  11), true), (Z0 (Zs 3 (List.drop (1 + ((a1).toNat * 3)) (Zk Ze 64 [vi a4] L5 [vi a6, vi a7, vi a8, vi a9, vi a10, vi a11, vi a12, vp 1 0, vp 2 0, vp 3 0, vp 4 0]))) [.i (L5.getD (a1).toNat RA.z).a0, .b (L5.getD (a1).toNat RA.z).a1, .b (L5.getD (a1).toNat RA.z).a2], true), (Nat.blt (a1).toNat 64, true), (a1 == Int.ofNat (a1).toNat, true), ((decide (a1 ≥ a4)), false), ((decide (a1 < (0 : Int))), false), ((decide (a4 > (0 : Int))), true), ((decide (a0 ≥ a4)), true), ((decide (a0 < (0 : Int))), false), ((decide (a4 > (0 : Int))), true), ((decide (a4 > (0 : Int))), true)]) (by kernel_rfl) (Zc (Zm (Zbv #[vi a11, vq, vi (L5.getD (a1).toNat RA.z).a0, Value.bool b3, vi a2, vi a12] (a11) ((0 : Int)) ((L5.getD (a1).toNat RA.z).a0) (b3) (a2) (a12)  y6_0 N c6  11 rfl (by decide) (by decide))) <| Zc (Z3 (E := Ze) (L := L5) (n := 64) (p := 1) (i := (a1).toNat) (q := 0) rfl (by omega) (show (1 + ((a1).toNat * 3)) = 1 + (a1).toNat * 3 + 0 from by omega) (show 0 + 3 ≤ 3 from by decide) rfl rfl) <| oB <| oI <| oN <| oN <| oY <| oY <| oN <| oY <| oY Zi) rfl (by decide) (by rfl) rr ⟨⟨rfl, ⟨[], by kernel_rfl⟩, by kernel_rfl⟩, ⟨⟨rfl, ⟨[], by rfl⟩, by rfl⟩, ⟨⟨rfl, ⟨[], by rfl⟩, by rfl⟩, ⟨⟨rfl, ⟨[], by rfl⟩, by rfl⟩, ⟨⟨rfl, ⟨[], by kernel_rfl⟩, by kernel_rfl⟩, ⟨(Za (E := Zl) (α := RD) _ L14 _), ⟨(Za (E := Zj) (α := R_ii) _ L15 _), ⟨(Za (E := eI) (α := Int) _ L16 _), ⟨(Za (E := eI) (α := Int) _ L17 _), trivial⟩⟩⟩⟩⟩⟩⟩⟩⟩ (Zu _ rfl)
      ·
       exact ZdG
   ·
    refine Z2 (fun g3 => ?_) (fun g3 => ?_)
    ·
     refine Z2 (fun g4 => ?_) (fun g4 => ?_)
     ·
      refine Z6 (fun z5 c5 => ?_)
      cases z5 with
      | r0 y5_0 =>
       exact Zx Zw (r := (.r0 (y5_0) : Z5)) (fu := 4000) (orc := (Zo [(1, true), (4, true), (6, false), (7, false), (11, true), (13, true)] [] [(0, (a0).toNat)] [(4, [.i (L5.getD (a0).toNat RA.z).a0, .b (L5.getD (a0).toNat RA.z).a1, .b (L5.getD (a0).toNat RA.z).a2])] [(2, (Zbu (a11) ((L5.getD (a0).toNat RA.z).a0) ((0 : Int)) (b3) (a2) (a12)  y5_0  11))])) (live := [0, 1, 2, 3, 4, 5, 6, 7, 8]) (u := vi y5_0) (bl := [some (.cells (Zk Ze 64 [vi a4] L5 [vi a6, vi a7, vi a8, vi a9, vi a10, vi a11, vi a12, vp 1 0, vp 2 0, vp 3 0, vp 4 0]) 111), some (.cells [vi a13, vs 5 0 L14.length L14.length, vs 6 0 L15.length L15.length, vn, vn, vn, vn, vn, vn, vn, vn, vn, vn, vn, vn, vn, vn, vn, vn, vn] 134), some (.cells [vs 7 0 L16.length L16.length, vs 8 0 L17.length L17.length] 158), some (.cells [vi a18, vi a19, vi a20] 163), some (.cells (Zk eI 64 [vi a21] L22 []) 171), some (.cells (Zb Zl L14) 129), some (.cells (Zb Zj L15) 72), some (.cells (Zb eI L16) 155), some (.cells (Zb eI L17) 155)]) (ob := [(dP (ZaV #[vi a11, vi (L5.getD (a0).toNat RA.z).a0, vq, Value.bool b3, vi a2, vi a12] (a11) ((L5.getD (a0).toNat RA.z).a0) ((0 : Int)) (b3) (a2) (a12)  y5_0  11), true), ((decide (a1 < (0 : Int))), true), ((decide (a4 > (0 : Int))), true), (Z0 (Zs 3 (List.drop (1 + ((a0).toNat * 3)) (Zk Ze 64 [vi a4] L5 [vi a6, vi a7, vi a8, vi a9, vi a10, vi a11, vi a12, vp 1 0, vp 2 0, vp 3 0, vp 4 0]))) [.i (L5.getD (a0).toNat RA.z).a0, .b (L5.getD (a0).toNat RA.z).a1, .b (L5.getD (a0).toNat RA.z).a2], true), (Nat.blt (a0).toNat 64, true), (a0 == Int.ofNat (a0).toNat, true), ((decide (a0 ≥ a4)), false), ((decide (a0 < (0 : Int))), false), ((decide (a4 > (0 : Int))), true), ((decide (a4 > (0 : Int))), true)]) (by kernel_rfl) (Zc (Zm (Zbv #[vi a11, vi (L5.getD (a0).toNat RA.z).a0, vq, Value.bool b3, vi a2, vi a12] (a11) ((L5.getD (a0).toNat RA.z).a0) ((0 : Int)) (b3) (a2) (a12)  y5_0 N c5  11 rfl (by decide) (by decide))) <| oY <| oY <| Zc (Z3 (E := Ze) (L := L5) (n := 64) (p := 1) (i := (a0).toNat) (q := 0) rfl (by omega) (show (1 + ((a0).toNat * 3)) = 1 + (a0).toNat * 3 + 0 from by omega) (show 0 + 3 ≤ 3 from by decide) rfl rfl) <| oB <| oI <| oN <| oN <| oY <| oY Zi) rfl (by decide) (by rfl) rr ⟨⟨rfl, ⟨[], by kernel_rfl⟩, by kernel_rfl⟩, ⟨⟨rfl, ⟨[], by rfl⟩, by rfl⟩, ⟨⟨rfl, ⟨[], by rfl⟩, by rfl⟩, ⟨⟨rfl, ⟨[], by rfl⟩, by rfl⟩, ⟨⟨rfl, ⟨[], by kernel_rfl⟩, by kernel_rfl⟩, ⟨(Za (E := Zl) (α := RD) _ L14 _), ⟨(Za (E := Zj) (α := R_ii) _ L15 _), ⟨(Za (E := eI) (α := Int) _ L16 _), ⟨(Za (E := eI) (α := Int) _ L17 _), trivial⟩⟩⟩⟩⟩⟩⟩⟩⟩ (Zu _ rfl)
     ·
      refine Z2 (fun g5 => ?_) (fun g5 => ?_)
      ·
       refine Z6 (fun z6 c6 => ?_)
       cases z6 with
       | r0 y6_0 =>
        exact Zx Zw (r := (.r0 (y6_0) : Z5)) (fu := 4000) (orc := (Zo [(1, true), (4, true), (6, false), (7, false), (11, true), (13, false), (14, true)] [] [(0, (a0).toNat)] [(4, [.i (L5.getD (a0).toNat RA.z).a0, .b (L5.getD (a0).toNat RA.z).a1, .b (L5.getD (a0).toNat RA.z).a2])] [(2, (Zbu (a11) ((L5.getD (a0).toNat RA.z).a0) ((0 : Int)) (b3) (a2) (a12)  y6_0  11))])) (live := [0, 1, 2, 3, 4, 5, 6, 7, 8]) (u := vi y6_0) (bl := [some (.cells (Zk Ze 64 [vi a4] L5 [vi a6, vi a7, vi a8, vi a9, vi a10, vi a11, vi a12, vp 1 0, vp 2 0, vp 3 0, vp 4 0]) 111), some (.cells [vi a13, vs 5 0 L14.length L14.length, vs 6 0 L15.length L15.length, vn, vn, vn, vn, vn, vn, vn, vn, vn, vn, vn, vn, vn, vn, vn, vn, vn] 134), some (.cells [vs 7 0 L16.length L16.length, vs 8 0 L17.length L17.length] 158), some (.cells [vi a18, vi a19, vi a20] 163), some (.cells (Zk eI 64 [vi a21] L22 []) 171), some (.cells (Zb Zl L14) 129), some (.cells (Zb Zj L15) 72), some (.cells (Zb eI L16) 155), some (.cells (Zb eI L17) 155)]) (ob := [(dP (ZaV #[vi a11, vi (L5.getD (a0).toNat RA.z).a0, vq, Value.bool b3, vi a2, vi a12] (a11) ((L5.getD (a0).toNat RA.z).a0) ((0 : Int)) (b3) (a2) (a12)  y6_0  11), true), ((decide (a1 ≥ a4)), true), ((decide (a1 < (0 : Int))), false), ((decide (a4 > (0 : Int))), true), (Z0 (Zs 3 (List.drop (1 + ((a0).toNat * 3)) (Zk Ze 64 [vi a4] L5 [vi a6, vi a7, vi a8, vi a9, vi a10, vi a11, vi a12, vp 1 0, vp 2 0, vp 3 0, vp 4 0]))) [.i (L5.getD (a0).toNat RA.z).a0, .b (L5.getD (a0).toNat RA.z).a1, .b (L5.getD (a0).toNat RA.z).a2], true), (Nat.blt (a0).toNat 64, true), (a0 == Int.ofNat (a0).toNat, true), ((decide (a0 ≥ a4)), false), ((decide (a0 < (0 : Int))), false), ((decide (a4 > (0 : Int))), true), ((decide (a4 > (0 : Int))), true)]) (by kernel_rfl) (Zc (Zm (Zbv #[vi a11, vi (L5.getD (a0).toNat RA.z).a0, vq, Value.bool b3, vi a2, vi a12] (a11) ((L5.getD (a0).toNat RA.z).a0) ((0 : Int)) (b3) (a2) (a12)  y6_0 N c6  11 rfl (by decide) (by decide))) <| oY <| oN <| oY <| Zc (Z3 (E := Ze) (L := L5) (n := 64) (p := 1) (i := (a0).toNat) (q := 0) rfl (by omega) (show (1 + ((a0).toNat * 3)) = 1 + (a0).toNat * 3 + 0 from by omega) (show 0 + 3 ≤ 3 from by decide) rfl rfl) <| oB <| oI <| oN <| oN <| oY <| oY Zi) rfl (by decide) (by rfl) rr ⟨⟨rfl, ⟨[], by kernel_rfl⟩, by kernel_rfl⟩, ⟨⟨rfl, ⟨[], by rfl⟩, by rfl⟩, ⟨⟨rfl, ⟨[], by rfl⟩, by rfl⟩, ⟨⟨rfl, ⟨[], by rfl⟩, by rfl⟩, ⟨⟨rfl, ⟨[], by kernel_rfl⟩, by kernel_rfl⟩, ⟨(Za (E := Zl) (α := RD) _ L14 _), ⟨(Za (E := Zj) (α := R_ii) _ L15 _), ⟨(Za (E := eI) (α := Int) _ L16 _), ⟨(Za (E := eI) (α := Int) _ L17 _), trivial⟩⟩⟩⟩⟩⟩⟩⟩⟩ (Zu _ rfl)
      ·
       refine Z2 (fun g6 => ?_) (fun g6 => ?_)
       ·
        refine Z6 (fun z7 c7 => ?_)
        cases z7 with
        | r0 y7_0 =>
         exact Zx Zw (r := (.r0 (y7_0) : Z5)) (fu := 4000) (orc := (Zo [(1, true), (4, true), (6, false), (7, false), (11, true), (13, false), (14, false)] [] [(0, (a0).toNat), (1, (a1).toNat)] [(4, [.i (L5.getD (a0).toNat RA.z).a0, .b (L5.getD (a0).toNat RA.z).a1, .b (L5.getD (a0).toNat RA.z).a2]), (7, [.i (L5.getD (a1).toNat RA.z).a0, .b (L5.getD (a1).toNat RA.z).a1, .b (L5.getD (a1).toNat RA.z).a2])] [(2, (Zbu (a11) ((L5.getD (a0).toNat RA.z).a0) ((L5.getD (a1).toNat RA.z).a0) (b3) (a2) (a12)  y7_0  11))])) (live := [0, 1, 2, 3, 4, 5, 6, 7, 8]) (u := vi y7_0) (bl := [some (.cells (Zk Ze 64 [vi a4] L5 [vi a6, vi a7, vi a8, vi a9, vi a10, vi a11, vi a12, vp 1 0, vp 2 0, vp 3 0, vp 4 0]) 111), some (.cells [vi a13, vs 5 0 L14.length L14.length, vs 6 0 L15.length L15.length, vn, vn, vn, vn, vn, vn, vn, vn, vn, vn, vn, vn, vn, vn, vn, vn, vn] 134), some (.cells [vs 7 0 L16.length L16.length, vs 8 0 L17.length L17.length] 158), some (.cells [vi a18, vi a19, vi a20] 163), some (.cells (Zk eI 64 [vi a21] L22 []) 171), some (.cells (Zb Zl L14) 129), some (.cells (Zb Zj L15) 72), some (.cells (Zb eI L16) 155), some (.cells (Zb eI L17) 155)]) (ob := [(dP (ZaV #[vi a11, vi (L5.getD (a0).toNat RA.z).a0, vi (L5.getD (a1).toNat RA.z).a0, Value.bool b3, vi a2, vi a12] (a11) ((L5.getD (a0).toNat RA.z).a0) ((L5.getD (a1).toNat RA.z).a0) (b3) (a2) (a12)  y7_0  11), true), (Z0 (Zs 3 (List.drop (1 + ((a1).toNat * 3)) (Zk Ze 64 [vi a4] L5 [vi a6, vi a7, vi a8, vi a9, vi a10, vi a11, vi a12, vp 1 0, vp 2 0, vp 3 0, vp 4 0]))) [.i (L5.getD (a1).toNat RA.z).a0, .b (L5.getD (a1).toNat RA.z).a1, .b (L5.getD (a1).toNat RA.z).a2], true), (Nat.blt (a1).toNat 64, true), (a1 == Int.ofNat (a1).toNat, true), ((decide (a1 ≥ a4)), false), ((decide (a1 < (0 : Int))), false), ((decide (a4 > (0 : Int))), true), (Z0 (Zs 3 (List.drop (1 + ((a0).toNat * 3)) (Zk Ze 64 [vi a4] L5 [vi a6, vi a7, vi a8, vi a9, vi a10, vi a11, vi a12, vp 1 0, vp 2 0, vp 3 0, vp 4 0]))) [.i (L5.getD (a0).toNat RA.z).a0, .b (L5.getD (a0).toNat RA.z).a1, .b (L5.getD (a0).toNat RA.z).a2], true), (Nat.blt (a0).toNat 64, true), (a0 == Int.ofNat (a0).toNat, true), ((decide (a0 ≥ a4)), false), ((decide (a0 < (0 : Int))), false), ((decide (a4 > (0 : Int))), true), ((decide (a4 > (0 : Int))), true)]) (by kernel_rfl) (Zc (Zm (Zbv #[vi a11, vi (L5.getD (a0).toNat RA.z).a0, vi (L5.getD (a1).toNat RA.z).a0, Value.bool b3, vi a2, vi a12] (a11) ((L5.getD (a0).toNat RA.z).a0) ((L5.getD (a1).toNat RA.z).a0) (b3) (a2) (a12)  y7_0 N c7  11 rfl (by decide) (by decide))) <| Zc (Z3 (E := Ze) (L := L5) (n := 64) (p := 1) (i := (a1).toNat) (q := 0) rfl (by omega) (show (1 + ((a1).toNat * 3)) = 1 + (a1).toNat * 3 + 0 from by omega) (show 0 + 3 ≤ 3 from by decide) rfl rfl) <| oB <| oI <| oN <| oN <| oY <| Zc (Z3 (E := Ze) (L := L5) (n := 64) (p := 1) (i := (a0).toNat) (q := 0) rfl (by omega) (show (1 + ((a0).toNat * 3)) = 1 + (a0).toNat * 3 + 0 from by omega) (show 0 + 3 ≤ 3 from by decide) rfl rfl) <| oB <| oI <| oN <| oN <| oY <| oY Zi) rfl (by decide) (by rfl) rr ⟨⟨rfl, ⟨[], by kernel_rfl⟩, by kernel_rfl⟩, ⟨⟨rfl, ⟨[], by rfl⟩, by rfl⟩, ⟨⟨rfl, ⟨[], by rfl⟩, by rfl⟩, ⟨⟨rfl, ⟨[], by rfl⟩, by rfl⟩, ⟨⟨rfl, ⟨[], by kernel_rfl⟩, by kernel_rfl⟩, ⟨(Za (E := Zl) (α := RD) _ L14 _), ⟨(Za (E := Zj) (α := R_ii) _ L15 _), ⟨(Za (E := eI) (α := Int) _ L16 _), ⟨(Za (E := eI) (α := Int) _ L17 _), trivial⟩⟩⟩⟩⟩⟩⟩⟩⟩ (Zu _ rfl)
       ·
        exact ZdG
    ·
     exact ZdG
 ·
  exact Zx Zw (r := (.r0 ((0 : Int)) : Z5)) (fu := 4000) (orc := (Zo [(1, false)] [] [] [] [])) (live := [0, 1, 2, 3, 4, 5, 6, 7, 8]) (u := vq) (bl := [some (.cells (Zk Ze 64 [vi a4] L5 [vi a6, vi a7, vi a8, vi a9, vi a10, vi a11, vi a12, vp 1 0, vp 2 0, vp 3 0, vp 4 0]) 111), some (.cells [vi a13, vs 5 0 L14.length L14.length, vs 6 0 L15.length L15.length, vn, vn, vn, vn, vn, vn, vn, vn, vn, vn, vn, vn, vn, vn, vn, vn, vn] 134), some (.cells [vs 7 0 L16.length L16.length, vs 8 0 L17.length L17.length] 158), some (.cells [vi a18, vi a19, vi a20] 163), some (.cells (Zk eI 64 [vi a21] L22 []) 171), some (.cells (Zb Zl L14) 129), some (.cells (Zb Zj L15) 72), some (.cells (Zb eI L16) 155), some (.cells (Zb eI L17) 155)]) (ob := [((decide (a4 > (0 : Int))), false)]) (by kernel_rfl) (oN Zi) rfl (by decide) (by rfl) rr ⟨⟨rfl, ⟨[], by kernel_rfl⟩, by kernel_rfl⟩, ⟨⟨rfl, ⟨[], by rfl⟩, by rfl⟩, ⟨⟨rfl, ⟨[], by rfl⟩, by rfl⟩, ⟨⟨rfl, ⟨[], by rfl⟩, by rfl⟩, ⟨⟨rfl, ⟨[], by kernel_rfl⟩, by kernel_rfl⟩, ⟨(Za (E := Zl) (α := RD) _ L14 _), ⟨(Za (E := Zj) (α := R_ii) _ L15 _), ⟨(Za (E := eI) (α := Int) _ L16 _), ⟨(Za (E := eI) (α := Int) _ L17 _), trivial⟩⟩⟩⟩⟩⟩⟩⟩⟩ (Zu _ rfl)

theorem Zg8 (a0 a1 a2 : Int) (b3 : Bool) (a4 : Int) (L5 : List RA) (a6 a7 a8 a9 a10 a11 a12 a13 : Int) (L14 : List RD) (L15 : List R_ii) (L16 L17 : List Int) (a18 a19 a20 a21 : Int) (L22 : List Int) (N : Nat) (r : Z5) (h : ZaZ a0 a1 a2 b3 a4 L5 a6 a7 a8 a9 a10 a11 a12 a13 L14 L15 L16 L17 a18 a19 a20 a21 L22 N = some r) : LSpec Try.prog 18 #[vp 0 0, vi a0, vi a1, vi a2, Value.bool b3] [.cells (Zk Ze 64 [vi a4] L5 [vi a6, vi a7, vi a8, vi a9, vi a10, vi a11, vi a12, vp 1 0, vp 2 0, vp 3 0, vp 4 0]) 111, .cells [vi a13, vs 5 0 L14.length L14.length, vs 6 0 L15.length L15.length, vn, vn, vn, vn, vn, vn, vn, vn, vn, vn, vn, vn, vn, vn, vn, vn, vn] 134, .cells [vs 7 0 L16.length L16.length, vs 8 0 L17.length L17.length] 158, .cells [vi a18, vi a19, vi a20] 163, .cells (Zk eI 64 [vi a21] L22 []) 171, .cells (Zb Zl L14) 129, .cells (Zb Zj L15) 72, .cells (Zb eI L16) 155, .cells (Zb eI L17) 155] (Zfx a0 a1 a2 b3 a4 L5 a6 a7 a8 a9 a10 a11 a12 a13 L14 L15 L16 L17 a18 a19 a20 a21 L22 r) (ZeH a0 a1 a2 b3 a4 L5 a6 a7 a8 a9 a10 a11 a12 a13 L14 L15 L16 L17 a18 a19 a20 a21 L22 r) :=
 (Zh6 a0 a1 a2 b3 a4 L5 a6 a7 a8 a9 a10 a11 a12 a13 L14 L15 L16 L17 a18 a19 a20 a21 L22 N) r h

noncomputable def Zcw (a0 a1 a2 : Int) (b3 : Bool) (a4 : Int) (L5 : List RA) (a6 a7 a8 a9 a10 a11 a12 a13 : Int) (L14 : List RD) (L15 : List R_ii) (L16 L17 : List Int) (a18 a19 a20 a21 : Int) (L22 : List Int) (w4 : Int) (k0 k1 k2 k3 k4 k5 k6 k7 k8 n : Nat) : ZaD := .call [(k0, .cells (Zk Ze 64 [vi a4] L5 [vi a6, vi a7, vi a8, vi a9, vi a10, vi a11, vi a12, vp k1 0, vp k2 0, vp k3 0, vp k4 0]) 111), (k1, .cells [vi a13, vs k5 0 L14.length L14.length, vs k6 0 L15.length L15.length, vn, vn, vn, vn, vn, vn, vn, vn, vn, vn, vn, vn, vn, vn, vn, vn, vn] 134), (k2, .cells [vs k7 0 L16.length L16.length, vs k8 0 L17.length L17.length] 158), (k3, .cells [vi a18, vi a19, vi a20] 163), (k4, .cells (Zk eI 64 [vi a21] L22 []) 171), (k5, .cells (Zb Zl L14) 129), (k6, .cells (Zb Zj L15) 72), (k7, .cells (Zb eI L16) 155), (k8, .cells (Zb eI L17) 155)] (vi w4) [] 0
def Zb7 (A : Array Value) (a0 a1 a2 : Int) (b3 : Bool) (a4 : Int) (L5 : List RA) (a6 a7 a8 a9 a10 a11 a12 a13 : Int) (L14 : List RD) (L15 : List R_ii) (L16 L17 : List Int) (a18 a19 a20 a21 : Int) (L22 : List Int) (w4 : Int) (k0 k1 k2 k3 k4 k5 k6 k7 k8 n : Nat) : Prop := ZH Try.prog 18 A [(k0, .cells (Zk Ze 64 [vi a4] L5 [vi a6, vi a7, vi a8, vi a9, vi a10, vi a11, vi a12, vp k1 0, vp k2 0, vp k3 0, vp k4 0]) 111), (k1, .cells [vi a13, vs k5 0 L14.length L14.length, vs k6 0 L15.length L15.length, vn, vn, vn, vn, vn, vn, vn, vn, vn, vn, vn, vn, vn, vn, vn, vn, vn] 134), (k2, .cells [vs k7 0 L16.length L16.length, vs k8 0 L17.length L17.length] 158), (k3, .cells [vi a18, vi a19, vi a20] 163), (k4, .cells (Zk eI 64 [vi a21] L22 []) 171), (k5, .cells (Zb Zl L14) 129), (k6, .cells (Zb Zj L15) 72), (k7, .cells (Zb eI L16) 155), (k8, .cells (Zb eI L17) 155)] (vi w4) [] n 0

theorem Zcx (A : Array Value) (a0 a1 a2 : Int) (b3 : Bool) (a4 : Int) (L5 : List RA) (a6 a7 a8 a9 a10 a11 a12 a13 : Int) (L14 : List RD) (L15 : List R_ii) (L16 L17 : List Int) (a18 a19 a20 a21 : Int) (L22 : List Int) (w4 : Int) (N : Nat) (h : ZaZ a0 a1 a2 b3 a4 L5 a6 a7 a8 a9 a10 a11 a12 a13 L14 L15 L16 L17 a18 a19 a20 a21 L22 N = some (.r0 w4)) (k0 k1 k2 k3 k4 k5 k6 k7 k8 n : Nat) (hA : A = #[vp k0 0, vi a0, vi a1, vi a2, Value.bool b3]) (hnd : ([k0, k1, k2, k3, k4, k5, k6, k7, k8] : List Nat).Nodup) (hlt : ∀ k ∈ ([k0, k1, k2, k3, k4, k5, k6, k7, k8] : List Nat), k < n) : Zb7 A a0 a1 a2 b3 a4 L5 a6 a7 a8 a9 a10 a11 a12 a13 L14 L15 L16 L17 a18 a19 a20 a21 L22 w4 k0 k1 k2 k3 k4 k5 k6 k7 k8 n :=
 Zah hA (LSpec.callL (show LSpec Try.prog 18 #[vp 0 0, vi a0, vi a1, vi a2, Value.bool b3] [.cells (Zk Ze 64 [vi a4] L5 [vi a6, vi a7, vi a8, vi a9, vi a10, vi a11, vi a12, vp 1 0, vp 2 0, vp 3 0, vp 4 0]) 111, .cells [vi a13, vs 5 0 L14.length L14.length, vs 6 0 L15.length L15.length, vn, vn, vn, vn, vn, vn, vn, vn, vn, vn, vn, vn, vn, vn, vn, vn, vn] 134, .cells [vs 7 0 L16.length L16.length, vs 8 0 L17.length L17.length] 158, .cells [vi a18, vi a19, vi a20] 163, .cells (Zk eI 64 [vi a21] L22 []) 171, .cells (Zb Zl L14) 129, .cells (Zb Zj L15) 72, .cells (Zb eI L16) 155, .cells (Zb eI L17) 155] (vi w4) [some (.cells (Zk Ze 64 [vi a4] L5 [vi a6, vi a7, vi a8, vi a9, vi a10, vi a11, vi a12, vp 1 0, vp 2 0, vp 3 0, vp 4 0]) 111), some (.cells [vi a13, vs 5 0 L14.length L14.length, vs 6 0 L15.length L15.length, vn, vn, vn, vn, vn, vn, vn, vn, vn, vn, vn, vn, vn, vn, vn, vn, vn] 134), some (.cells [vs 7 0 L16.length L16.length, vs 8 0 L17.length L17.length] 158), some (.cells [vi a18, vi a19, vi a20] 163), some (.cells (Zk eI 64 [vi a21] L22 []) 171), some (.cells (Zb Zl L14) 129), some (.cells (Zb Zj L15) 72), some (.cells (Zb eI L16) 155), some (.cells (Zb eI L17) 155)] from Zg8 a0 a1 a2 b3 a4 L5 a6 a7 a8 a9 a10 a11 a12 a13 L14 L15 L16 L17 a18 a19 a20 a21 L22 N _ h) [k0, k1, k2, k3, k4, k5, k6, k7, k8] n [] rfl hnd hlt (show 9 ≤ 9 from by decide) (show ∀ j ∈ ([] : List Nat), j < 9 from by decide) (by rfl) ⟨(by kernel_rfl), ⟨rfl, ⟨rfl, ⟨rfl, ⟨(by kernel_rfl), ⟨(ZC _ _ _), ⟨(ZC _ _ _), ⟨(ZC _ _ _), ⟨(ZC _ _ _), trivial⟩⟩⟩⟩⟩⟩⟩⟩⟩ (by rfl) ⟨(by kernel_rfl), ⟨rfl, ⟨rfl, ⟨rfl, ⟨(by kernel_rfl), ⟨(ZC _ _ _), ⟨(ZC _ _ _), ⟨(ZC _ _ _), ⟨(ZC _ _ _), trivial⟩⟩⟩⟩⟩⟩⟩⟩⟩ ⟨.inr rfl, ⟨.inr rfl, ⟨.inr rfl, ⟨.inr rfl, ⟨.inr rfl, ⟨.inr rfl, ⟨.inr rfl, ⟨.inr rfl, ⟨.inr rfl, trivial⟩⟩⟩⟩⟩⟩⟩⟩⟩ rfl rfl rfl (Zd (ZB rfl (by kernel_rfl)) (Zd (ZB rfl rfl) (Zd (ZB rfl rfl) (Zd (ZB rfl rfl) (Zd (ZB rfl (by kernel_rfl)) (Zd (ZB rfl (ZU _ _ _)) (Zd (ZB rfl (ZU _ _ _)) (Zd (ZB rfl (ZU _ _ _)) (Zd (ZB rfl (ZU _ _ _)) rfl))))))))) rfl)

noncomputable def ZgK (a0 a1 a2 : Int) (b3 : Bool) (a4 a5 : Int) : ZG → Value
 | .r0 w0 => vi w0
noncomputable def Zgh (a0 a1 a2 : Int) (b3 : Bool) (a4 a5 : Int) : ZG → List (Option AObj)
 | .r0 w0 => []

theorem Zj1 (a0 a1 a2 : Int) (b3 : Bool) (a4 a5 : Int) (N : Nat) : Gx Try.prog 61 [] #[vi a0, vi a1, vi a2, Value.bool b3, vi a4, vi a5] (ZgK a0 a1 a2 b3 a4 a5) (Zgh a0 a1 a2 b3 a4 a5) (Zak a0 a1 a2 b3 a4 a5 N) := by
 unfold Zak
 refine Z2 (fun g0 => ?_) (fun g0 => ?_)
 ·
  subst g0
  refine Z2 (fun g1 => ?_) (fun g1 => ?_)
  ·
   exact Zx Zw (r := (.r0 ((1 : Int)) : ZG)) (fu := 4000) (orc := (Zo [(0, true)] [] [] [] [])) (live := []) (u := vi 1) (bl := []) (ob := [((a0 == (1 : Int)), true)]) (by kernel_rfl) (oT Zi) rfl (by decide) (by rfl) rr trivial (Zu _ rfl)
  ·
   refine Z2 (fun g2 => ?_) (fun g2 => ?_)
   ·
    refine Z2 (fun g3 => ?_) (fun g3 => ?_)
    ·
     exact Zx Zw (r := (.r0 ((1 : Int)) : ZG)) (fu := 4000) (orc := (Zo [(0, false), (1, true), (2, true)] [] [] [] [])) (live := []) (u := vi 1) (bl := []) (ob := [((decide (a4 < a5)), true), ((a0 == (2 : Int)), true), ((a0 == (1 : Int)), false)]) (by kernel_rfl) (oY <| oT <| oF Zi) rfl (by decide) (by rfl) rr trivial (Zu _ rfl)
    ·
     exact Zx Zw (r := (.r0 ((3 : Int)) : ZG)) (fu := 4000) (orc := (Zo [(0, false), (1, true), (2, false), (3, false)] [] [] [] [])) (live := []) (u := vi 3) (bl := []) (ob := [((a0 == (1 : Int)), false), ((decide (a4 < a5)), false), ((a0 == (2 : Int)), true), ((a0 == (1 : Int)), false)]) (by kernel_rfl) (oF <| oN <| oT <| oF Zi) rfl (by decide) (by rfl) rr trivial (Zu _ rfl)
   ·
    exact Zx Zw (r := (.r0 ((3 : Int)) : ZG)) (fu := 4000) (orc := (Zo [(0, false), (1, false), (2, false)] [] [] [] [])) (live := []) (u := vi 3) (bl := []) (ob := [((a0 == (1 : Int)), false), ((a0 == (2 : Int)), false), ((a0 == (1 : Int)), false)]) (by kernel_rfl) (oF <| oF <| oF Zi) rfl (by decide) (by rfl) rr trivial (Zu _ rfl)
 ·
  obtain rfl : b3 = false := by simpa using g0
  refine Z2 (fun g1 => ?_) (fun g1 => ?_)
  ·
   refine Z2 (fun g2 => ?_) (fun g2 => ?_)
   ·
    exact Zx Zw (r := (.r0 ((2 : Int)) : ZG)) (fu := 4000) (orc := (Zo [(0, true), (1, false), (2, true), (3, true)] [] [] [] [])) (live := []) (u := vi 2) (bl := []) (ob := [((decide (a1 < a2)), true), ((a0 == (1 : Int)), true), ((a0 == (2 : Int)), false), ((a0 == (1 : Int)), true)]) (by kernel_rfl) (oY <| oT <| oF <| oT Zi) rfl (by decide) (by rfl) rr trivial (Zu _ rfl)
   ·
    exact Zx Zw (r := (.r0 ((3 : Int)) : ZG)) (fu := 4000) (orc := (Zo [(0, true), (1, false), (2, true), (3, false)] [] [] [] [])) (live := []) (u := vi 3) (bl := []) (ob := [((decide (a1 < a2)), false), ((a0 == (1 : Int)), true), ((a0 == (2 : Int)), false), ((a0 == (1 : Int)), true)]) (by kernel_rfl) (oN <| oT <| oF <| oT Zi) rfl (by decide) (by rfl) rr trivial (Zu _ rfl)
  ·
   refine Z2 (fun g2 => ?_) (fun g2 => ?_)
   ·
    refine Z2 (fun g3 => ?_) (fun g3 => ?_)
    ·
     exact Zx Zw (r := (.r0 ((1 : Int)) : ZG)) (fu := 4000) (orc := (Zo [(0, false), (1, true), (2, true)] [] [] [] [])) (live := []) (u := vi 1) (bl := []) (ob := [((decide (a4 < a5)), true), ((a0 == (2 : Int)), true), ((a0 == (1 : Int)), false)]) (by kernel_rfl) (oY <| oT <| oF Zi) rfl (by decide) (by rfl) rr trivial (Zu _ rfl)
    ·
     exact Zx Zw (r := (.r0 ((3 : Int)) : ZG)) (fu := 4000) (orc := (Zo [(0, false), (1, true), (2, false), (3, false)] [] [] [] [])) (live := []) (u := vi 3) (bl := []) (ob := [((a0 == (1 : Int)), false), ((decide (a4 < a5)), false), ((a0 == (2 : Int)), true), ((a0 == (1 : Int)), false)]) (by kernel_rfl) (oF <| oN <| oT <| oF Zi) rfl (by decide) (by rfl) rr trivial (Zu _ rfl)
   ·
    exact Zx Zw (r := (.r0 ((3 : Int)) : ZG)) (fu := 4000) (orc := (Zo [(0, false), (1, false), (2, false)] [] [] [] [])) (live := []) (u := vi 3) (bl := []) (ob := [((a0 == (1 : Int)), false), ((a0 == (2 : Int)), false), ((a0 == (1 : Int)), false)]) (by kernel_rfl) (oF <| oF <| oF Zi) rfl (by decide) (by rfl) rr trivial (Zu _ rfl)

theorem ZhY (a0 a1 a2 : Int) (b3 : Bool) (a4 a5 : Int) (N : Nat) (r : ZG) (h : Zak a0 a1 a2 b3 a4 a5 N = some r) : LSpec Try.prog 61 #[vi a0, vi a1, vi a2, Value.bool b3, vi a4, vi a5] [] (ZgK a0 a1 a2 b3 a4 a5 r) (Zgh a0 a1 a2 b3 a4 a5 r) :=
 (Zj1 a0 a1 a2 b3 a4 a5 N) r h

noncomputable def ZaK (a0 a1 a2 : Int) (b3 : Bool) (a4 a5 w0 : Int) (n : Nat) : ZaD := .call [] (vi w0) [] 0
def Za3 (A : Array Value) (a0 a1 a2 : Int) (b3 : Bool) (a4 a5 w0 : Int) (n : Nat) : Prop := ZH Try.prog 61 A [] (vi w0) [] n 0

theorem ZaL (A : Array Value) (a0 a1 a2 : Int) (b3 : Bool) (a4 a5 w0 : Int) (N : Nat) (h : Zak a0 a1 a2 b3 a4 a5 N = some (.r0 w0)) (n : Nat) (hA : A = #[vi a0, vi a1, vi a2, Value.bool b3, vi a4, vi a5]) (hnd : ([] : List Nat).Nodup) (hlt : ∀ k ∈ ([] : List Nat), k < n) : Za3 A a0 a1 a2 b3 a4 a5 w0  n :=
 Zah hA (LSpec.callL (show LSpec Try.prog 61 #[vi a0, vi a1, vi a2, Value.bool b3, vi a4, vi a5] [] (vi w0) [] from ZhY a0 a1 a2 b3 a4 a5 N _ h) [] n [] rfl hnd hlt (show 0 ≤ 0 from by decide) (show ∀ j ∈ ([] : List Nat), j < 0 from by decide) (by rfl) trivial (by rfl) trivial trivial rfl rfl rfl rfl rfl)

noncomputable def Zgi (a0 a1 a2 a3 a4 a5 a6 a7 : Int) (L8 : List RB) (a9 a10 a11 : Int) (L12 : List Int) (L13 : List RA) (a14 a15 a16 : Int) (b17 : Bool) (a18 a19 a20 a21 a22 a23 a24 a25 : Int) (L26 : List R_ii) : ZF → Value
 | .r0 w4 => vi w4
noncomputable def Zf7 (a0 a1 a2 a3 a4 a5 a6 a7 : Int) (L8 : List RB) (a9 a10 a11 : Int) (L12 : List Int) (L13 : List RA) (a14 a15 a16 : Int) (b17 : Bool) (a18 a19 a20 a21 a22 a23 a24 a25 : Int) (L26 : List R_ii) : ZF → List (Option AObj)
 | .r0 w4 => [some (.cells [vi a18, vi a19, vi a20, vi a21, vi a22, vi a23, vi a24, vi a25, vs 4 0 L26.length L26.length] 174), some (.cells (Zb Zp L8) 89), some (.cells (Zb eI L12) 3), some (.cells (Zb Ze L13) 63), some (.cells (Zb Zj L26) 72)]

theorem ZiL (a0 a1 a2 a3 a4 a5 a6 a7 : Int) (L8 : List RB) (a9 a10 a11 : Int) (L12 : List Int) (L13 : List RA) (a14 a15 a16 : Int) (b17 : Bool) (a18 a19 a20 a21 a22 a23 a24 a25 : Int) (L26 : List R_ii) (N : Nat) : Gx Try.prog 19 [.cells [vi a18, vi a19, vi a20, vi a21, vi a22, vi a23, vi a24, vi a25, vs 4 0 L26.length L26.length] 174, .cells (Zb Zp L8) 89, .cells (Zb eI L12) 3, .cells (Zb Ze L13) 63, .cells (Zb Zj L26) 72] #[Value.agg #[vi a0, vi a1, vi a2, vi a3, vi a4, vi a5, vi a6, vi a7, vs 0 0 1 1, vn, vs 1 0 L8.length L8.length, vi a9, vi a10, vi a11, vs 2 0 L12.length L12.length, vs 3 0 L13.length L13.length], vi a14, vi a15, vi a16, Value.bool b17] (Zgi a0 a1 a2 a3 a4 a5 a6 a7 L8 a9 a10 a11 L12 L13 a14 a15 a16 b17 a18 a19 a20 a21 a22 a23 a24 a25 L26) (Zf7 a0 a1 a2 a3 a4 a5 a6 a7 L8 a9 a10 a11 L12 L13 a14 a15 a16 b17 a18 a19 a20 a21 a22 a23 a24 a25 L26) (Zb5 a0 a1 a2 a3 a4 a5 a6 a7 L8 a9 a10 a11 L12 L13 a14 a15 a16 b17 a18 a19 a20 a21 a22 a23 a24 a25 L26 N) := by
 unfold Zb5
 refine Z2 (fun g0 => ?_) (fun g0 => ?_)
 ·
  refine Z2 (fun g1 => ?_) (fun g1 => ?_)
  ·
   refine Z6 (fun z2 c2 => ?_)
   cases z2 with
   | r0 y2_0 =>
    exact Zx Zw (r := (.r0 (y2_0) : ZF)) (fu := 4000) (orc := (Zo [(0, true), (1, true)] [] [] [] [(4, (ZaK (a5) ((0 : Int)) ((0 : Int)) (b17) (a16) (a6)  y2_0  12))])) (live := [0, 1, 2, 3, 4]) (u := vi y2_0) (bl := [some (.cells [vi a18, vi a19, vi a20, vi a21, vi a22, vi a23, vi a24, vi a25, vs 4 0 L26.length L26.length] 174), some (.cells (Zb Zp L8) 89), some (.cells (Zb eI L12) 3), some (.cells (Zb Ze L13) 63), some (.cells (Zb Zj L26) 72)]) (ob := [(dP (Za3 #[vi a5, vq, vq, Value.bool b17, vi a16, vi a6] (a5) ((0 : Int)) ((0 : Int)) (b17) (a16) (a6)  y2_0  12), true), ((decide (a15 < (0 : Int))), true), ((decide (a14 < (0 : Int))), true)]) (by kernel_rfl) (Zc (Zm (ZaL #[vi a5, vq, vq, Value.bool b17, vi a16, vi a6] (a5) ((0 : Int)) ((0 : Int)) (b17) (a16) (a6)  y2_0 N c2  12 rfl (by decide) (by decide))) <| oY <| oY Zi) rfl (by decide) (by rfl) rr ⟨⟨rfl, ⟨[], by rfl⟩, by rfl⟩, ⟨(Za (E := Zp) (α := RB) _ L8 _), ⟨(Za (E := eI) (α := Int) _ L12 _), ⟨(Za (E := Ze) (α := RA) _ L13 _), ⟨(Za (E := Zj) (α := R_ii) _ L26 _), trivial⟩⟩⟩⟩⟩ (Zu _ rfl)
  ·
   refine Z2 (fun g2 => ?_) (fun g2 => ?_)
   ·
    refine Z6 (fun z3 c3 => ?_)
    cases z3 with
    | r0 y3_0 =>
     exact Zx Zw (r := (.r0 (y3_0) : ZF)) (fu := 4000) (orc := (Zo [(0, true), (1, false), (2, true)] [] [] [] [(4, (ZaK (a5) ((0 : Int)) ((0 : Int)) (b17) (a16) (a6)  y3_0  12))])) (live := [0, 1, 2, 3, 4]) (u := vi y3_0) (bl := [some (.cells [vi a18, vi a19, vi a20, vi a21, vi a22, vi a23, vi a24, vi a25, vs 4 0 L26.length L26.length] 174), some (.cells (Zb Zp L8) 89), some (.cells (Zb eI L12) 3), some (.cells (Zb Ze L13) 63), some (.cells (Zb Zj L26) 72)]) (ob := [(dP (Za3 #[vi a5, vq, vq, Value.bool b17, vi a16, vi a6] (a5) ((0 : Int)) ((0 : Int)) (b17) (a16) (a6)  y3_0  12), true), ((decide (a15 ≥ (L13.length : Int))), true), ((decide (a15 < (0 : Int))), false), ((decide (a14 < (0 : Int))), true)]) (by kernel_rfl) (Zc (Zm (ZaL #[vi a5, vq, vq, Value.bool b17, vi a16, vi a6] (a5) ((0 : Int)) ((0 : Int)) (b17) (a16) (a6)  y3_0 N c3  12 rfl (by decide) (by decide))) <| oY <| oN <| oY Zi) rfl (by decide) (by rfl) rr ⟨⟨rfl, ⟨[], by rfl⟩, by rfl⟩, ⟨(Za (E := Zp) (α := RB) _ L8 _), ⟨(Za (E := eI) (α := Int) _ L12 _), ⟨(Za (E := Ze) (α := RA) _ L13 _), ⟨(Za (E := Zj) (α := R_ii) _ L26 _), trivial⟩⟩⟩⟩⟩ (Zu _ rfl)
   ·
    refine Z6 (fun z3 c3 => ?_)
    cases z3 with
    | r0 y3_0 =>
     exact Zx Zw (r := (.r0 (y3_0) : ZF)) (fu := 4000) (orc := (Zo [(0, true), (1, false), (2, false)] [] [(0, (a15).toNat)] [(4, [.i (L13.getD (a15).toNat RA.z).a0, .b (L13.getD (a15).toNat RA.z).a1, .b (L13.getD (a15).toNat RA.z).a2])] [(4, (ZaK (a5) ((0 : Int)) ((L13.getD (a15).toNat RA.z).a0) (b17) (a16) (a6)  y3_0  12))])) (live := [0, 1, 2, 3, 4]) (u := vi y3_0) (bl := [some (.cells [vi a18, vi a19, vi a20, vi a21, vi a22, vi a23, vi a24, vi a25, vs 4 0 L26.length L26.length] 174), some (.cells (Zb Zp L8) 89), some (.cells (Zb eI L12) 3), some (.cells (Zb Ze L13) 63), some (.cells (Zb Zj L26) 72)]) (ob := [(dP (Za3 #[vi a5, vq, vi (L13.getD (a15).toNat RA.z).a0, Value.bool b17, vi a16, vi a6] (a5) ((0 : Int)) ((L13.getD (a15).toNat RA.z).a0) (b17) (a16) (a6)  y3_0  12), true), (Z0 (Zs 3 (List.drop (0 + ((a15).toNat * 3)) (Zb Ze L13))) [.i (L13.getD (a15).toNat RA.z).a0, .b (L13.getD (a15).toNat RA.z).a1, .b (L13.getD (a15).toNat RA.z).a2], true), (Nat.blt (a15).toNat L13.length, true), (a15 == Int.ofNat (a15).toNat, true), ((decide (a15 ≥ (L13.length : Int))), false), ((decide (a15 < (0 : Int))), false), ((decide (a14 < (0 : Int))), true)]) (by kernel_rfl) (Zc (Zm (ZaL #[vi a5, vq, vi (L13.getD (a15).toNat RA.z).a0, Value.bool b17, vi a16, vi a6] (a5) ((0 : Int)) ((L13.getD (a15).toNat RA.z).a0) (b17) (a16) (a6)  y3_0 N c3  12 rfl (by decide) (by decide))) <| Zc (ZD (E := Ze) (L := L13) (i := (a15).toNat) (q := 0) (by omega) (show (0 + ((a15).toNat * 3)) = (a15).toNat * 3 + 0 from by omega) (show 0 + 3 ≤ 3 from by decide) rfl rfl) <| oB <| oI <| oN <| oN <| oY Zi) rfl (by decide) (by rfl) rr ⟨⟨rfl, ⟨[], by rfl⟩, by rfl⟩, ⟨(Za (E := Zp) (α := RB) _ L8 _), ⟨(Za (E := eI) (α := Int) _ L12 _), ⟨(Za (E := Ze) (α := RA) _ L13 _), ⟨(Za (E := Zj) (α := R_ii) _ L26 _), trivial⟩⟩⟩⟩⟩ (Zu _ rfl)
 ·
  refine Z2 (fun g1 => ?_) (fun g1 => ?_)
  ·
   refine Z2 (fun g2 => ?_) (fun g2 => ?_)
   ·
    refine Z6 (fun z3 c3 => ?_)
    cases z3 with
    | r0 y3_0 =>
     exact Zx Zw (r := (.r0 (y3_0) : ZF)) (fu := 4000) (orc := (Zo [(0, false), (1, true), (2, true)] [] [] [] [(4, (ZaK (a5) ((0 : Int)) ((0 : Int)) (b17) (a16) (a6)  y3_0  12))])) (live := [0, 1, 2, 3, 4]) (u := vi y3_0) (bl := [some (.cells [vi a18, vi a19, vi a20, vi a21, vi a22, vi a23, vi a24, vi a25, vs 4 0 L26.length L26.length] 174), some (.cells (Zb Zp L8) 89), some (.cells (Zb eI L12) 3), some (.cells (Zb Ze L13) 63), some (.cells (Zb Zj L26) 72)]) (ob := [(dP (Za3 #[vi a5, vq, vq, Value.bool b17, vi a16, vi a6] (a5) ((0 : Int)) ((0 : Int)) (b17) (a16) (a6)  y3_0  12), true), ((decide (a15 < (0 : Int))), true), ((decide (a14 ≥ (L13.length : Int))), true), ((decide (a14 < (0 : Int))), false)]) (by kernel_rfl) (Zc (Zm (ZaL #[vi a5, vq, vq, Value.bool b17, vi a16, vi a6] (a5) ((0 : Int)) ((0 : Int)) (b17) (a16) (a6)  y3_0 N c3  12 rfl (by decide) (by decide))) <| oY <| oY <| oN Zi) rfl (by decide) (by rfl) rr ⟨⟨rfl, ⟨[], by rfl⟩, by rfl⟩, ⟨(Za (E := Zp) (α := RB) _ L8 _), ⟨(Za (E := eI) (α := Int) _ L12 _), ⟨(Za (E := Ze) (α := RA) _ L13 _), ⟨(Za (E := Zj) (α := R_ii) _ L26 _), trivial⟩⟩⟩⟩⟩ (Zu _ rfl)
   ·
    refine Z2 (fun g3 => ?_) (fun g3 => ?_)
    ·
     refine Z6 (fun z4 c4 => ?_)
     cases z4 with
     | r0 y4_0 =>
      exact Zx Zw (r := (.r0 (y4_0) : ZF)) (fu := 4000) (orc := (Zo [(0, false), (1, true), (2, false), (3, true)] [] [] [] [(4, (ZaK (a5) ((0 : Int)) ((0 : Int)) (b17) (a16) (a6)  y4_0  12))])) (live := [0, 1, 2, 3, 4]) (u := vi y4_0) (bl := [some (.cells [vi a18, vi a19, vi a20, vi a21, vi a22, vi a23, vi a24, vi a25, vs 4 0 L26.length L26.length] 174), some (.cells (Zb Zp L8) 89), some (.cells (Zb eI L12) 3), some (.cells (Zb Ze L13) 63), some (.cells (Zb Zj L26) 72)]) (ob := [(dP (Za3 #[vi a5, vq, vq, Value.bool b17, vi a16, vi a6] (a5) ((0 : Int)) ((0 : Int)) (b17) (a16) (a6)  y4_0  12), true), ((decide (a15 ≥ (L13.length : Int))), true), ((decide (a15 < (0 : Int))), false), ((decide (a14 ≥ (L13.length : Int))), true), ((decide (a14 < (0 : Int))), false)]) (by kernel_rfl) (Zc (Zm (ZaL #[vi a5, vq, vq, Value.bool b17, vi a16, vi a6] (a5) ((0 : Int)) ((0 : Int)) (b17) (a16) (a6)  y4_0 N c4  12 rfl (by decide) (by decide))) <| oY <| oN <| oY <| oN Zi) rfl (by decide) (by rfl) rr ⟨⟨rfl, ⟨[], by rfl⟩, by rfl⟩, ⟨(Za (E := Zp) (α := RB) _ L8 _), ⟨(Za (E := eI) (α := Int) _ L12 _), ⟨(Za (E := Ze) (α := RA) _ L13 _), ⟨(Za (E := Zj) (α := R_ii) _ L26 _), trivial⟩⟩⟩⟩⟩ (Zu _ rfl)
    ·
     refine Z6 (fun z4 c4 => ?_)
     cases z4 with
     | r0 y4_0 =>
      exact Zx Zw (r := (.r0 (y4_0) : ZF)) (fu := 4000) (orc := (Zo [(0, false), (1, true), (2, false), (3, false)] [] [(0, (a15).toNat)] [(5, [.i (L13.getD (a15).toNat RA.z).a0, .b (L13.getD (a15).toNat RA.z).a1, .b (L13.getD (a15).toNat RA.z).a2])] [(4, (ZaK (a5) ((0 : Int)) ((L13.getD (a15).toNat RA.z).a0) (b17) (a16) (a6)  y4_0  12))])) (live := [0, 1, 2, 3, 4]) (u := vi y4_0) (bl := [some (.cells [vi a18, vi a19, vi a20, vi a21, vi a22, vi a23, vi a24, vi a25, vs 4 0 L26.length L26.length] 174), some (.cells (Zb Zp L8) 89), some (.cells (Zb eI L12) 3), some (.cells (Zb Ze L13) 63), some (.cells (Zb Zj L26) 72)]) (ob := [(dP (Za3 #[vi a5, vq, vi (L13.getD (a15).toNat RA.z).a0, Value.bool b17, vi a16, vi a6] (a5) ((0 : Int)) ((L13.getD (a15).toNat RA.z).a0) (b17) (a16) (a6)  y4_0  12), true), (Z0 (Zs 3 (List.drop (0 + ((a15).toNat * 3)) (Zb Ze L13))) [.i (L13.getD (a15).toNat RA.z).a0, .b (L13.getD (a15).toNat RA.z).a1, .b (L13.getD (a15).toNat RA.z).a2], true), (Nat.blt (a15).toNat L13.length, true), (a15 == Int.ofNat (a15).toNat, true), ((decide (a15 ≥ (L13.length : Int))), false), ((decide (a15 < (0 : Int))), false), ((decide (a14 ≥ (L13.length : Int))), true), ((decide (a14 < (0 : Int))), false)]) (by kernel_rfl) (Zc (Zm (ZaL #[vi a5, vq, vi (L13.getD (a15).toNat RA.z).a0, Value.bool b17, vi a16, vi a6] (a5) ((0 : Int)) ((L13.getD (a15).toNat RA.z).a0) (b17) (a16) (a6)  y4_0 N c4  12 rfl (by decide) (by decide))) <| Zc (ZD (E := Ze) (L := L13) (i := (a15).toNat) (q := 0) (by omega) (show (0 + ((a15).toNat * 3)) = (a15).toNat * 3 + 0 from by omega) (show 0 + 3 ≤ 3 from by decide) rfl rfl) <| oB <| oI <| oN <| oN <| oY <| oN Zi) rfl (by decide) (by rfl) rr ⟨⟨rfl, ⟨[], by rfl⟩, by rfl⟩, ⟨(Za (E := Zp) (α := RB) _ L8 _), ⟨(Za (E := eI) (α := Int) _ L12 _), ⟨(Za (E := Ze) (α := RA) _ L13 _), ⟨(Za (E := Zj) (α := R_ii) _ L26 _), trivial⟩⟩⟩⟩⟩ (Zu _ rfl)
  ·
   refine Z2 (fun g2 => ?_) (fun g2 => ?_)
   ·
    refine Z6 (fun z3 c3 => ?_)
    cases z3 with
    | r0 y3_0 =>
     exact Zx Zw (r := (.r0 (y3_0) : ZF)) (fu := 4000) (orc := (Zo [(0, false), (1, false), (2, true)] [] [(0, (a14).toNat)] [(3, [.i (L13.getD (a14).toNat RA.z).a0, .b (L13.getD (a14).toNat RA.z).a1, .b (L13.getD (a14).toNat RA.z).a2])] [(4, (ZaK (a5) ((L13.getD (a14).toNat RA.z).a0) ((0 : Int)) (b17) (a16) (a6)  y3_0  12))])) (live := [0, 1, 2, 3, 4]) (u := vi y3_0) (bl := [some (.cells [vi a18, vi a19, vi a20, vi a21, vi a22, vi a23, vi a24, vi a25, vs 4 0 L26.length L26.length] 174), some (.cells (Zb Zp L8) 89), some (.cells (Zb eI L12) 3), some (.cells (Zb Ze L13) 63), some (.cells (Zb Zj L26) 72)]) (ob := [(dP (Za3 #[vi a5, vi (L13.getD (a14).toNat RA.z).a0, vq, Value.bool b17, vi a16, vi a6] (a5) ((L13.getD (a14).toNat RA.z).a0) ((0 : Int)) (b17) (a16) (a6)  y3_0  12), true), ((decide (a15 < (0 : Int))), true), (Z0 (Zs 3 (List.drop (0 + ((a14).toNat * 3)) (Zb Ze L13))) [.i (L13.getD (a14).toNat RA.z).a0, .b (L13.getD (a14).toNat RA.z).a1, .b (L13.getD (a14).toNat RA.z).a2], true), (Nat.blt (a14).toNat L13.length, true), (a14 == Int.ofNat (a14).toNat, true), ((decide (a14 ≥ (L13.length : Int))), false), ((decide (a14 < (0 : Int))), false)]) (by kernel_rfl) (Zc (Zm (ZaL #[vi a5, vi (L13.getD (a14).toNat RA.z).a0, vq, Value.bool b17, vi a16, vi a6] (a5) ((L13.getD (a14).toNat RA.z).a0) ((0 : Int)) (b17) (a16) (a6)  y3_0 N c3  12 rfl (by decide) (by decide))) <| oY <| Zc (ZD (E := Ze) (L := L13) (i := (a14).toNat) (q := 0) (by omega) (show (0 + ((a14).toNat * 3)) = (a14).toNat * 3 + 0 from by omega) (show 0 + 3 ≤ 3 from by decide) rfl rfl) <| oB <| oI <| oN <| oN Zi) rfl (by decide) (by rfl) rr ⟨⟨rfl, ⟨[], by rfl⟩, by rfl⟩, ⟨(Za (E := Zp) (α := RB) _ L8 _), ⟨(Za (E := eI) (α := Int) _ L12 _), ⟨(Za (E := Ze) (α := RA) _ L13 _), ⟨(Za (E := Zj) (α := R_ii) _ L26 _), trivial⟩⟩⟩⟩⟩ (Zu _ rfl)
   ·
    refine Z2 (fun g3 => ?_) (fun g3 => ?_)
    ·
     refine Z6 (fun z4 c4 => ?_)
     cases z4 with
     | r0 y4_0 =>
      exact Zx Zw (r := (.r0 (y4_0) : ZF)) (fu := 4000) (orc := (Zo [(0, false), (1, false), (2, false), (3, true)] [] [(0, (a14).toNat)] [(3, [.i (L13.getD (a14).toNat RA.z).a0, .b (L13.getD (a14).toNat RA.z).a1, .b (L13.getD (a14).toNat RA.z).a2])] [(4, (ZaK (a5) ((L13.getD (a14).toNat RA.z).a0) ((0 : Int)) (b17) (a16) (a6)  y4_0  12))])) (live := [0, 1, 2, 3, 4]) (u := vi y4_0) (bl := [some (.cells [vi a18, vi a19, vi a20, vi a21, vi a22, vi a23, vi a24, vi a25, vs 4 0 L26.length L26.length] 174), some (.cells (Zb Zp L8) 89), some (.cells (Zb eI L12) 3), some (.cells (Zb Ze L13) 63), some (.cells (Zb Zj L26) 72)]) (ob := [(dP (Za3 #[vi a5, vi (L13.getD (a14).toNat RA.z).a0, vq, Value.bool b17, vi a16, vi a6] (a5) ((L13.getD (a14).toNat RA.z).a0) ((0 : Int)) (b17) (a16) (a6)  y4_0  12), true), ((decide (a15 ≥ (L13.length : Int))), true), ((decide (a15 < (0 : Int))), false), (Z0 (Zs 3 (List.drop (0 + ((a14).toNat * 3)) (Zb Ze L13))) [.i (L13.getD (a14).toNat RA.z).a0, .b (L13.getD (a14).toNat RA.z).a1, .b (L13.getD (a14).toNat RA.z).a2], true), (Nat.blt (a14).toNat L13.length, true), (a14 == Int.ofNat (a14).toNat, true), ((decide (a14 ≥ (L13.length : Int))), false), ((decide (a14 < (0 : Int))), false)]) (by kernel_rfl) (Zc (Zm (ZaL #[vi a5, vi (L13.getD (a14).toNat RA.z).a0, vq, Value.bool b17, vi a16, vi a6] (a5) ((L13.getD (a14).toNat RA.z).a0) ((0 : Int)) (b17) (a16) (a6)  y4_0 N c4  12 rfl (by decide) (by decide))) <| oY <| oN <| Zc (ZD (E := Ze) (L := L13) (i := (a14).toNat) (q := 0) (by omega) (show (0 + ((a14).toNat * 3)) = (a14).toNat * 3 + 0 from by omega) (show 0 + 3 ≤ 3 from by decide) rfl rfl) <| oB <| oI <| oN <| oN Zi) rfl (by decide) (by rfl) rr ⟨⟨rfl, ⟨[], by rfl⟩, by rfl⟩, ⟨(Za (E := Zp) (α := RB) _ L8 _), ⟨(Za (E := eI) (α := Int) _ L12 _), ⟨(Za (E := Ze) (α := RA) _ L13 _), ⟨(Za (E := Zj) (α := R_ii) _ L26 _), trivial⟩⟩⟩⟩⟩ (Zu _ rfl)
    ·
     refine Z6 (fun z4 c4 => ?_)
     cases z4 with
     | r0 y4_0 =>
      exact Zx Zw (r := (.r0 (y4_0) : ZF)) (fu := 4000) (orc := (Zo [(0, false), (1, false), (2, false), (3, false)] [] [(0, (a14).toNat), (1, (a15).toNat)] [(3, [.i (L13.getD (a14).toNat RA.z).a0, .b (L13.getD (a14).toNat RA.z).a1, .b (L13.getD (a14).toNat RA.z).a2]), (7, [.i (L13.getD (a15).toNat RA.z).a0, .b (L13.getD (a15).toNat RA.z).a1, .b (L13.getD (a15).toNat RA.z).a2])] [(4, (ZaK (a5) ((L13.getD (a14).toNat RA.z).a0) ((L13.getD (a15).toNat RA.z).a0) (b17) (a16) (a6)  y4_0  12))])) (live := [0, 1, 2, 3, 4]) (u := vi y4_0) (bl := [some (.cells [vi a18, vi a19, vi a20, vi a21, vi a22, vi a23, vi a24, vi a25, vs 4 0 L26.length L26.length] 174), some (.cells (Zb Zp L8) 89), some (.cells (Zb eI L12) 3), some (.cells (Zb Ze L13) 63), some (.cells (Zb Zj L26) 72)]) (ob := [(dP (Za3 #[vi a5, vi (L13.getD (a14).toNat RA.z).a0, vi (L13.getD (a15).toNat RA.z).a0, Value.bool b17, vi a16, vi a6] (a5) ((L13.getD (a14).toNat RA.z).a0) ((L13.getD (a15).toNat RA.z).a0) (b17) (a16) (a6)  y4_0  12), true), (Z0 (Zs 3 (List.drop (0 + ((a15).toNat * 3)) (Zb Ze L13))) [.i (L13.getD (a15).toNat RA.z).a0, .b (L13.getD (a15).toNat RA.z).a1, .b (L13.getD (a15).toNat RA.z).a2], true), (Nat.blt (a15).toNat L13.length, true), (a15 == Int.ofNat (a15).toNat, true), ((decide (a15 ≥ (L13.length : Int))), false), ((decide (a15 < (0 : Int))), false), (Z0 (Zs 3 (List.drop (0 + ((a14).toNat * 3)) (Zb Ze L13))) [.i (L13.getD (a14).toNat RA.z).a0, .b (L13.getD (a14).toNat RA.z).a1, .b (L13.getD (a14).toNat RA.z).a2], true), (Nat.blt (a14).toNat L13.length, true), (a14 == Int.ofNat (a14).toNat, true), ((decide (a14 ≥ (L13.length : Int))), false), ((decide (a14 < (0 : Int))), false)]) (by kernel_rfl) (Zc (Zm (ZaL #[vi a5, vi (L13.getD (a14).toNat RA.z).a0, vi (L13.getD (a15).toNat RA.z).a0, Value.bool b17, vi a16, vi a6] (a5) ((L13.getD (a14).toNat RA.z).a0) ((L13.getD (a15).toNat RA.z).a0) (b17) (a16) (a6)  y4_0 N c4  12 rfl (by decide) (by decide))) <| Zc (ZD (E := Ze) (L := L13) (i := (a15).toNat) (q := 0) (by omega) (show (0 + ((a15).toNat * 3)) = (a15).toNat * 3 + 0 from by omega) (show 0 + 3 ≤ 3 from by decide) rfl rfl) <| oB <| oI <| oN <| oN <| Zc (ZD (E := Ze) (L := L13) (i := (a14).toNat) (q := 0) (by omega) (show (0 + ((a14).toNat * 3)) = (a14).toNat * 3 + 0 from by omega) (show 0 + 3 ≤ 3 from by decide) rfl rfl) <| oB <| oI <| oN <| oN Zi) rfl (by decide) (by rfl) rr ⟨⟨rfl, ⟨[], by rfl⟩, by rfl⟩, ⟨(Za (E := Zp) (α := RB) _ L8 _), ⟨(Za (E := eI) (α := Int) _ L12 _), ⟨(Za (E := Ze) (α := RA) _ L13 _), ⟨(Za (E := Zj) (α := R_ii) _ L26 _), trivial⟩⟩⟩⟩⟩ (Zu _ rfl)

theorem Zh7 (a0 a1 a2 a3 a4 a5 a6 a7 : Int) (L8 : List RB) (a9 a10 a11 : Int) (L12 : List Int) (L13 : List RA) (a14 a15 a16 : Int) (b17 : Bool) (a18 a19 a20 a21 a22 a23 a24 a25 : Int) (L26 : List R_ii) (N : Nat) (r : ZF) (h : Zb5 a0 a1 a2 a3 a4 a5 a6 a7 L8 a9 a10 a11 L12 L13 a14 a15 a16 b17 a18 a19 a20 a21 a22 a23 a24 a25 L26 N = some r) : LSpec Try.prog 19 #[Value.agg #[vi a0, vi a1, vi a2, vi a3, vi a4, vi a5, vi a6, vi a7, vs 0 0 1 1, vn, vs 1 0 L8.length L8.length, vi a9, vi a10, vi a11, vs 2 0 L12.length L12.length, vs 3 0 L13.length L13.length], vi a14, vi a15, vi a16, Value.bool b17] [.cells [vi a18, vi a19, vi a20, vi a21, vi a22, vi a23, vi a24, vi a25, vs 4 0 L26.length L26.length] 174, .cells (Zb Zp L8) 89, .cells (Zb eI L12) 3, .cells (Zb Ze L13) 63, .cells (Zb Zj L26) 72] (Zgi a0 a1 a2 a3 a4 a5 a6 a7 L8 a9 a10 a11 L12 L13 a14 a15 a16 b17 a18 a19 a20 a21 a22 a23 a24 a25 L26 r) (Zf7 a0 a1 a2 a3 a4 a5 a6 a7 L8 a9 a10 a11 L12 L13 a14 a15 a16 b17 a18 a19 a20 a21 a22 a23 a24 a25 L26 r) :=
 (ZiL a0 a1 a2 a3 a4 a5 a6 a7 L8 a9 a10 a11 L12 L13 a14 a15 a16 b17 a18 a19 a20 a21 a22 a23 a24 a25 L26 N) r h

noncomputable def ZcT (a0 a1 a2 a3 a4 a5 a6 a7 : Int) (L8 : List RB) (a9 a10 a11 : Int) (L12 : List Int) (L13 : List RA) (a14 a15 a16 : Int) (b17 : Bool) (a18 a19 a20 a21 a22 a23 a24 a25 : Int) (L26 : List R_ii) (w4 : Int) (k0 k1 k2 k3 k4 n : Nat) : ZaD := .call [(k0, .cells [vi a18, vi a19, vi a20, vi a21, vi a22, vi a23, vi a24, vi a25, vs k4 0 L26.length L26.length] 174), (k1, .cells (Zb Zp L8) 89), (k2, .cells (Zb eI L12) 3), (k3, .cells (Zb Ze L13) 63), (k4, .cells (Zb Zj L26) 72)] (vi w4) [] 0
def Zco (A : Array Value) (a0 a1 a2 a3 a4 a5 a6 a7 : Int) (L8 : List RB) (a9 a10 a11 : Int) (L12 : List Int) (L13 : List RA) (a14 a15 a16 : Int) (b17 : Bool) (a18 a19 a20 a21 a22 a23 a24 a25 : Int) (L26 : List R_ii) (w4 : Int) (k0 k1 k2 k3 k4 n : Nat) : Prop := ZH Try.prog 19 A [(k0, .cells [vi a18, vi a19, vi a20, vi a21, vi a22, vi a23, vi a24, vi a25, vs k4 0 L26.length L26.length] 174), (k1, .cells (Zb Zp L8) 89), (k2, .cells (Zb eI L12) 3), (k3, .cells (Zb Ze L13) 63), (k4, .cells (Zb Zj L26) 72)] (vi w4) [] n 0

theorem ZcU (A : Array Value) (a0 a1 a2 a3 a4 a5 a6 a7 : Int) (L8 : List RB) (a9 a10 a11 : Int) (L12 : List Int) (L13 : List RA) (a14 a15 a16 : Int) (b17 : Bool) (a18 a19 a20 a21 a22 a23 a24 a25 : Int) (L26 : List R_ii) (w4 : Int) (N : Nat) (h : Zb5 a0 a1 a2 a3 a4 a5 a6 a7 L8 a9 a10 a11 L12 L13 a14 a15 a16 b17 a18 a19 a20 a21 a22 a23 a24 a25 L26 N = some (.r0 w4)) (k0 k1 k2 k3 k4 n : Nat) (hA : A = #[Value.agg #[vi a0, vi a1, vi a2, vi a3, vi a4, vi a5, vi a6, vi a7, vs k0 0 1 1, vn, vs k1 0 L8.length L8.length, vi a9, vi a10, vi a11, vs k2 0 L12.length L12.length, vs k3 0 L13.length L13.length], vi a14, vi a15, vi a16, Value.bool b17]) (hnd : ([k0, k1, k2, k3, k4] : List Nat).Nodup) (hlt : ∀ k ∈ ([k0, k1, k2, k3, k4] : List Nat), k < n) : Zco A a0 a1 a2 a3 a4 a5 a6 a7 L8 a9 a10 a11 L12 L13 a14 a15 a16 b17 a18 a19 a20 a21 a22 a23 a24 a25 L26 w4 k0 k1 k2 k3 k4 n :=
 Zah hA (LSpec.callL (show LSpec Try.prog 19 #[Value.agg #[vi a0, vi a1, vi a2, vi a3, vi a4, vi a5, vi a6, vi a7, vs 0 0 1 1, vn, vs 1 0 L8.length L8.length, vi a9, vi a10, vi a11, vs 2 0 L12.length L12.length, vs 3 0 L13.length L13.length], vi a14, vi a15, vi a16, Value.bool b17] [.cells [vi a18, vi a19, vi a20, vi a21, vi a22, vi a23, vi a24, vi a25, vs 4 0 L26.length L26.length] 174, .cells (Zb Zp L8) 89, .cells (Zb eI L12) 3, .cells (Zb Ze L13) 63, .cells (Zb Zj L26) 72] (vi w4) [some (.cells [vi a18, vi a19, vi a20, vi a21, vi a22, vi a23, vi a24, vi a25, vs 4 0 L26.length L26.length] 174), some (.cells (Zb Zp L8) 89), some (.cells (Zb eI L12) 3), some (.cells (Zb Ze L13) 63), some (.cells (Zb Zj L26) 72)] from Zh7 a0 a1 a2 a3 a4 a5 a6 a7 L8 a9 a10 a11 L12 L13 a14 a15 a16 b17 a18 a19 a20 a21 a22 a23 a24 a25 L26 N _ h) [k0, k1, k2, k3, k4] n [] rfl hnd hlt (show 5 ≤ 5 from by decide) (show ∀ j ∈ ([] : List Nat), j < 5 from by decide) (by rfl) ⟨rfl, ⟨(ZC _ _ _), ⟨(ZC _ _ _), ⟨(ZC _ _ _), ⟨(ZC _ _ _), trivial⟩⟩⟩⟩⟩ (by rfl) ⟨rfl, ⟨(ZC _ _ _), ⟨(ZC _ _ _), ⟨(ZC _ _ _), ⟨(ZC _ _ _), trivial⟩⟩⟩⟩⟩ ⟨.inr rfl, ⟨.inr rfl, ⟨.inr rfl, ⟨.inr rfl, ⟨.inr rfl, trivial⟩⟩⟩⟩⟩ rfl rfl rfl (Zd (ZB rfl rfl) (Zd (ZB rfl (ZU _ _ _)) (Zd (ZB rfl (ZU _ _ _)) (Zd (ZB rfl (ZU _ _ _)) (Zd (ZB rfl (ZU _ _ _)) rfl))))) rfl)

noncomputable def Zfy (L0 L1 : List Int) : ZP → Value
 | .r0 => Value.pointer none
 | .r1 w2 w3 => vp 3 0
noncomputable def ZeI (L0 L1 : List Int) : ZP → List (Option AObj)
 | .r0 => [some (.cells [vs 1 0 L0.length L0.length, vs 2 0 L1.length L1.length] 158), some (.cells (Zb eI L0) 155), some (.cells (Zb eI L1) 155)]
 | .r1 w2 w3 => [some (.cells [vs 1 0 L0.length L0.length, vs 2 0 L1.length L1.length] 158), some (.cells (Zb eI L0) 155), some (.cells (Zb eI L1) 155), some (.cells [vs 4 0 w2.length w2.length, vs 5 0 w3.length w3.length] 158), some (.cells (Zb eI w2) 155), some (.cells (Zb eI w3) 155)]

def ZhZ : ZJ → Nat
 | .h1m0 v3 v4 v5 => 1
noncomputable def ZiM (L0 L1 : List Int) : ZJ → List (Nat × Value)
 | .h1m0 v3 v4 v5 => [(0, vp 0 0), (3, vp 3 0), (18, vi (L0.length : Int)), (19, vi (v3 : Int))]
noncomputable def ZiN (L0 L1 : List Int) : ZJ → List (Option AObj)
 | .h1m0 v3 v4 v5 => [some (.cells [vs 1 0 L0.length L0.length, vs 2 0 L1.length L1.length] 158), some (.cells (Zb eI L0) 155), some (.cells (Zb eI L1) 155), some (.cells [vs 4 0 v4.length v4.length, vs 5 0 v5.length v5.length] 158), some (.cells (Zb eI v4) 155), some (.cells (Zb eI v5) 155)]

noncomputable def ZaB : Nat → Code × List ZaE
 | 1 => Zda [1, 1, 1, 0, 1, 3] (ZcF Try.f63) []
 | _ => (.skip, [])
def ZeJ : Nat → Bool
 | 1 => true
 | _ => true
noncomputable def ZiO (i : Nat) : List ZaE := match ZeJ i with | true => .rnd i :: (ZaB i).2 | false => (ZaB i).2

noncomputable def Zal (L0 L1 : List Int) (N : Nat) : Mach := ⟨Try.f63, [.cells [vs 1 0 L0.length L0.length, vs 2 0 L1.length L1.length] 158, .cells (Zb eI L0) 155, .cells (Zb eI L1) 155], ZJ, ZP, Zbh L0 L1 N, ZhZ, ZaB, ZeJ, ZiM L0 L1, ZiN L0 L1, Zfy L0 L1, ZeI L0 L1⟩

theorem Zgj (L0 L1 : List Int) (v3 : Nat) (v4 v5 : List Int) (N : Nat) : (Zal L0 L1 N).Ok Try.prog ZQ (.h1m0 v3 v4 v5 : ZJ) (Zbh L0 L1 N (.h1m0 v3 v4 v5 : ZJ)) := by
 show (Zal L0 L1 N).Ok Try.prog ZQ (.h1m0 v3 v4 v5 : ZJ) (ZcH L0 L1 N v3 v4 v5)
 unfold ZcH
 refine Mach.ok_ite (fun g0 => ?_) (fun g0 => ?_)
 ·
  refine Mach.ok_ite (fun g1 => ?_) (fun g1 => ?_)
  ·
   refine Mach.ok_ite (fun g2 => ?_) (fun g2 => ?_)
   ·
    refine Mach.ok_ite (fun g3 => ?_) (fun g3 => ?_)
    ·
     refine Mach.ok_ite (fun g4 => ?_) (fun g4 => ?_)
     ·
      exact Mach.ok_next (M := Zal L0 L1 N) (cd := 1000000) (cm := 0) (y := (.h1m0 ((v3 + 1)) ((v4.set v3 (L0.getD v3 0))) ((v5.set v3 (L1.getD v3 0))) : ZJ)) (fu := 4000) (orc := (Zo [(0, true)] [(0, (((v3 + 1) : Nat) : Int))] [(0, v3), (1, v3), (2, v3), (3, v3)] [] [(0, .at (L0.getD v3 0) []), (1, .at (v4.getD v3 0) (Zb eI (v4.set v3 (L0.getD v3 0)))), (2, .at (L1.getD v3 0) []), (3, .at (v5.getD v3 0) (Zb eI (v5.set v3 (L1.getD v3 0))))])) (live := [0, 1, 2, 3, 4, 5]) (tv := fun _ => [some (vp 0 0), some (vp 3 0), some (vi (L0.length : Int)), some (vi (((v3 + 1) : Nat) : Int))]) (bl := [some (.cells [vs 1 0 L0.length L0.length, vs 2 0 L1.length L1.length] 158), some (.cells (Zb eI L0) 155), some (.cells (Zb eI L1) 155), some (.cells [vs 4 0 v4.length v4.length, vs 5 0 v5.length v5.length] 158), some (.cells (Zb eI (v4.set v3 (L0.getD v3 0))) 155), some (.cells (Zb eI (v5.set v3 (L1.getD v3 0))) 155)]) (ob := [((IntKind.i64.wrap ((v3 : Int) + (1 : Int))) == (((v3 + 1) : Nat) : Int), true), (dP (Zs 1 (List.drop ((0 + (v3 * 1)) + 0) (Zb eI v5)) = some [vi (v5.getD v3 0)] ∧ ((0 + (v3 * 1)) + 0) + 1 ≤ ((Zb eI v5) : List Value).length ∧ Zbg (Zb eI v5) ((0 + (v3 * 1)) + 0) [vi (L1.getD v3 0)] = (Zb eI (v5.set v3 (L1.getD v3 0)))), true), (dP (Zs 1 (List.drop ((0 + (v3 * 1)) + 0) (Zb eI L1)) = some [vi (L1.getD v3 0)]), true), (Nat.blt v3 L1.length, true), ((v3 : Int) == Int.ofNat v3, true), (Nat.blt v3 v5.length, true), ((v3 : Int) == Int.ofNat v3, true), (dP (Zs 1 (List.drop ((0 + (v3 * 1)) + 0) (Zb eI v4)) = some [vi (v4.getD v3 0)] ∧ ((0 + (v3 * 1)) + 0) + 1 ≤ ((Zb eI v4) : List Value).length ∧ Zbg (Zb eI v4) ((0 + (v3 * 1)) + 0) [vi (L0.getD v3 0)] = (Zb eI (v4.set v3 (L0.getD v3 0)))), true), (dP (Zs 1 (List.drop ((0 + (v3 * 1)) + 0) (Zb eI L0)) = some [vi (L0.getD v3 0)]), true), (Nat.blt v3 L0.length, true), ((v3 : Int) == Int.ofNat v3, true), (Nat.blt v3 v4.length, true), ((v3 : Int) == Int.ofNat v3, true), ((decide ((v3 : Int) < (L0.length : Int))), true)]) rfl (show 1 ∈ Zy (ZiO 1) from by decide +kernel) (fun gv => by kernel_rfl) (Zc (beq_iff_eq.2 ((wrap_i64 ltA).trans (by first | rfl | omega))) <| Zc (Zm ⟨(Ze2 (E := eI) (L := v5) (i := v3) (q := 0) (by omega) (show ((0 + (v3 * 1)) + 0) = v3 * 1 + 0 from by omega) (show 0 + 1 ≤ 1 from by decide) rfl), (Zdb (E := eI) (L := v5) (i := v3) (q := 0) (l := [vi (L1.getD v3 0)]) (L1.getD v3 0) (by omega) (show ((0 + (v3 * 1)) + 0) = v3 * 1 + 0 from by omega) (show 0 + 1 ≤ 1 from by decide) rfl)⟩) <| Zc (Zm (Ze2 (E := eI) (L := L1) (i := v3) (q := 0) (by omega) (show ((0 + (v3 * 1)) + 0) = v3 * 1 + 0 from by omega) (show 0 + 1 ≤ 1 from by decide) rfl)) <| oB <| oI <| oB <| oI <| Zc (Zm ⟨(Ze2 (E := eI) (L := v4) (i := v3) (q := 0) (by omega) (show ((0 + (v3 * 1)) + 0) = v3 * 1 + 0 from by omega) (show 0 + 1 ≤ 1 from by decide) rfl), (Zdb (E := eI) (L := v4) (i := v3) (q := 0) (l := [vi (L0.getD v3 0)]) (L0.getD v3 0) (by omega) (show ((0 + (v3 * 1)) + 0) = v3 * 1 + 0 from by omega) (show 0 + 1 ≤ 1 from by decide) rfl)⟩) <| Zc (Zm (Ze2 (E := eI) (L := L0) (i := v3) (q := 0) (by omega) (show ((0 + (v3 * 1)) + 0) = v3 * 1 + 0 from by omega) (show 0 + 1 ≤ 1 from by decide) rfl)) <| oB <| oI <| oB <| oI <| oY Zi) rfl (by decide) (by rfl) (fun _ => ⟨rr, ⟨rr, ⟨rr, ⟨rr, trivial⟩⟩⟩⟩) ⟨⟨rfl, ⟨[], by rfl⟩, by rfl⟩, ⟨(Za (E := eI) (α := Int) _ L0 _), ⟨(Za (E := eI) (α := Int) _ L1 _), ⟨⟨rfl, ⟨[], (show ([vs 4 0 v4.length v4.length, vs 5 0 v5.length v5.length] : List Value) = _ from (Zd (ZE rfl eqA eqA) (Zd (ZE rfl eqA eqA) rfl)).symm)⟩, by rfl⟩, ⟨(Za (E := eI) (α := Int) _ (v4.set v3 (L0.getD v3 0)) _), ⟨(Za (E := eI) (α := Int) _ (v5.set v3 (L1.getD v3 0)) _), trivial⟩⟩⟩⟩⟩⟩
     ·
      exact Mach.ok_none
    ·
     exact Mach.ok_none
   ·
    exact Mach.ok_none
  ·
   exact Mach.ok_none
 ·
  exact Mach.ok_fin (M := Zal L0 L1 N) (cd := 1000000) (cm := 0) (r := (.r1 (v4) (v5) : ZP)) (fu := 4000) (orc := (Zo [(0, false)] [] [] [] [])) (live := [0, 1, 2, 3, 4, 5]) (u := vp 3 0) (bl := [some (.cells [vs 1 0 L0.length L0.length, vs 2 0 L1.length L1.length] 158), some (.cells (Zb eI L0) 155), some (.cells (Zb eI L1) 155), some (.cells [vs 4 0 v4.length v4.length, vs 5 0 v5.length v5.length] 158), some (.cells (Zb eI v4) 155), some (.cells (Zb eI v5) 155)]) (ob := [((decide ((v3 : Int) < (L0.length : Int))), false)]) (fun gv => by kernel_rfl) (oN Zi) rfl (by decide) (by rfl) rr ⟨⟨rfl, ⟨[], by rfl⟩, by rfl⟩, ⟨(Za (E := eI) (α := Int) _ L0 _), ⟨(Za (E := eI) (α := Int) _ L1 _), ⟨⟨rfl, ⟨[], by rfl⟩, by rfl⟩, ⟨(Za (E := eI) (α := Int) _ v4 _), ⟨(Za (E := eI) (α := Int) _ v5 _), trivial⟩⟩⟩⟩⟩⟩

theorem Zh8 (L0 L1 : List Int) (N : Nat) : (Zal L0 L1 N).Enter Try.prog ZQ #[vp 0 0] (Zds L0 L1 N) := by
 unfold Zds
 refine Mach.en_ite (fun g0 => ?_) (fun g0 => ?_)
 ·
  refine Mach.en_bind (fun z1 c1 => ?_)
  cases z1 with
  | r0 =>
   exact Mach.en_fin (M := Zal L0 L1 N) (cd := 1000000) (cm := 0) (r := (.r0 : ZP)) (fu := 4000) (orc := (Zo [(1, true)] [] [] [] [(0, (Zbq ((L0.length : Int))    3))])) (live := [0, 1, 2]) (u := Value.pointer none) (bl := [some (.cells [vs 1 0 L0.length L0.length, vs 2 0 L1.length L1.length] 158), some (.cells (Zb eI L0) 155), some (.cells (Zb eI L1) 155)]) (ob := [(dP (Zba #[vi (L0.length : Int)] ((L0.length : Int))    3), true), ((decide ((L0.length : Int) > (0 : Int))), true)]) (by kernel_rfl) (Zc (Zm (Zbr #[vi (L0.length : Int)] ((L0.length : Int))   N c1  3 rfl (by decide) (by decide))) <| oY Zi) rfl (by decide) (by rfl) rr ⟨⟨rfl, ⟨[], by rfl⟩, by rfl⟩, ⟨(Za (E := eI) (α := Int) _ L0 _), ⟨(Za (E := eI) (α := Int) _ L1 _), trivial⟩⟩⟩
  | r1 =>
   exact Mach.en_head (bK := ZaB 1) (M := Zal L0 L1 N) (cd := 1000000) (cm := 0) (y := (.h1m0 (0) ((List.replicate ((L0.length : Int)).toNat (0 : Int))) ((List.replicate ((L0.length : Int)).toNat (0 : Int))) : ZJ)) (fu := 4000) (orc := (Zo [(1, true)] [] [] [] [(0, (Zaw ((L0.length : Int))    3))])) (live := [0, 1, 2, 3, 4, 5]) (tv := [some (vp 0 0), some (vp 3 0), some (vi (L0.length : Int)), some (vq)]) (bl := [some (.cells [vs 1 0 L0.length L0.length, vs 2 0 L1.length L1.length] 158), some (.cells (Zb eI L0) 155), some (.cells (Zb eI L1) 155), some (.cells [vs 4 0 ((L0.length : Int)).toNat ((L0.length : Int)).toNat, vs 5 0 ((L0.length : Int)).toNat ((L0.length : Int)).toNat] 158), some (.cells (Zb eI (List.replicate ((L0.length : Int)).toNat (0 : Int))) 155), some (.cells (Zb eI (List.replicate ((L0.length : Int)).toNat (0 : Int))) 155)]) (ob := [(dP (Zar #[vi (L0.length : Int)] ((L0.length : Int))    3), true), ((decide ((L0.length : Int) > (0 : Int))), true)]) rfl rfl (show Zy (ZaB 1).2 = [] from rfl) (by kernel_rfl) (Zc (Zm (Zax #[vi (L0.length : Int)] ((L0.length : Int))   N c1  3 rfl (by decide) (by decide))) <| oY Zi) rfl (by decide) (by rfl) ⟨rr, ⟨rr, ⟨rr, ⟨⟨Eq.trans (show (vi ((0 : Nat) : Int) : Value) = vq from (congrArg (Value.int .i64) (by first | rfl | omega))) (by rfl), by rfl⟩, trivial⟩⟩⟩⟩ ⟨⟨rfl, ⟨[], by rfl⟩, by rfl⟩, ⟨(Za (E := eI) (α := Int) _ L0 _), ⟨(Za (E := eI) (α := Int) _ L1 _), ⟨⟨rfl, ⟨[], (show ([vs 4 0 ((L0.length : Int)).toNat ((L0.length : Int)).toNat, vs 5 0 ((L0.length : Int)).toNat ((L0.length : Int)).toNat] : List Value) = _ from (Zd (ZE rfl eqA eqA) (Zd (ZE rfl eqA eqA) rfl)).symm)⟩, by rfl⟩, ⟨(Za (E := eI) (α := Int) _ (List.replicate ((L0.length : Int)).toNat (0 : Int)) _), ⟨(Za (E := eI) (α := Int) _ (List.replicate ((L0.length : Int)).toNat (0 : Int)) _), trivial⟩⟩⟩⟩⟩⟩
 ·
  refine Mach.en_bind (fun z1 c1 => ?_)
  cases z1 with
  | r0 =>
   exact Mach.en_fin (M := Zal L0 L1 N) (cd := 1000000) (cm := 0) (r := (.r0 : ZP)) (fu := 4000) (orc := (Zo [(1, false)] [] [] [] [(0, (Zbq ((0 : Int))    3))])) (live := [0, 1, 2]) (u := Value.pointer none) (bl := [some (.cells [vs 1 0 L0.length L0.length, vs 2 0 L1.length L1.length] 158), some (.cells (Zb eI L0) 155), some (.cells (Zb eI L1) 155)]) (ob := [(dP (Zba #[vq] ((0 : Int))    3), true), ((decide ((L0.length : Int) > (0 : Int))), false)]) (by kernel_rfl) (Zc (Zm (Zbr #[vq] ((0 : Int))   N c1  3 rfl (by decide) (by decide))) <| oN Zi) rfl (by decide) (by rfl) rr ⟨⟨rfl, ⟨[], by rfl⟩, by rfl⟩, ⟨(Za (E := eI) (α := Int) _ L0 _), ⟨(Za (E := eI) (α := Int) _ L1 _), trivial⟩⟩⟩
  | r1 =>
   exact Mach.en_head (bK := ZaB 1) (M := Zal L0 L1 N) (cd := 1000000) (cm := 0) (y := (.h1m0 (0) ((List.replicate ((0 : Int)).toNat (0 : Int))) ((List.replicate ((0 : Int)).toNat (0 : Int))) : ZJ)) (fu := 4000) (orc := (Zo [(1, false)] [] [] [] [(0, (Zaw ((0 : Int))    3))])) (live := [0, 1, 2, 3, 4, 5]) (tv := [some (vp 0 0), some (vp 3 0), some (vi (L0.length : Int)), some (vq)]) (bl := [some (.cells [vs 1 0 L0.length L0.length, vs 2 0 L1.length L1.length] 158), some (.cells (Zb eI L0) 155), some (.cells (Zb eI L1) 155), some (.cells [vs 4 0 ((0 : Int)).toNat ((0 : Int)).toNat, vs 5 0 ((0 : Int)).toNat ((0 : Int)).toNat] 158), some (.cells (Zb eI (List.replicate ((0 : Int)).toNat (0 : Int))) 155), some (.cells (Zb eI (List.replicate ((0 : Int)).toNat (0 : Int))) 155)]) (ob := [(dP (Zar #[vq] ((0 : Int))    3), true), ((decide ((L0.length : Int) > (0 : Int))), false)]) rfl rfl (show Zy (ZaB 1).2 = [] from rfl) (by kernel_rfl) (Zc (Zm (Zax #[vq] ((0 : Int))   N c1  3 rfl (by decide) (by decide))) <| oN Zi) rfl (by decide) (by rfl) ⟨rr, ⟨rr, ⟨rr, ⟨⟨Eq.trans (show (vi ((0 : Nat) : Int) : Value) = vq from (congrArg (Value.int .i64) (by first | rfl | omega))) (by rfl), by rfl⟩, trivial⟩⟩⟩⟩ ⟨⟨rfl, ⟨[], by rfl⟩, by rfl⟩, ⟨(Za (E := eI) (α := Int) _ L0 _), ⟨(Za (E := eI) (α := Int) _ L1 _), ⟨⟨rfl, ⟨[], (show ([vs 4 0 ((0 : Int)).toNat ((0 : Int)).toNat, vs 5 0 ((0 : Int)).toNat ((0 : Int)).toNat] : List Value) = _ from (Zd (ZE rfl eqA eqA) (Zd (ZE rfl eqA eqA) rfl)).symm)⟩, by rfl⟩, ⟨(Za (E := eI) (α := Int) _ (List.replicate ((0 : Int)).toNat (0 : Int)) _), ⟨(Za (E := eI) (α := Int) _ (List.replicate ((0 : Int)).toNat (0 : Int)) _), trivial⟩⟩⟩⟩⟩⟩

theorem Zg9 (L0 L1 : List Int) (N : Nat) (r : ZP) (h : ZcS L0 L1 N = some r) : LSpec Try.prog 63 #[vp 0 0] [.cells [vs 1 0 L0.length L0.length, vs 2 0 L1.length L1.length] 158, .cells (Zb eI L0) 155, .cells (Zb eI L1) 155] (Zfy L0 L1 r) (ZeI L0 L1 r) :=
 Mach.spec Zw (Zal L0 L1 N) Try.func63 (by kernel_rfl) (by kernel_rfl) (fun x => by cases x <;> exact Zu _ rfl) (fun r => by cases r <;> exact Zu _ rfl) (fun x => by
  cases x with
  | h1m0 _ _ _ => exact fun _ => (show ¬ (1 ∈ Zy (ZaB 1).2) from by decide +kernel)
  ) (fun x => (show (Zal L0 L1 N).Ok Try.prog ZQ x (Zbh L0 L1 N x) from by
  cases x with
  | h1m0 v3 v4 v5 => exact Zgj L0 L1 v3 v4 v5 N
  )) (Zh8 L0 L1 N) (n := N) h

noncomputable def Zia (L0 L1 w2 w3 : List Int) (k0 k1 k2 n : Nat) : ZaD := .call [(k0, .cells [vs k1 0 L0.length L0.length, vs k2 0 L1.length L1.length] 158), (k1, .cells (Zb eI L0) 155), (k2, .cells (Zb eI L1) 155)] (vp n 0) [(n, some (.cells [vs (n + 1) 0 w2.length w2.length, vs (n + 2) 0 w3.length w3.length] 158)), ((n + 1), some (.cells (Zb eI w2) 155)), ((n + 2), some (.cells (Zb eI w3) 155))] 3
def ZeK (A : Array Value) (L0 L1 w2 w3 : List Int) (k0 k1 k2 n : Nat) : Prop := ZH Try.prog 63 A [(k0, .cells [vs k1 0 L0.length L0.length, vs k2 0 L1.length L1.length] 158), (k1, .cells (Zb eI L0) 155), (k2, .cells (Zb eI L1) 155)] (vp n 0) [(n, some (.cells [vs (n + 1) 0 w2.length w2.length, vs (n + 2) 0 w3.length w3.length] 158)), ((n + 1), some (.cells (Zb eI w2) 155)), ((n + 2), some (.cells (Zb eI w3) 155))] n 3

theorem Zib (A : Array Value) (L0 L1 w2 w3 : List Int) (N : Nat) (h : ZcS L0 L1 N = some (.r1 w2 w3)) (k0 k1 k2 n : Nat) (hA : A = #[vp k0 0]) (hnd : ([k0, k1, k2] : List Nat).Nodup) (hlt : ∀ k ∈ ([k0, k1, k2] : List Nat), k < n) : ZeK A L0 L1 w2 w3 k0 k1 k2 n :=
 Zah hA (LSpec.callL (show LSpec Try.prog 63 #[vp 0 0] [.cells [vs 1 0 L0.length L0.length, vs 2 0 L1.length L1.length] 158, .cells (Zb eI L0) 155, .cells (Zb eI L1) 155] (vp 3 0) [some (.cells [vs 1 0 L0.length L0.length, vs 2 0 L1.length L1.length] 158), some (.cells (Zb eI L0) 155), some (.cells (Zb eI L1) 155), some (.cells [vs 4 0 w2.length w2.length, vs 5 0 w3.length w3.length] 158), some (.cells (Zb eI w2) 155), some (.cells (Zb eI w3) 155)] from Zg9 L0 L1 N _ h) [k0, k1, k2] n [3, 4, 5] rfl hnd hlt (show 3 ≤ 6 from by decide) (show ∀ j ∈ ([3, 4, 5] : List Nat), j < 6 from by decide) (by rfl) ⟨rfl, ⟨(ZC _ _ _), ⟨(ZC _ _ _), trivial⟩⟩⟩ (by rfl) ⟨rfl, ⟨(ZC _ _ _), ⟨(ZC _ _ _), ⟨rfl, ⟨(ZC _ _ _), ⟨(ZC _ _ _), trivial⟩⟩⟩⟩⟩⟩ ⟨.inr rfl, ⟨.inr rfl, ⟨.inr rfl, ⟨(by decide), ⟨(by decide), ⟨(by decide), trivial⟩⟩⟩⟩⟩⟩ rfl rfl rfl (Zd (ZB rfl rfl) (Zd (ZB rfl (ZU _ _ _)) (Zd (ZB rfl (ZU _ _ _)) rfl))) (Zd (ZB rfl (ZY rfl)) (Zd (ZB rfl (ZY (ZU _ _ _))) (Zd (ZB rfl (ZY (ZU _ _ _))) rfl))))

noncomputable def ZeL (a0 : Int) (L1 : List Int) : ZR → Value
 | .r0 => vn
 | .r1 w0 => vs 1 0 w0.length w0.length
noncomputable def Ze4 (a0 : Int) (L1 : List Int) : ZR → List (Option AObj)
 | .r0 => [some (.cells (Zk eI 64 [vi a0] L1 []) 171)]
 | .r1 w0 => [some (.cells (Zk eI 64 [vi a0] L1 []) 171), some (.cells (Zb eI w0) 3)]

def Zh9 : Z9 → Nat
 | .h1m0 => 1
 | .h1m1 v0 v2 => 1
noncomputable def Zic (a0 : Int) (L1 : List Int) : Z9 → List (Nat × Value)
 | .h1m0 => [(0, vp 0 0), (3, vn), (6, vi a0), (7, vq)]
 | .h1m1 v0 v2 => [(0, vp 0 0), (3, vs 1 0 v0.length v0.length), (6, vi a0), (7, vi (v2 : Int))]
noncomputable def Zid (a0 : Int) (L1 : List Int) : Z9 → List (Option AObj)
 | .h1m0 => [some (.cells (Zk eI 64 [vi a0] L1 []) 171)]
 | .h1m1 v0 v2 => [some (.cells (Zk eI 64 [vi a0] L1 []) 171), some (.cells (Zb eI v0) 3)]

noncomputable def ZaM : Nat → Code × List ZaE
 | 1 => Zda [1, 1, 0, 1, 3] (ZcF Try.f98) []
 | _ => (.skip, [])
def Ze5 : Nat → Bool
 | 1 => true
 | _ => true
noncomputable def ZeM (i : Nat) : List ZaE := match Ze5 i with | true => .rnd i :: (ZaM i).2 | false => (ZaM i).2

noncomputable def Zaa (a0 : Int) (L1 : List Int) (N : Nat) : Mach := ⟨Try.f98, [.cells (Zk eI 64 [vi a0] L1 []) 171], Z9, ZR, ZaF a0 L1 N, Zh9, ZaM, Ze5, Zic a0 L1, Zid a0 L1, ZeL a0 L1, Ze4 a0 L1⟩

theorem ZfH (a0 : Int) (L1 : List Int) (N : Nat) : (Zaa a0 L1 N).Ok Try.prog ZQ (.h1m0 : Z9) (ZaF a0 L1 N (.h1m0 : Z9)) := by
 show (Zaa a0 L1 N).Ok Try.prog ZQ (.h1m0 : Z9) (Zc3 a0 L1 N)
 unfold Zc3
 refine Mach.ok_ite (fun g0 => ?_) (fun g0 => ?_)
 ·
  exact Mach.ok_next (M := Zaa a0 L1 N) (cd := 1000000) (cm := 0) (y := (.h1m1 (([(L1.getD 0 0)] : List Int)) (1) : Z9)) (fu := 4000) (orc := (Zo [(0, true), (3, true)] [] [] [] [])) (live := [0, 2]) (tv := fun _ => [some (vp 0 0), some (vs 2 0 1 1), some (vi a0), some (vi 1)]) (bl := [some (.cells (Zk eI 64 [vi a0] L1 []) 171), some (.cells [vi (L1.getD 0 0)] 3)]) (ob := [((decide ((0 : Int) < a0)), true), ((decide ((0 : Int) < a0)), true)]) rfl (show 1 ∈ Zy (ZeM 1) from by decide +kernel) (fun gv => by kernel_rfl) (oY <| oY Zi) rfl (by decide) (by rfl) (fun _ => ⟨rr, ⟨⟨Eq.trans (show (vs 1 0 ([(L1.getD 0 0)] : List Int).length ([(L1.getD 0 0)] : List Int).length : Value) = vs 1 0 1 1 from (ZE rfl eqA eqA)) (by rfl), by rfl⟩, ⟨rr, ⟨⟨Eq.trans (show (vi ((1 : Nat) : Int) : Value) = vi 1 from (congrArg (Value.int .i64) (by first | rfl | omega))) (by rfl), by rfl⟩, trivial⟩⟩⟩⟩) ⟨⟨rfl, ⟨[], by kernel_rfl⟩, by kernel_rfl⟩, ⟨(ZeV (E := eI) _ (L := ([(L1.getD 0 0)] : List Int)) _ (show ([vi (L1.getD 0 0)] : List Value) = Zb eI ([(L1.getD 0 0)] : List Int) from rfl)), trivial⟩⟩
 ·
  exact Mach.ok_fin (M := Zaa a0 L1 N) (cd := 1000000) (cm := 0) (r := (.r0 : ZR)) (fu := 4000) (orc := (Zo [(0, false)] [] [] [] [])) (live := [0]) (u := vn) (bl := [some (.cells (Zk eI 64 [vi a0] L1 []) 171)]) (ob := [((decide ((0 : Int) < a0)), false)]) (fun gv => by kernel_rfl) (oN Zi) rfl (by decide) (by rfl) rr ⟨⟨rfl, ⟨[], by kernel_rfl⟩, by kernel_rfl⟩, trivial⟩

theorem ZfI (a0 : Int) (L1 v0 : List Int) (v2 N : Nat) : (Zaa a0 L1 N).Ok Try.prog ZQ (.h1m1 v0 v2 : Z9) (ZaF a0 L1 N (.h1m1 v0 v2 : Z9)) := by
 show (Zaa a0 L1 N).Ok Try.prog ZQ (.h1m1 v0 v2 : Z9) (Zc4 a0 L1 N v0 v2)
 unfold Zc4
 refine Mach.ok_ite (fun g0 => ?_) (fun g0 => ?_)
 ·
  refine Mach.ok_ite (fun g1 => ?_) (fun g1 => ?_)
  ·
   refine Mach.ok_ite (fun g2 => ?_) (fun g2 => ?_)
   ·
    refine Mach.ok_ite (fun g3 => ?_) (fun g3 => ?_)
    ·
     exact Mach.ok_next (M := Zaa a0 L1 N) (cd := 1000000) (cm := 0) (y := (.h1m1 ((v0 ++ ([(L1.getD v2 0)] : List Int))) ((v2 + 1)) : Z9)) (fu := 4000) (orc := (Zo [(0, true), (1, true), (3, true)] [(0, (((v2 + 1) : Nat) : Int))] [(0, v2)] [] [(0, .at (L1.getD v2 0) []), (1, .ap 1 [vi (L1.getD v2 0)] (Zb eI (v0 ++ ([(L1.getD v2 0)] : List Int))))])) (live := [0, 3]) (tv := fun _ => [some (vp 0 0), some (vs 3 0 (v0.length + 1) (v0.length + 1)), some (vi a0), some (vi (((v2 + 1) : Nat) : Int))]) (bl := [some (.cells (Zk eI 64 [vi a0] L1 []) 171), some (.cells (Zb eI (v0 ++ ([(L1.getD v2 0)] : List Int))) 3)]) (ob := [((IntKind.i64.wrap ((v2 : Int) + (1 : Int))) == (((v2 + 1) : Nat) : Int), true), (dP ((1 = 1 ∧ Zs (1 * 1) (List.drop 0 [vi (L1.getD v2 0)]) = some [vi (L1.getD v2 0)] ∧ Z4 Za4 [vi (L1.getD v2 0)] = true) ∧ 0 < 1 ∧ 1 ≤ 100000 ∧ v0.length < v0.length + 1 ∧ v0.length ≤ 100000 ∧ v0.length * 1 ≤ (List.length (Zb eI v0)) ∧ List.take (v0.length * 1) (Zb eI v0) ++ [vi (L1.getD v2 0)] = (Zb eI (v0 ++ ([(L1.getD v2 0)] : List Int)))), true), (dP (Zs 1 (List.drop ((1 + (v2 * 1)) + 0) (Zk eI 64 [vi a0] L1 [])) = some [vi (L1.getD v2 0)]), true), (Nat.blt v2 64, true), ((v2 : Int) == Int.ofNat v2, true), ((decide ((v2 : Int) < a0)), true), ((decide ((v2 : Int) ≥ (0 : Int))), true), ((decide ((v2 : Int) < a0)), true)]) rfl (show 1 ∈ Zy (ZeM 1) from by decide +kernel) (fun gv => by kernel_rfl) (Zc (beq_iff_eq.2 ((wrap_i64 ltA).trans (by first | rfl | omega))) <| Zc (Zm ⟨⟨rfl, ⟨rfl, rfl⟩⟩, by omega, by omega, ltA, by omega, (Zdc (E := eI) (L := v0) (M := ([(L1.getD v2 0)] : List Int)) (n := v0.length) (show _ = _ * 1 from rfl) (by omega) (R := (v0 ++ ([(L1.getD v2 0)] : List Int))) (by rw [List.take_of_length_le (by omega)]))⟩) <| Zc (Zm (Zl0 (E := eI) (L := L1) (n := 64) (p := 1) (i := v2) (q := 0) rfl (by omega) (show ((1 + (v2 * 1)) + 0) = 1 + v2 * 1 + 0 from by omega) (show 0 + 1 ≤ 1 from by decide) rfl)) <| oB <| oI <| oY <| oY <| oY Zi) rfl (by decide) (by rfl) (fun _ => ⟨rr, ⟨⟨Eq.trans (show (vs 1 0 (v0 ++ ([(L1.getD v2 0)] : List Int)).length (v0 ++ ([(L1.getD v2 0)] : List Int)).length : Value) = vs 1 0 (v0.length + 1) (v0.length + 1) from (ZE rfl eqA eqA)) (by rfl), by rfl⟩, ⟨rr, ⟨rr, trivial⟩⟩⟩⟩) ⟨⟨rfl, ⟨[], by kernel_rfl⟩, by kernel_rfl⟩, ⟨(Za (E := eI) (α := Int) _ (v0 ++ ([(L1.getD v2 0)] : List Int)) _), trivial⟩⟩
    ·
     exact Mach.ok_none
   ·
    exact Mach.ok_none
  ·
   exact Mach.ok_none
 ·
  exact Mach.ok_fin (M := Zaa a0 L1 N) (cd := 1000000) (cm := 0) (r := (.r1 (v0) : ZR)) (fu := 4000) (orc := (Zo [(0, false)] [] [] [] [])) (live := [0, 1]) (u := vs 1 0 v0.length v0.length) (bl := [some (.cells (Zk eI 64 [vi a0] L1 []) 171), some (.cells (Zb eI v0) 3)]) (ob := [((decide ((v2 : Int) < a0)), false)]) (fun gv => by kernel_rfl) (oN Zi) rfl (by decide) (by rfl) rr ⟨⟨rfl, ⟨[], by kernel_rfl⟩, by kernel_rfl⟩, ⟨(Za (E := eI) (α := Int) _ v0 _), trivial⟩⟩

theorem ZgL (a0 : Int) (L1 : List Int) (N : Nat) : (Zaa a0 L1 N).Enter Try.prog ZQ #[vp 0 0] (Zdf a0 L1 N) := by
 unfold Zdf
 exact Mach.en_head (bK := ZaM 1) (M := Zaa a0 L1 N) (cd := 1000000) (cm := 0) (y := (.h1m0 : Z9)) (fu := 4000) (orc := (Zo [] [] [] [] [])) (live := [0]) (tv := [some (vp 0 0), some (vn), some (vi a0), some (vq)]) (bl := [some (.cells (Zk eI 64 [vi a0] L1 []) 171)]) (ob := []) rfl rfl (show Zy (ZaM 1).2 = [] from rfl) (by kernel_rfl) Zi rfl (by decide) (by rfl) ⟨rr, ⟨rr, ⟨rr, ⟨rr, trivial⟩⟩⟩⟩ ⟨⟨rfl, ⟨[], by kernel_rfl⟩, by kernel_rfl⟩, trivial⟩

theorem ZdK (a0 : Int) (L1 : List Int) (N : Nat) (r : ZR) (h : ZbP a0 L1 N = some r) : LSpec Try.prog 98 #[vp 0 0] [.cells (Zk eI 64 [vi a0] L1 []) 171] (ZeL a0 L1 r) (Ze4 a0 L1 r) :=
 Mach.spec Zw (Zaa a0 L1 N) Try.func98 (by kernel_rfl) (by kernel_rfl) (fun x => by cases x <;> exact Zu _ rfl) (fun r => by cases r <;> exact Zu _ rfl) (fun x => by
  cases x with
  | h1m0 => exact fun _ => (show ¬ (1 ∈ Zy (ZaM 1).2) from by decide +kernel)
  | h1m1 _ _ => exact fun _ => (show ¬ (1 ∈ Zy (ZaM 1).2) from by decide +kernel)
  ) (fun x => (show (Zaa a0 L1 N).Ok Try.prog ZQ x (ZaF a0 L1 N x) from by
  cases x with
  | h1m0 => exact ZfH a0 L1 N
  | h1m1 v0 v2 => exact ZfI a0 L1 v0 v2 N
  )) (ZgL a0 L1 N) (n := N) h

noncomputable def ZhA (a0 : Int) (L1 : List Int) (k0 n : Nat) : ZaD := .call [(k0, .cells (Zk eI 64 [vi a0] L1 []) 171)] (vn) [] 0
def Ze6 (A : Array Value) (a0 : Int) (L1 : List Int) (k0 n : Nat) : Prop := ZH Try.prog 98 A [(k0, .cells (Zk eI 64 [vi a0] L1 []) 171)] (vn) [] n 0

theorem ZhB (A : Array Value) (a0 : Int) (L1 : List Int) (N : Nat) (h : ZbP a0 L1 N = some (.r0)) (k0 n : Nat) (hA : A = #[vp k0 0]) (hnd : ([k0] : List Nat).Nodup) (hlt : ∀ k ∈ ([k0] : List Nat), k < n) : Ze6 A a0 L1 k0 n :=
 Zah hA (LSpec.callL (show LSpec Try.prog 98 #[vp 0 0] [.cells (Zk eI 64 [vi a0] L1 []) 171] (vn) [some (.cells (Zk eI 64 [vi a0] L1 []) 171)] from ZdK a0 L1 N _ h) [k0] n [] rfl hnd hlt (show 1 ≤ 1 from by decide) (show ∀ j ∈ ([] : List Nat), j < 1 from by decide) (by rfl) ⟨(by kernel_rfl), trivial⟩ (by rfl) ⟨(by kernel_rfl), trivial⟩ ⟨.inr rfl, trivial⟩ rfl rfl rfl (Zd (ZB rfl (by kernel_rfl)) rfl) rfl)

noncomputable def ZhC (a0 : Int) (L1 w0 : List Int) (k0 n : Nat) : ZaD := .call [(k0, .cells (Zk eI 64 [vi a0] L1 []) 171)] (vs n 0 w0.length w0.length) [(n, some (.cells (Zb eI w0) 3))] 1
def Ze7 (A : Array Value) (a0 : Int) (L1 w0 : List Int) (k0 n : Nat) : Prop := ZH Try.prog 98 A [(k0, .cells (Zk eI 64 [vi a0] L1 []) 171)] (vs n 0 w0.length w0.length) [(n, some (.cells (Zb eI w0) 3))] n 1

theorem ZhD (A : Array Value) (a0 : Int) (L1 w0 : List Int) (N : Nat) (h : ZbP a0 L1 N = some (.r1 w0)) (k0 n : Nat) (hA : A = #[vp k0 0]) (hnd : ([k0] : List Nat).Nodup) (hlt : ∀ k ∈ ([k0] : List Nat), k < n) : Ze7 A a0 L1 w0 k0 n :=
 Zah hA (LSpec.callL (show LSpec Try.prog 98 #[vp 0 0] [.cells (Zk eI 64 [vi a0] L1 []) 171] (vs 1 0 w0.length w0.length) [some (.cells (Zk eI 64 [vi a0] L1 []) 171), some (.cells (Zb eI w0) 3)] from ZdK a0 L1 N _ h) [k0] n [1] rfl hnd hlt (show 1 ≤ 2 from by decide) (show ∀ j ∈ ([1] : List Nat), j < 2 from by decide) (by rfl) ⟨(by kernel_rfl), trivial⟩ (by rfl) ⟨(by kernel_rfl), ⟨(ZC _ _ _), trivial⟩⟩ ⟨.inr rfl, ⟨(by decide), trivial⟩⟩ rfl rfl rfl (Zd (ZB rfl (by kernel_rfl)) rfl) (Zd (ZB rfl (ZY (ZU _ _ _))) rfl))

noncomputable def ZeN (a0 : Int) (L1 : List Int) : ZK → Value
 | .r0 => Value.pointer none
 | .r1 w3 => vp 1 0
noncomputable def Ze8 (a0 : Int) (L1 : List Int) : ZK → List (Option AObj)
 | .r0 => [some (.cells (Zk eI 64 [vi a0] L1 []) 171)]
 | .r1 w3 => [some (.cells (Zk eI 64 [vi a0] L1 []) 171), some (.cells (Zk eI 64 [vi a0] w3 []) 171)]

def ZhE : ZA → Nat
 | .h1m0 => 1
 | .h1m1 v0 v1 v2 v6 => 1
noncomputable def Zie (a0 : Int) (L1 : List Int) : ZA → List (Nat × Value)
 | .h1m0 => [(3, vp 1 0), (16, vn), (17, vq), (18, vq)]
 | .h1m1 v0 v1 v2 v6 => [(3, vp 1 0), (16, vs 2 0 v0.length v0.length), (17, vi (v1 : Int)), (18, vi (v2 : Int))]
noncomputable def Zif (a0 : Int) (L1 : List Int) : ZA → List (Option AObj)
 | .h1m0 => [some (.cells (Zk eI 64 [vi a0] L1 []) 171), some (.cells (Zk eI 64 [vi a0] (List.replicate 64 (0 : Int)) []) 171)]
 | .h1m1 v0 v1 v2 v6 => [some (.cells (Zk eI 64 [vi a0] L1 []) 171), some (.cells (Zk eI 64 [vi a0] v6 []) 171), some (.cells (Zb eI v0) 3)]

noncomputable def Zas : Nat → Code × List ZaE
 | 1 => Zda [1, 1, 1, 0, 1, 3] (ZcF Try.f65) []
 | _ => (.skip, [])
def Ze9 : Nat → Bool
 | 1 => true
 | _ => true
noncomputable def Zig (i : Nat) : List ZaE := match Ze9 i with | true => .rnd i :: (Zas i).2 | false => (Zas i).2

noncomputable def ZS (a0 : Int) (L1 : List Int) (N : Nat) : Mach := ⟨Try.f65, [.cells (Zk eI 64 [vi a0] L1 []) 171], ZA, ZK, ZaG a0 L1 N, ZhE, Zas, Ze9, Zie a0 L1, Zif a0 L1, ZeN a0 L1, Ze8 a0 L1⟩

theorem ZfJ (a0 : Int) (L1 : List Int) (N : Nat) : (ZS a0 L1 N).Ok Try.prog ZQ (.h1m0 : ZA) (ZaG a0 L1 N (.h1m0 : ZA)) := by
 show (ZS a0 L1 N).Ok Try.prog ZQ (.h1m0 : ZA) (Zc5 a0 L1 N)
 unfold Zc5
 exact Mach.ok_fin (M := ZS a0 L1 N) (cd := 1000000) (cm := 0) (r := (.r1 ((List.replicate 64 (0 : Int))) : ZK)) (fu := 4000) (orc := (Zo [] [] [] [] [])) (live := [0, 1]) (u := vp 1 0) (bl := [some (.cells (Zk eI 64 [vi a0] L1 []) 171), some (.cells (Zk eI 64 [vi a0] (List.replicate 64 (0 : Int)) []) 171)]) (ob := []) (fun gv => by kernel_rfl) Zi rfl (by decide) (by rfl) rr ⟨⟨rfl, ⟨[], by kernel_rfl⟩, by kernel_rfl⟩, ⟨⟨rfl, ⟨[], by kernel_rfl⟩, by kernel_rfl⟩, trivial⟩⟩

end Ev
end Go.Proofs.Ytfbpdjledonagaa
/- Calls do what the plain functions say. -/
namespace Go.Proofs.Ytfbpdjledonagaa
open Go.RowKit
namespace Ev
set_option linter.unusedVariables false
set_option maxRecDepth 100000
theorem ZfK (a0 : Int) (L1 v0 : List Int) (v1 v2 : Nat) (v6 : List Int) (N : Nat) : (ZS a0 L1 N).Ok Try.prog ZQ (.h1m1 v0 v1 v2 v6 : ZA) (ZaG a0 L1 N (.h1m1 v0 v1 v2 v6 : ZA)) := by
 show (ZS a0 L1 N).Ok Try.prog ZQ (.h1m1 v0 v1 v2 v6 : ZA) (Zc6 a0 L1 N v0 v1 v2 v6)
 unfold Zc6
 refine Mach.ok_ite (fun g0 => ?_) (fun g0 => ?_)
 ·
  refine Mach.ok_ite (fun g1 => ?_) (fun g1 => ?_)
  ·
   refine Mach.ok_ite (fun g2 => ?_) (fun g2 => ?_)
   ·
    refine Mach.ok_ite (fun g3 => ?_) (fun g3 => ?_)
    ·
     exact Mach.ok_next (M := ZS a0 L1 N) (cd := 1000000) (cm := 0) (y := (.h1m1 (v0) (v1) ((v2 + 1)) ((v6.set v2 (v0.getD v2 0))) : ZA)) (fu := 4000) (orc := (Zo [(0, true)] [(0, (((v2 + 1) : Nat) : Int))] [(0, v2), (1, v2)] [(0, [.i (v0.getD v2 0)])] [(0, .at (v6.getD v2 0) (Zk eI 64 [vi a0] (v6.set v2 (v0.getD v2 0)) []))])) (live := [0, 1, 2]) (tv := fun _ => [some (vp 1 0), some (vs 2 0 v0.length v0.length), some (vi (v1 : Int)), some (vi (((v2 + 1) : Nat) : Int))]) (bl := [some (.cells (Zk eI 64 [vi a0] L1 []) 171), some (.cells (Zk eI 64 [vi a0] (v6.set v2 (v0.getD v2 0)) []) 171), some (.cells (Zb eI v0) 3)]) (ob := [((IntKind.i64.wrap ((v2 : Int) + (1 : Int))) == (((v2 + 1) : Nat) : Int), true), (dP (Zs 1 (List.drop ((1 + (v2 * 1)) + 0) (Zk eI 64 [vi a0] v6 [])) = some [vi (v6.getD v2 0)] ∧ ((1 + (v2 * 1)) + 0) + 1 ≤ ((Zk eI 64 [vi a0] v6 []) : List Value).length ∧ Zbg (Zk eI 64 [vi a0] v6 []) ((1 + (v2 * 1)) + 0) [vi (v0.getD v2 0)] = (Zk eI 64 [vi a0] (v6.set v2 (v0.getD v2 0)) [])), true), (Nat.blt v2 64, true), ((v2 : Int) == Int.ofNat v2, true), (Z0 (Zs 1 (List.drop (0 + (v2 * 1)) (Zb eI v0))) [.i (v0.getD v2 0)], true), (Nat.blt v2 v0.length, true), ((v2 : Int) == Int.ofNat v2, true), ((decide ((v2 : Int) < (v1 : Int))), true)]) rfl (show 1 ∈ Zy (Zig 1) from by decide +kernel) (fun gv => by kernel_rfl) (Zc (beq_iff_eq.2 ((wrap_i64 ltA).trans (by first | rfl | omega))) <| Zc (Zm ⟨(Zl0 (E := eI) (L := v6) (n := 64) (p := 1) (i := v2) (q := 0) rfl (by omega) (show ((1 + (v2 * 1)) + 0) = 1 + v2 * 1 + 0 from by omega) (show 0 + 1 ≤ 1 from by decide) rfl), (Zgc (E := eI) (L := v6) (n := 64) (p := 1) (i := v2) (q := 0) (l := [vi (v0.getD v2 0)]) (v0.getD v2 0) rfl (by omega) (by omega) (show ((1 + (v2 * 1)) + 0) = 1 + v2 * 1 + 0 from by omega) (show 0 + 1 ≤ 1 from by decide) rfl)⟩) <| oB <| oI <| Zc (ZD (E := eI) (L := v0) (i := v2) (q := 0) (by omega) (show (0 + (v2 * 1)) = v2 * 1 + 0 from by omega) (show 0 + 1 ≤ 1 from by decide) rfl rfl) <| oB <| oI <| oY Zi) rfl (by decide) (by rfl) (fun _ => ⟨rr, ⟨rr, ⟨rr, ⟨rr, trivial⟩⟩⟩⟩) ⟨⟨rfl, ⟨[], by kernel_rfl⟩, by kernel_rfl⟩, ⟨⟨rfl, ⟨[], by kernel_rfl⟩, by kernel_rfl⟩, ⟨(Za (E := eI) (α := Int) _ v0 _), trivial⟩⟩⟩
    ·
     exact Mach.ok_none
   ·
    exact Mach.ok_none
  ·
   exact Mach.ok_none
 ·
  exact Mach.ok_fin (M := ZS a0 L1 N) (cd := 1000000) (cm := 0) (r := (.r1 (v6) : ZK)) (fu := 4000) (orc := (Zo [(0, false)] [] [] [] [])) (live := [0, 1]) (u := vp 1 0) (bl := [some (.cells (Zk eI 64 [vi a0] L1 []) 171), some (.cells (Zk eI 64 [vi a0] v6 []) 171)]) (ob := [((decide ((v2 : Int) < (v1 : Int))), false)]) (fun gv => by kernel_rfl) (oN Zi) rfl (by decide) (by rfl) rr ⟨⟨rfl, ⟨[], by kernel_rfl⟩, by kernel_rfl⟩, ⟨⟨rfl, ⟨[], by kernel_rfl⟩, by kernel_rfl⟩, trivial⟩⟩

theorem ZgM (a0 : Int) (L1 : List Int) (N : Nat) : (ZS a0 L1 N).Enter Try.prog ZQ #[vp 0 0] (Zdg a0 L1 N) := by
 unfold Zdg
 refine Mach.en_ite (fun g0 => ?_) (fun g0 => ?_)
 ·
  exact Mach.en_fin (M := ZS a0 L1 N) (cd := 1000000) (cm := 0) (r := (.r0 : ZK)) (fu := 4000) (orc := (Zo [(1, true)] [] [] [] [])) (live := [0]) (u := Value.pointer none) (bl := [some (.cells (Zk eI 64 [vi a0] L1 []) 171)]) (ob := [((a0 == (0 : Int)), true)]) (by kernel_rfl) (oT Zi) rfl (by decide) (by rfl) rr ⟨⟨rfl, ⟨[], by kernel_rfl⟩, by kernel_rfl⟩, trivial⟩
 ·
  refine Mach.en_bind (fun z1 c1 => ?_)
  cases z1 with
  | r0 =>
   exact Mach.en_head (bK := Zas 1) (M := ZS a0 L1 N) (cd := 1000000) (cm := 0) (y := (.h1m0 : ZA)) (fu := 4000) (orc := (Zo [(1, false)] [] [] [] [(0, (ZhA (a0) (L1)   0 2))])) (live := [0, 1]) (tv := [some (vp 1 0), some (vn), some (vq), some (vq)]) (bl := [some (.cells (Zk eI 64 [vi a0] L1 []) 171), some (.cells (Zk eI 64 [vi a0] (List.replicate 64 (0 : Int)) []) 171)]) (ob := [(dP (Ze6 #[vp 0 0] (a0) (L1)   0 2), true), (dS (Zk eI 64 [vi a0] L1 []), true), ((a0 == (0 : Int)), false)]) rfl rfl (show Zy (Zas 1).2 = [] from rfl) (by kernel_rfl) (Zc (Zm (ZhB #[vp 0 0] (a0) (L1)   N c1 0 2 rfl (by decide) (by decide))) <| oR <| oF Zi) rfl (by decide) (by rfl) ⟨rr, ⟨rr, ⟨rr, ⟨rr, trivial⟩⟩⟩⟩ ⟨⟨rfl, ⟨[], by kernel_rfl⟩, by kernel_rfl⟩, ⟨⟨rfl, ⟨[], by kernel_rfl⟩, by kernel_rfl⟩, trivial⟩⟩
  | r1 y1_0 =>
   exact Mach.en_head (bK := Zas 1) (M := ZS a0 L1 N) (cd := 1000000) (cm := 0) (y := (.h1m1 (y1_0) (y1_0.length) (0) ((List.replicate 64 (0 : Int))) : ZA)) (fu := 4000) (orc := (Zo [(1, false)] [] [] [] [(0, (ZhC (a0) (L1)  y1_0 0 2))])) (live := [0, 1, 2]) (tv := [some (vp 1 0), some (vs 2 0 y1_0.length y1_0.length), some (vi (y1_0.length : Int)), some (vq)]) (bl := [some (.cells (Zk eI 64 [vi a0] L1 []) 171), some (.cells (Zk eI 64 [vi a0] (List.replicate 64 (0 : Int)) []) 171), some (.cells (Zb eI y1_0) 3)]) (ob := [(dP (Ze7 #[vp 0 0] (a0) (L1)  y1_0 0 2), true), (dS (Zk eI 64 [vi a0] L1 []), true), ((a0 == (0 : Int)), false)]) rfl rfl (show Zy (Zas 1).2 = [] from rfl) (by kernel_rfl) (Zc (Zm (ZhD #[vp 0 0] (a0) (L1)  y1_0 N c1 0 2 rfl (by decide) (by decide))) <| oR <| oF Zi) rfl (by decide) (by rfl) ⟨rr, ⟨rr, ⟨rr, ⟨⟨Eq.trans (show (vi ((0 : Nat) : Int) : Value) = vq from (congrArg (Value.int .i64) (by first | rfl | omega))) (by rfl), by rfl⟩, trivial⟩⟩⟩⟩ ⟨⟨rfl, ⟨[], by kernel_rfl⟩, by kernel_rfl⟩, ⟨⟨rfl, ⟨[], by kernel_rfl⟩, by kernel_rfl⟩, ⟨(Za (E := eI) (α := Int) _ y1_0 _), trivial⟩⟩⟩

theorem Zgk (a0 : Int) (L1 : List Int) (N : Nat) (r : ZK) (h : ZcI a0 L1 N = some r) : LSpec Try.prog 65 #[vp 0 0] [.cells (Zk eI 64 [vi a0] L1 []) 171] (ZeN a0 L1 r) (Ze8 a0 L1 r) :=
 Mach.spec Zw (ZS a0 L1 N) Try.func65 (by kernel_rfl) (by kernel_rfl) (fun x => by cases x <;> exact Zu _ rfl) (fun r => by cases r <;> exact Zu _ rfl) (fun x => by
  cases x with
  | h1m0 => exact fun _ => (show ¬ (1 ∈ Zy (Zas 1).2) from by decide +kernel)
  | h1m1 _ _ _ _ => exact fun _ => (show ¬ (1 ∈ Zy (Zas 1).2) from by decide +kernel)
  ) (fun x => (show (ZS a0 L1 N).Ok Try.prog ZQ x (ZaG a0 L1 N x) from by
  cases x with
  | h1m0 => exact ZfJ a0 L1 N
  | h1m1 v0 v1 v2 v6 => exact ZfK a0 L1 v0 v1 v2 v6 N
  )) (ZgM a0 L1 N) (n := N) h

noncomputable def ZhF (a0 : Int) (L1 w3 : List Int) (k0 n : Nat) : ZaD := .call [(k0, .cells (Zk eI 64 [vi a0] L1 []) 171)] (vp n 0) [(n, some (.cells (Zk eI 64 [vi a0] w3 []) 171))] 1
def ZeA (A : Array Value) (a0 : Int) (L1 w3 : List Int) (k0 n : Nat) : Prop := ZH Try.prog 65 A [(k0, .cells (Zk eI 64 [vi a0] L1 []) 171)] (vp n 0) [(n, some (.cells (Zk eI 64 [vi a0] w3 []) 171))] n 1

theorem ZhG (A : Array Value) (a0 : Int) (L1 w3 : List Int) (N : Nat) (h : ZcI a0 L1 N = some (.r1 w3)) (k0 n : Nat) (hA : A = #[vp k0 0]) (hnd : ([k0] : List Nat).Nodup) (hlt : ∀ k ∈ ([k0] : List Nat), k < n) : ZeA A a0 L1 w3 k0 n :=
 Zah hA (LSpec.callL (show LSpec Try.prog 65 #[vp 0 0] [.cells (Zk eI 64 [vi a0] L1 []) 171] (vp 1 0) [some (.cells (Zk eI 64 [vi a0] L1 []) 171), some (.cells (Zk eI 64 [vi a0] w3 []) 171)] from Zgk a0 L1 N _ h) [k0] n [1] rfl hnd hlt (show 1 ≤ 2 from by decide) (show ∀ j ∈ ([1] : List Nat), j < 2 from by decide) (by rfl) ⟨(by kernel_rfl), trivial⟩ (by rfl) ⟨(by kernel_rfl), ⟨(by kernel_rfl), trivial⟩⟩ ⟨.inr rfl, ⟨(by decide), trivial⟩⟩ rfl rfl rfl (Zd (ZB rfl (by kernel_rfl)) rfl) (Zd (ZB rfl (ZY (by kernel_rfl))) rfl))

noncomputable def Zgl (a0 a1 a2 a3 a4 a5 a6 a7 : Int) (L8 : List RC) : Zn → Value
 | .r0 w0 => Value.bool w0
noncomputable def Zf8 (a0 a1 a2 a3 a4 a5 a6 a7 : Int) (L8 : List RC) : Zn → List (Option AObj)
 | .r0 w0 => []

def Zj2 : Zf → Nat
 | .h1m0 => 1
 | .h1m1 v2 v11 v28 v32 v36 v37 v42 => 1
 | .h2m0 v2 v11 v28 v32 v33 v34 v35 v36 v37 v41 v42 v47 => 2
 | .h3m0 v2 v3 v12 v29 v33 v34 v35 v36 v37 v38 v42 v43 v48 => 3
 | .h4m0 v2 v3 v12 v29 v33 v34 v35 v36 v37 v38 v42 v43 v48 => 4
 | .h5m0 v2 v3 v12 v29 v33 v34 v35 v36 v37 v38 v42 v43 v48 => 5
 | .h6m0 v2 v5 v14 v31 v35 v36 v37 v38 v39 v40 v44 v45 v50 => 6
 | .h7m0 v2 v3 v4 v13 v30 v34 v35 v36 v37 v38 v39 v43 v44 v49 => 7
 | .h8m0 v2 v13 v30 v34 v35 v36 v37 v38 v39 v41 v52 v53 v58 v71 v72 v77 => 8
 | .h9m0 v2 v13 v30 v34 v35 v36 v37 v38 v39 v41 v52 v53 v58 v71 v72 v77 => 9
noncomputable def ZjO (a0 a1 a2 a3 a4 a5 a6 a7 : Int) (L8 : List RC) : Zf → List (Nat × Value)
 | .h1m0 => [(1, vi a7), (2, ms E_iiiib L8), (3, vp 0 0), (7, Value.pointer none), (9, vp 1 0), (11, vq)]
 | .h1m1 v2 v11 v28 v32 v36 v37 v42 => [(1, vi a7), (2, ms E_iiiib L8), (3, vp 0 0), (7, vp 1 0), (9, vp 2 0), (11, vi (v2 : Int))]
 | .h2m0 v2 v11 v28 v32 v33 v34 v35 v36 v37 v41 v42 v47 => [(1, vi a7), (2, ms E_iiiib L8), (3, vp 0 0), (7, vp 1 0), (9, vp 2 0), (11, vi (v2 : Int)), (12, vp 3 0)]
 | .h3m0 v2 v3 v12 v29 v33 v34 v35 v36 v37 v38 v42 v43 v48 => [(1, vi a7), (2, ms E_iiiib L8), (3, vp 0 0), (7, vp 1 0), (9, vp 2 0), (11, vi (v2 : Int)), (12, vp 3 0), (13, vi (v3 : Int))]
 | .h4m0 v2 v3 v12 v29 v33 v34 v35 v36 v37 v38 v42 v43 v48 => [(1, vi a7), (2, ms E_iiiib L8), (3, vp 0 0), (7, vp 1 0), (9, vp 2 0), (11, vi (v2 : Int)), (12, vp 3 0), (13, vi (v3 : Int))]
 | .h5m0 v2 v3 v12 v29 v33 v34 v35 v36 v37 v38 v42 v43 v48 => [(1, vi a7), (2, ms E_iiiib L8), (3, vp 0 0), (7, vp 1 0), (9, vp 2 0), (11, vi (v2 : Int)), (12, vp 3 0), (13, vi (v3 : Int))]
 | .h6m0 v2 v5 v14 v31 v35 v36 v37 v38 v39 v40 v44 v45 v50 => [(1, vi a7), (2, ms E_iiiib L8), (3, vp 0 0), (7, vp 1 0), (9, vp 2 0), (11, vi (v2 : Int)), (12, vp 3 0), (13, vq), (14, vq), (15, Value.bool v5)]
 | .h7m0 v2 v3 v4 v13 v30 v34 v35 v36 v37 v38 v39 v43 v44 v49 => [(1, vi a7), (2, ms E_iiiib L8), (3, vp 0 0), (7, vp 1 0), (9, vp 2 0), (11, vi (v2 : Int)), (12, vp 3 0), (13, vi (v3 : Int)), (14, vi (v4 : Int))]
 | .h8m0 v2 v13 v30 v34 v35 v36 v37 v38 v39 v41 v52 v53 v58 v71 v72 v77 => [(1, vi a7), (2, ms E_iiiib L8), (3, vp 0 0), (7, vp 1 0), (9, vp 2 0), (11, vi (v2 : Int)), (12, vp 3 0), (13, vq), (14, vq), (18, vp 4 0)]
 | .h9m0 v2 v13 v30 v34 v35 v36 v37 v38 v39 v41 v52 v53 v58 v71 v72 v77 => [(1, vi a7), (2, ms E_iiiib L8), (3, vp 0 0), (7, vp 1 0), (9, vp 2 0), (11, vi (v2 : Int)), (12, vp 3 0), (13, vq), (14, vq), (18, vp 4 0)]
noncomputable def ZjP (a0 a1 a2 a3 a4 a5 a6 a7 : Int) (L8 : List RC) : Zf → List (Option AObj)
 | .h1m0 => [some (.cells [vi a0, vi a1, vi a2, vi a3, vi a4, vi a5, vi a6] 24), some (kzc)]
 | .h1m1 v2 v11 v28 v32 v36 v37 v42 => [some (.cells [vi a0, vi a1, vi a2, vi a3, vi a4, vi a5, vi a6] 24), some (.cells (Zk Ze 64 [vi a7] v11 [vi a0, vi a1, vi a2, vi a3, vi a4, vi a5, vi a6, vp 3 0, vp 4 0, vp 5 0, vp 6 0]) 111), some (.cells [vi a0, vi a1, vi a2, vi a3, vi a4, vi a5, vi a6, vi a0, vs 7 0 1 1, vn, vs 8 0 (a1).toNat (a1).toNat, vi v28, vq, vq, vs 9 0 (a7).toNat (a7).toNat, vs 10 0 v32.length v32.length] 43), some (.cells [vi a0, vs 11 0 17 17, vs 12 0 17 17, vn, vn, vn, vn, vn, vn, vn, vn, vn, vn, vn, vn, vn, vn, vn, vn, vn] 134), some (.cells [vs 13 0 v36.length v36.length, vs 14 0 v37.length v37.length] 158), some (.cells [vi a4, vq, vq] 163), some (.cells (Zk eI 64 [vi a7] v42 []) 171), some (kzd), some (.cells (Zb Zp (List.replicate (a1).toNat (⟨(0 : Int), (0 : Int), (0 : Int)⟩ : RB))) 89), some (.cells (Zb eI (List.replicate (a7).toNat (0 : Int))) 3), some (.cells (Zb Ze v32) 63), some (.cells (Zb Zl klc) 129), some (.cells (Zb Zj kla) 72), some (.cells (Zb eI v36) 155), some (.cells (Zb eI v37) 155), some (.cells (Zb Zj klb) 72)]
 | .h2m0 v2 v11 v28 v32 v33 v34 v35 v36 v37 v41 v42 v47 => [some (.cells [vi a0, vi a1, vi a2, vi a3, vi a4, vi a5, vi a6] 24), some (.cells (Zk Ze 64 [vi a7] v11 [vi a0, vi a1, vi a2, vi a3, vi a4, vi a5, vi a6, vp 4 0, vp 5 0, vp 6 0, vp 7 0]) 111), some (.cells [vi a0, vi a1, vi a2, vi a3, vi a4, vi a5, vi a6, vi a0, vs 8 0 1 1, vn, vs 9 0 (a1).toNat (a1).toNat, vi v28, vq, vq, vs 10 0 (a7).toNat (a7).toNat, vs 11 0 v32.length v32.length] 43), some (.cells [vi v33, vi v34, vi v35, vi v36, Value.bool v37] 50), some (.cells [vi a0, vs 12 0 17 17, vs 13 0 17 17, vn, vn, vn, vn, vn, vn, vn, vn, vn, vn, vn, vn, vn, vn, vn, vn, vn] 134), some (.cells [vs 14 0 v41.length v41.length, vs 15 0 v42.length v42.length] 158), some (.cells [vi a4, vq, vq] 163), some (.cells (Zk eI 64 [vi a7] v47 []) 171), some (kza), some (.cells (Zb Zp (List.replicate (a1).toNat (⟨(0 : Int), (0 : Int), (0 : Int)⟩ : RB))) 89), some (.cells (Zb eI (List.replicate (a7).toNat (0 : Int))) 3), some (.cells (Zb Ze v32) 63), some (.cells (Zb Zl klc) 129), some (.cells (Zb Zj kla) 72), some (.cells (Zb eI v41) 155), some (.cells (Zb eI v42) 155), some (.cells (Zb Zj klb) 72)]
 | .h3m0 v2 v3 v12 v29 v33 v34 v35 v36 v37 v38 v42 v43 v48 => [some (.cells [vi a0, vi a1, vi a2, vi a3, vi a4, vi a5, vi a6] 24), some (.cells (Zk Ze 64 [vi a7] v12 [vi a0, vi a1, vi a2, vi a3, vi a4, vi a5, vi a6, vp 4 0, vp 5 0, vp 6 0, vp 7 0]) 111), some (.cells [vi a0, vi a1, vi a2, vi a3, vi a4, vi a5, vi a6, vi a0, vs 8 0 1 1, vn, vs 9 0 (a1).toNat (a1).toNat, vi v29, vq, vq, vs 10 0 (a7).toNat (a7).toNat, vs 11 0 v33.length v33.length] 43), some (.cells [vi v34, vi v35, vi v36, vi v37, Value.bool v38] 50), some (.cells [vi a0, vs 12 0 17 17, vs 13 0 17 17, vn, vn, vn, vn, vn, vn, vn, vn, vn, vn, vn, vn, vn, vn, vn, vn, vn] 134), some (.cells [vs 14 0 v42.length v42.length, vs 15 0 v43.length v43.length] 158), some (.cells [vi a4, vq, vq] 163), some (.cells (Zk eI 64 [vi a7] v48 []) 171), some (kza), some (.cells (Zb Zp (List.replicate (a1).toNat (⟨(0 : Int), (0 : Int), (0 : Int)⟩ : RB))) 89), some (.cells (Zb eI (List.replicate (a7).toNat (0 : Int))) 3), some (.cells (Zb Ze v33) 63), some (.cells (Zb Zl klc) 129), some (.cells (Zb Zj kla) 72), some (.cells (Zb eI v42) 155), some (.cells (Zb eI v43) 155), some (.cells (Zb Zj klb) 72)]
 | .h4m0 v2 v3 v12 v29 v33 v34 v35 v36 v37 v38 v42 v43 v48 => [some (.cells [vi a0, vi a1, vi a2, vi a3, vi a4, vi a5, vi a6] 24), some (.cells (Zk Ze 64 [vi a7] v12 [vi a0, vi a1, vi a2, vi a3, vi a4, vi a5, vi a6, vp 4 0, vp 5 0, vp 6 0, vp 7 0]) 111), some (.cells [vi a0, vi a1, vi a2, vi a3, vi a4, vi a5, vi a6, vi a0, vs 8 0 1 1, vn, vs 9 0 (a1).toNat (a1).toNat, vi v29, vq, vq, vs 10 0 (a7).toNat (a7).toNat, vs 11 0 v33.length v33.length] 43), some (.cells [vi v34, vi v35, vi v36, vi v37, Value.bool v38] 50), some (.cells [vi a0, vs 12 0 17 17, vs 13 0 17 17, vn, vn, vn, vn, vn, vn, vn, vn, vn, vn, vn, vn, vn, vn, vn, vn, vn] 134), some (.cells [vs 14 0 v42.length v42.length, vs 15 0 v43.length v43.length] 158), some (.cells [vi a4, vq, vq] 163), some (.cells (Zk eI 64 [vi a7] v48 []) 171), some (kza), some (.cells (Zb Zp (List.replicate (a1).toNat (⟨(0 : Int), (0 : Int), (0 : Int)⟩ : RB))) 89), some (.cells (Zb eI (List.replicate (a7).toNat (0 : Int))) 3), some (.cells (Zb Ze v33) 63), some (.cells (Zb Zl klc) 129), some (.cells (Zb Zj kla) 72), some (.cells (Zb eI v42) 155), some (.cells (Zb eI v43) 155), some (.cells (Zb Zj klb) 72)]
 | .h5m0 v2 v3 v12 v29 v33 v34 v35 v36 v37 v38 v42 v43 v48 => [some (.cells [vi a0, vi a1, vi a2, vi a3, vi a4, vi a5, vi a6] 24), some (.cells (Zk Ze 64 [vi a7] v12 [vi a0, vi a1, vi a2, vi a3, vi a4, vi a5, vi a6, vp 4 0, vp 5 0, vp 6 0, vp 7 0]) 111), some (.cells [vi a0, vi a1, vi a2, vi a3, vi a4, vi a5, vi a6, vi a0, vs 8 0 1 1, vn, vs 9 0 (a1).toNat (a1).toNat, vi v29, vq, vq, vs 10 0 (a7).toNat (a7).toNat, vs 11 0 v33.length v33.length] 43), some (.cells [vi v34, vi v35, vi v36, vi v37, Value.bool v38] 50), some (.cells [vi a0, vs 12 0 17 17, vs 13 0 17 17, vn, vn, vn, vn, vn, vn, vn, vn, vn, vn, vn, vn, vn, vn, vn, vn, vn] 134), some (.cells [vs 14 0 v42.length v42.length, vs 15 0 v43.length v43.length] 158), some (.cells [vi a4, vq, vq] 163), some (.cells (Zk eI 64 [vi a7] v48 []) 171), some (kza), some (.cells (Zb Zp (List.replicate (a1).toNat (⟨(0 : Int), (0 : Int), (0 : Int)⟩ : RB))) 89), some (.cells (Zb eI (List.replicate (a7).toNat (0 : Int))) 3), some (.cells (Zb Ze v33) 63), some (.cells (Zb Zl klc) 129), some (.cells (Zb Zj kla) 72), some (.cells (Zb eI v42) 155), some (.cells (Zb eI v43) 155), some (.cells (Zb Zj klb) 72)]
 | .h6m0 v2 v5 v14 v31 v35 v36 v37 v38 v39 v40 v44 v45 v50 => [some (.cells [vi a0, vi a1, vi a2, vi a3, vi a4, vi a5, vi a6] 24), some (.cells (Zk Ze 64 [vi a7] v14 [vi a0, vi a1, vi a2, vi a3, vi a4, vi a5, vi a6, vp 4 0, vp 5 0, vp 6 0, vp 7 0]) 111), some (.cells [vi a0, vi a1, vi a2, vi a3, vi a4, vi a5, vi a6, vi a0, vs 8 0 1 1, vn, vs 9 0 (a1).toNat (a1).toNat, vi v31, vq, vq, vs 10 0 (a7).toNat (a7).toNat, vs 11 0 v35.length v35.length] 43), some (.cells [vi v36, vi v37, vi v38, vi v39, Value.bool v40] 50), some (.cells [vi a0, vs 12 0 17 17, vs 13 0 17 17, vn, vn, vn, vn, vn, vn, vn, vn, vn, vn, vn, vn, vn, vn, vn, vn, vn] 134), some (.cells [vs 14 0 v44.length v44.length, vs 15 0 v45.length v45.length] 158), some (.cells [vi a4, vq, vq] 163), some (.cells (Zk eI 64 [vi a7] v50 []) 171), some (kza), some (.cells (Zb Zp (List.replicate (a1).toNat (⟨(0 : Int), (0 : Int), (0 : Int)⟩ : RB))) 89), some (.cells (Zb eI (List.replicate (a7).toNat (0 : Int))) 3), some (.cells (Zb Ze v35) 63), some (.cells (Zb Zl klc) 129), some (.cells (Zb Zj kla) 72), some (.cells (Zb eI v44) 155), some (.cells (Zb eI v45) 155), some (.cells (Zb Zj klb) 72)]
 | .h7m0 v2 v3 v4 v13 v30 v34 v35 v36 v37 v38 v39 v43 v44 v49 => [some (.cells [vi a0, vi a1, vi a2, vi a3, vi a4, vi a5, vi a6] 24), some (.cells (Zk Ze 64 [vi a7] v13 [vi a0, vi a1, vi a2, vi a3, vi a4, vi a5, vi a6, vp 4 0, vp 5 0, vp 6 0, vp 7 0]) 111), some (.cells [vi a0, vi a1, vi a2, vi a3, vi a4, vi a5, vi a6, vi a0, vs 8 0 1 1, vn, vs 9 0 (a1).toNat (a1).toNat, vi v30, vq, vq, vs 10 0 (a7).toNat (a7).toNat, vs 11 0 v34.length v34.length] 43), some (.cells [vi v35, vi v36, vi v37, vi v38, Value.bool v39] 50), some (.cells [vi a0, vs 12 0 17 17, vs 13 0 17 17, vn, vn, vn, vn, vn, vn, vn, vn, vn, vn, vn, vn, vn, vn, vn, vn, vn] 134), some (.cells [vs 14 0 v43.length v43.length, vs 15 0 v44.length v44.length] 158), some (.cells [vi a4, vq, vq] 163), some (.cells (Zk eI 64 [vi a7] v49 []) 171), some (kza), some (.cells (Zb Zp (List.replicate (a1).toNat (⟨(0 : Int), (0 : Int), (0 : Int)⟩ : RB))) 89), some (.cells (Zb eI (List.replicate (a7).toNat (0 : Int))) 3), some (.cells (Zb Ze v34) 63), some (.cells (Zb Zl klc) 129), some (.cells (Zb Zj kla) 72), some (.cells (Zb eI v43) 155), some (.cells (Zb eI v44) 155), some (.cells (Zb Zj klb) 72)]
 | .h8m0 v2 v13 v30 v34 v35 v36 v37 v38 v39 v41 v52 v53 v58 v71 v72 v77 => [some (.cells [vi a0, vi a1, vi a2, vi a3, vi a4, vi a5, vi a6] 24), some (.cells (Zk Ze 64 [vi a7] v13 [vi a0, vi a1, vi a2, vi a3, vi a4, vi a5, vi a6, vp 5 0, vp 6 0, vp 7 0, vp 8 0]) 111), some (.cells [vi a0, vi a1, vi a2, vi a3, vi a4, vi a5, vi a6, vi a0, vs 9 0 1 1, vn, vs 10 0 (a1).toNat (a1).toNat, vi v30, vq, vq, vs 11 0 (a7).toNat (a7).toNat, vs 12 0 v34.length v34.length] 43), some (.cells [vi v35, vi v36, vi v37, vi v38, Value.bool v39] 50), some (.cells (Zk Ze 64 [vi a7] v41 [vi a0, vi a1, vi a2, vi a3, vi a4, vi a5, vi a6, vp 13 0, vp 14 0, vp 15 0, vp 16 0]) 111), some (.cells [vi a0, vs 17 0 17 17, vs 18 0 17 17, vn, vn, vn, vn, vn, vn, vn, vn, vn, vn, vn, vn, vn, vn, vn, vn, vn] 134), some (.cells [vs 19 0 v52.length v52.length, vs 20 0 v53.length v53.length] 158), some (.cells [vi a4, vq, vq] 163), some (.cells (Zk eI 64 [vi a7] v58 []) 171), some (kzb), some (.cells (Zb Zp (List.replicate (a1).toNat (⟨(0 : Int), (0 : Int), (0 : Int)⟩ : RB))) 89), some (.cells (Zb eI (List.replicate (a7).toNat (0 : Int))) 3), some (.cells (Zb Ze v34) 63), some (.cells [vi a0, vs 22 0 17 17, vs 23 0 17 17, vn, vn, vn, vn, vn, vn, vn, vn, vn, vn, vn, vn, vn, vn, vn, vn, vn] 134), some (.cells [vs 24 0 v71.length v71.length, vs 25 0 v72.length v72.length] 158), some (.cells [vi a4, vq, vq] 163), some (.cells (Zk eI 64 [vi a7] v77 []) 171), some (.cells (Zb Zl klc) 129), some (.cells (Zb Zj kla) 72), some (.cells (Zb eI v52) 155), some (.cells (Zb eI v53) 155), some (.cells (Zb Zj klb) 72), some (.cells (Zb Zl klc) 129), some (.cells (Zb Zj kla) 72), some (.cells (Zb eI v71) 155), some (.cells (Zb eI v72) 155)]
 | .h9m0 v2 v13 v30 v34 v35 v36 v37 v38 v39 v41 v52 v53 v58 v71 v72 v77 => [some (.cells [vi a0, vi a1, vi a2, vi a3, vi a4, vi a5, vi a6] 24), some (.cells (Zk Ze 64 [vi a7] v13 [vi a0, vi a1, vi a2, vi a3, vi a4, vi a5, vi a6, vp 5 0, vp 6 0, vp 7 0, vp 8 0]) 111), some (.cells [vi a0, vi a1, vi a2, vi a3, vi a4, vi a5, vi a6, vi a0, vs 9 0 1 1, vn, vs 10 0 (a1).toNat (a1).toNat, vi v30, vq, vq, vs 11 0 (a7).toNat (a7).toNat, vs 12 0 v34.length v34.length] 43), some (.cells [vi v35, vi v36, vi v37, vi v38, Value.bool v39] 50), some (.cells (Zk Ze 64 [vi a7] v41 [vi a0, vi a1, vi a2, vi a3, vi a4, vi a5, vi a6, vp 13 0, vp 14 0, vp 15 0, vp 16 0]) 111), some (.cells [vi a0, vs 17 0 17 17, vs 18 0 17 17, vn, vn, vn, vn, vn, vn, vn, vn, vn, vn, vn, vn, vn, vn, vn, vn, vn] 134), some (.cells [vs 19 0 v52.length v52.length, vs 20 0 v53.length v53.length] 158), some (.cells [vi a4, vq, vq] 163), some (.cells (Zk eI 64 [vi a7] v58 []) 171), some (kzb), some (.cells (Zb Zp (List.replicate (a1).toNat (⟨(0 : Int), (0 : Int), (0 : Int)⟩ : RB))) 89), some (.cells (Zb eI (List.replicate (a7).toNat (0 : Int))) 3), some (.cells (Zb Ze v34) 63), some (.cells [vi a0, vs 22 0 17 17, vs 23 0 17 17, vn, vn, vn, vn, vn, vn, vn, vn, vn, vn, vn, vn, vn, vn, vn, vn, vn] 134), some (.cells [vs 24 0 v71.length v71.length, vs 25 0 v72.length v72.length] 158), some (.cells [vi a4, vq, vq] 163), some (.cells (Zk eI 64 [vi a7] v77 []) 171), some (.cells (Zb Zl klc) 129), some (.cells (Zb Zj kla) 72), some (.cells (Zb eI v52) 155), some (.cells (Zb eI v53) 155), some (.cells (Zb Zj klb) 72), some (.cells (Zb Zl klc) 129), some (.cells (Zb Zj kla) 72), some (.cells (Zb eI v71) 155), some (.cells (Zb eI v72) 155)]

noncomputable def Zh : Nat → Code × List ZaE
 | 1 => Zda [1, 1, 1, 1, 0, 1, 3] (ZcF Try.f3) []
 | 2 => Zd8 [1, 1, 1, 1, 0, 1, 3, 7, 1, 0, 3, 1] (ZcF Try.f3) []
 | 3 => Zd8 [1, 1, 1, 1, 0, 1, 3, 7, 1, 0, 3, 1, 1, 0, 1, 3, 1, 4, 1] (ZcF Try.f3) []
 | 4 => Zd8 [1, 1, 1, 1, 0, 1, 3, 7, 1, 0, 3, 1, 1, 0, 1, 3, 1, 5, 1, 4, 1] (ZcF Try.f3) []
 | 5 => Zd8 [1, 1, 1, 1, 0, 1, 3, 7, 1, 0, 3, 1, 1, 0, 1, 3, 1, 5, 1, 5, 1, 4, 1] (ZcF Try.f3) []
 | 6 => Zd8 [1, 1, 1, 1, 0, 1, 3, 7, 1, 0, 3, 1, 1, 0, 1, 3, 1, 5, 1, 5, 1, 5, 1, 4, 1] (ZcF Try.f3) []
 | 7 => Zd8 [1, 1, 1, 1, 0, 1, 3, 7, 1, 0, 3, 1, 1, 1] (ZcF Try.f3) []
 | 8 => Zd8 [1, 1, 1, 1, 0, 1, 3, 7, 1, 0, 3, 1, 1, 0, 1, 3, 1, 5, 1, 5, 1, 5, 1, 5, 1, 5, 1, 4, 1, 1, 1] (ZcF Try.f3) []
 | 9 => Zd8 [1, 1, 1, 1, 0, 1, 3, 7, 1, 0, 3, 1, 1, 0, 1, 3, 1, 5, 1, 5, 1, 5, 1, 5, 1, 5, 1, 4, 1, 1, 1, 1] (ZcF Try.f3) []
 | _ => (.skip, [])
def Zf9 : Nat → Bool
 | 1 => true
 | 2 => false
 | 3 => false
 | 4 => false
 | 5 => false
 | 6 => false
 | 7 => false
 | 8 => false
 | 9 => false
 | _ => true
noncomputable def Zr (i : Nat) : List ZaE := match Zf9 i with | true => .rnd i :: (Zh i).2 | false => (Zh i).2

noncomputable def Zg (a0 a1 a2 a3 a4 a5 a6 a7 : Int) (L8 : List RC) (N : Nat) : Mach := ⟨Try.f3, [], Zf, Zn, ZL a0 a1 a2 a3 a4 a5 a6 a7 L8 N, Zj2, Zh, Zf9, ZjO a0 a1 a2 a3 a4 a5 a6 a7 L8, ZjP a0 a1 a2 a3 a4 a5 a6 a7 L8, Zgl a0 a1 a2 a3 a4 a5 a6 a7 L8, Zf8 a0 a1 a2 a3 a4 a5 a6 a7 L8⟩

theorem ZgN (a0 a1 a2 a3 a4 a5 a6 a7 : Int) (L8 : List RC) (N : Nat) : (Zg a0 a1 a2 a3 a4 a5 a6 a7 L8 N).Ok Try.prog ZQ (.h1m0 : Zf) (ZL a0 a1 a2 a3 a4 a5 a6 a7 L8 N (.h1m0 : Zf)) := by
 show (Zg a0 a1 a2 a3 a4 a5 a6 a7 L8 N).Ok Try.prog ZQ (.h1m0 : Zf) (Zdh a0 a1 a2 a3 a4 a5 a6 a7 L8 N)
 unfold Zdh
 by_cases g0 : (0 : Int) < (L8.length : Int)
 ·
  exact Mach.ok_fin (M := Zg a0 a1 a2 a3 a4 a5 a6 a7 L8 N) (cd := 1000000) (cm := 0) (r := (.r0 (true) : Zn)) (fu := 4000) (orc := (Zo [(0, true)] [] [] [] [])) (live := []) (u := vT) (bl := []) (ob := [((decide ((0 : Int) < (L8.length : Int))), true)]) (fun gv => by kernel_rfl) (oY Zi) rfl (by decide) (by rfl) rr trivial
 ·
  exact Mach.ok_fin (M := Zg a0 a1 a2 a3 a4 a5 a6 a7 L8 N) (cd := 1000000) (cm := 0) (r := (.r0 (true) : Zn)) (fu := 4000) (orc := (Zo [(0, false)] [] [] [] [])) (live := []) (u := vT) (bl := []) (ob := [((decide ((0 : Int) < (L8.length : Int))), false)]) (fun gv => by kernel_rfl) (oN Zi) rfl (by decide) (by rfl) rr trivial

theorem ZgO (a0 a1 a2 a3 a4 a5 a6 a7 : Int) (L8 : List RC) (v2 : Nat) (v11 : List RA) (v28 : Int) (v32 : List RA) (v36 v37 v42 : List Int) (N : Nat) : (Zg a0 a1 a2 a3 a4 a5 a6 a7 L8 N).Ok Try.prog ZQ (.h1m1 v2 v11 v28 v32 v36 v37 v42 : Zf) (ZL a0 a1 a2 a3 a4 a5 a6 a7 L8 N (.h1m1 v2 v11 v28 v32 v36 v37 v42 : Zf)) := by
 show (Zg a0 a1 a2 a3 a4 a5 a6 a7 L8 N).Ok Try.prog ZQ (.h1m1 v2 v11 v28 v32 v36 v37 v42 : Zf) (Zcb a0 a1 a2 a3 a4 a5 a6 a7 L8 N v2 v11 v28 v32 v36 v37 v42)
 unfold Zcb
 refine Mach.ok_ite (fun g0 => ?_) (fun g0 => ?_)
 ·
  refine Mach.ok_ite (fun g1 => ?_) (fun g1 => ?_)
  ·
   refine Mach.ok_ite (fun g2 => ?_) (fun g2 => ?_)
   ·
    refine Mach.ok_ite (fun g3 => ?_) (fun g3 => ?_)
    ·
     refine Mach.ok_ite (fun g4 => ?_) (fun g4 => ?_)
     ·
      refine Mach.ok_ite (fun g5 => ?_) (fun g5 => ?_)
      ·
       refine Mach.ok_ite (fun g6 => ?_) (fun g6 => ?_)
       ·
        refine Mach.ok_ite (fun g7 => ?_) (fun g7 => ?_)
        ·
         refine Mach.ok_ite (fun g8 => ?_) (fun g8 => ?_)
         ·
          refine Mach.ok_ite (fun g9 => ?_) (fun g9 => ?_)
          ·
           exact Mach.ok_cut (bK := Zh 2) (M := Zg a0 a1 a2 a3 a4 a5 a6 a7 L8 N) (cd := 5) (cm := 0) (y := (.h2m0 (v2) (v11) (v28) (v32) ((L8.getD v2 RC.z).a0) ((L8.getD v2 RC.z).a1) ((L8.getD v2 RC.z).a2) ((L8.getD v2 RC.z).a3) ((L8.getD v2 RC.z).a4) (v36) (v37) (v42) : Zf)) (fu := 4000) (orc := (Zo [(0, true), (1, true)] [] [(0, v2)] [(0, [.i (L8.getD v2 RC.z).a0, .i (L8.getD v2 RC.z).a1, .i (L8.getD v2 RC.z).a2, .i (L8.getD v2 RC.z).a3, .b (L8.getD v2 RC.z).a4])] [])) (live := [0, 1, 2, 16, 3, 4, 5, 6, 7, 8, 9, 10, 11, 12, 13, 14, 15]) (tv := fun _ => [some (vi a7), some (ms E_iiiib L8), some (vp 0 0), some (vp 1 0), some (vp 2 0), some (vi (v2 : Int)), some (vp 16 0)]) (bl := [some (.cells [vi a0, vi a1, vi a2, vi a3, vi a4, vi a5, vi a6] 24), some (.cells (Zk Ze 64 [vi a7] v11 [vi a0, vi a1, vi a2, vi a3, vi a4, vi a5, vi a6, vp 3 0, vp 4 0, vp 5 0, vp 6 0]) 111), some (.cells [vi a0, vi a1, vi a2, vi a3, vi a4, vi a5, vi a6, vi a0, vs 7 0 1 1, vn, vs 8 0 (a1).toNat (a1).toNat, vi v28, vq, vq, vs 9 0 (a7).toNat (a7).toNat, vs 10 0 v32.length v32.length] 43), some (.cells [vi (L8.getD v2 RC.z).a0, vi (L8.getD v2 RC.z).a1, vi (L8.getD v2 RC.z).a2, vi (L8.getD v2 RC.z).a3, Value.bool (L8.getD v2 RC.z).a4] 50), some (.cells [vi a0, vs 11 0 17 17, vs 12 0 17 17, vn, vn, vn, vn, vn, vn, vn, vn, vn, vn, vn, vn, vn, vn, vn, vn, vn] 134), some (.cells [vs 13 0 v36.length v36.length, vs 14 0 v37.length v37.length] 158), some (.cells [vi a4, vq, vq] 163), some (.cells (Zk eI 64 [vi a7] v42 []) 171), some (kzd), some (.cells (Zb Zp (List.replicate (a1).toNat (⟨(0 : Int), (0 : Int), (0 : Int)⟩ : RB))) 89), some (.cells (Zb eI (List.replicate (a7).toNat (0 : Int))) 3), some (.cells (Zb Ze v32) 63), some (.cells (Zb Zl klc) 129), some (.cells (Zb Zj kla) 72), some (.cells (Zb eI v36) 155), some (.cells (Zb eI v37) 155), some (.cells (Zb Zj klb) 72)]) (ob := [(dP (Zc9 (code (ZcP E_iiiib L8)) (0 + (v2 * 5)) 5 = some [.i (L8.getD v2 RC.z).a0, .i (L8.getD v2 RC.z).a1, .i (L8.getD v2 RC.z).a2, .i (L8.getD v2 RC.z).a3, .b (L8.getD v2 RC.z).a4]), true), (Nat.blt v2 L8.length, true), ((v2 : Int) == Int.ofNat v2, true), ((decide ((v2 : Int) < (60 : Int))), true), ((decide ((v2 : Int) < (L8.length : Int))), true)]) rfl rfl (show ∀ j ∈ Zy (Zh 2).2, j ∈ Zy (Zr 1) from by decide +kernel) (fun gv => by kernel_rfl) (Zc (Zm (Zo5 (E := E_iiiib) (L := L8) (i := v2) (q := 0) (by omega) (show (0 + (v2 * 5)) = v2 * 5 + 0 from by omega) (show 0 + 5 ≤ 5 from by decide) rfl)) <| oB <| oI <| oY <| oY Zi) rfl (by decide) (by rfl) (fun _ => ⟨rr, ⟨rr, ⟨rr, ⟨rr, ⟨rr, ⟨rr, ⟨rr, trivial⟩⟩⟩⟩⟩⟩⟩) ⟨⟨rfl, ⟨[], by rfl⟩, by rfl⟩, ⟨⟨rfl, ⟨[], by kernel_rfl⟩, by kernel_rfl⟩, ⟨⟨rfl, ⟨[], by rfl⟩, by rfl⟩, ⟨⟨rfl, ⟨[], by rfl⟩, by rfl⟩, ⟨⟨rfl, ⟨[], by rfl⟩, by rfl⟩, ⟨⟨rfl, ⟨[], by rfl⟩, by rfl⟩, ⟨⟨rfl, ⟨[], by rfl⟩, by rfl⟩, ⟨⟨rfl, ⟨[], by kernel_rfl⟩, by kernel_rfl⟩, ⟨⟨rfl, ⟨[], by rfl⟩, by rfl⟩, ⟨(Za (E := Zp) (α := RB) _ (List.replicate (a1).toNat (⟨(0 : Int), (0 : Int), (0 : Int)⟩ : RB)) _), ⟨(Za (E := eI) (α := Int) _ (List.replicate (a7).toNat (0 : Int)) _), ⟨(Za (E := Ze) (α := RA) _ v32 _), ⟨(Za (E := Zl) (α := RD) _ klc _), ⟨(Za (E := Zj) (α := R_ii) _ kla _), ⟨(Za (E := eI) (α := Int) _ v36 _), ⟨(Za (E := eI) (α := Int) _ v37 _), ⟨(Za (E := Zj) (α := R_ii) _ klb _), trivial⟩⟩⟩⟩⟩⟩⟩⟩⟩⟩⟩⟩⟩⟩⟩⟩⟩
          ·
           exact Mach.ok_fin (M := Zg a0 a1 a2 a3 a4 a5 a6 a7 L8 N) (cd := 1000000) (cm := 0) (r := (.r0 (true) : Zn)) (fu := 4000) (orc := (Zo [(0, true), (1, false)] [] [] [] [])) (live := []) (u := vT) (bl := []) (ob := [((decide ((v2 : Int) < (60 : Int))), false), ((decide ((v2 : Int) < (L8.length : Int))), true)]) (fun gv => by kernel_rfl) (oN <| oY Zi) rfl (by decide) (by rfl) rr trivial
         ·
          exact Mach.ok_fin (M := Zg a0 a1 a2 a3 a4 a5 a6 a7 L8 N) (cd := 1000000) (cm := 0) (r := (.r0 (true) : Zn)) (fu := 4000) (orc := (Zo [(0, false)] [] [] [] [])) (live := []) (u := vT) (bl := []) (ob := [((decide ((v2 : Int) < (L8.length : Int))), false)]) (fun gv => by kernel_rfl) (oN Zi) rfl (by decide) (by rfl) rr trivial
        ·
         exact Mach.ok_none
       ·
        exact Mach.ok_none
      ·
       exact Mach.ok_none
     ·
      exact Mach.ok_none
    ·
     exact Mach.ok_none
   ·
    exact Mach.ok_none
  ·
   exact Mach.ok_none
 ·
  exact Mach.ok_none

end Ev
end Go.Proofs.Ytfbpdjledonagaa
