/- The law TreePrograms, for every input. -/
import Derived.Test.YtgpekgedjmhmeaaGreatZae
import Derived.Test.YtgpekgedjmhmeaaGreatZac
import Derived.Test.YtgpekgedjmhmeaaGreatZad
import Derived.Test.YtgpekgedjmhmeaaGreatZab
import Derived.StillTail
import Derived.OrdersHeld
import Derived.WideBlind
/- Calls do what the plain functions say. -/
namespace Go.Proofs.YtgpekgedjmhmeaaGreat
open Go.RowKit
namespace Ev
set_option linter.unusedVariables false
set_option maxRecDepth 100000
theorem Zs8  (N : Nat) (r : ZeX) (h : ZgB  N = some r) : LSpec Tryz.prog 33 #[Value.agg #[vi (9 : Int), vi (4 : Int), vi (9 : Int), vq]] [] (ZpS  r) (ZnZ  r) :=
 (Zuf  N) r h

noncomputable def Zoa  (n : Nat) : Zx := .call [] (vT) [] 0
def ZiU (A : Array Value)  (n : Nat) : Prop := Zj Tryz.prog 33 A [] (vT) [] n 0

theorem Zob (A : Array Value)  (N : Nat) (h : ZgB  N = some (.r0)) (n : Nat) (hA : A = #[Value.agg #[vi (9 : Int), vi (4 : Int), vi (9 : Int), vq]]) (hnd : ([] : List Nat).Nodup) (hlt : ∀ k ∈ ([] : List Nat), k < n) : ZiU A   n :=
 Zm hA (LSpec.callL (show LSpec Tryz.prog 33 #[Value.agg #[vi (9 : Int), vi (4 : Int), vi (9 : Int), vq]] [] (vT) [] from Zs8  N _ h) [] n [] rfl hnd hlt (show 0 ≤ 0 from by decide) (show ∀ j ∈ ([] : List Nat), j < 0 from by decide) (by rfl) trivial (by rfl) trivial trivial rfl rfl rfl rfl rfl)

noncomputable def ZpT  : ZeY → Value
 | .r0 => vT
noncomputable def Zoc  : ZeY → List (Option AObj)
 | .r0 => []

theorem Zug  (N : Nat) : Gx Tryz.prog 33 [] #[Value.agg #[vi (8 : Int), vi (30 : Int), vq, vq]] (ZpT ) (Zoc ) (ZeL  N) := by
 unfold ZeL
 exact Zh Zi (r := (.r0 : ZeY)) (fu := 4000) (orc := (Zl [] [] [] [] [])) (live := []) (u := vT) (bl := []) (ob := []) (by kernel_rfl) Zf rfl (by decide) (by rfl) rr trivial (Zg _ rfl)

theorem Zs9  (N : Nat) (r : ZeY) (h : ZeL  N = some r) : LSpec Tryz.prog 33 #[Value.agg #[vi (8 : Int), vi (30 : Int), vq, vq]] [] (ZpT  r) (Zoc  r) :=
 (Zug  N) r h

noncomputable def ZeH  (n : Nat) : Zx := .call [] (vT) [] 0
def Zdf (A : Array Value)  (n : Nat) : Prop := Zj Tryz.prog 33 A [] (vT) [] n 0

theorem ZeI (A : Array Value)  (N : Nat) (h : ZeL  N = some (.r0)) (n : Nat) (hA : A = #[Value.agg #[vi (8 : Int), vi (30 : Int), vq, vq]]) (hnd : ([] : List Nat).Nodup) (hlt : ∀ k ∈ ([] : List Nat), k < n) : Zdf A   n :=
 Zm hA (LSpec.callL (show LSpec Tryz.prog 33 #[Value.agg #[vi (8 : Int), vi (30 : Int), vq, vq]] [] (vT) [] from Zs9  N _ h) [] n [] rfl hnd hlt (show 0 ≤ 0 from by decide) (show ∀ j ∈ ([] : List Nat), j < 0 from by decide) (by rfl) trivial (by rfl) trivial trivial rfl rfl rfl rfl rfl)

noncomputable def Zod  : Zem → Value
 | .r0 => vT
noncomputable def Zmn  : Zem → List (Option AObj)
 | .r0 => []

theorem Ztb  (N : Nat) : Gx Tryz.prog 33 [] #[Value.agg #[vi (6 : Int), vi (4 : Int), vi (1 : Int), vi (3 : Int)]] (Zod ) (Zmn ) (ZeZ  N) := by
 unfold ZeZ
 exact Zh Zi (r := (.r0 : Zem)) (fu := 4000) (orc := (Zl [] [] [] [] [])) (live := []) (u := vT) (bl := []) (ob := []) (by kernel_rfl) Zf rfl (by decide) (by rfl) rr trivial (Zg _ rfl)

theorem Zrl  (N : Nat) (r : Zem) (h : ZeZ  N = some r) : LSpec Tryz.prog 33 #[Value.agg #[vi (6 : Int), vi (4 : Int), vi (1 : Int), vi (3 : Int)]] [] (Zod  r) (Zmn  r) :=
 (Ztb  N) r h

noncomputable def Zih  (n : Nat) : Zx := .call [] (vT) [] 0
def Zg2 (A : Array Value)  (n : Nat) : Prop := Zj Tryz.prog 33 A [] (vT) [] n 0

theorem Zii (A : Array Value)  (N : Nat) (h : ZeZ  N = some (.r0)) (n : Nat) (hA : A = #[Value.agg #[vi (6 : Int), vi (4 : Int), vi (1 : Int), vi (3 : Int)]]) (hnd : ([] : List Nat).Nodup) (hlt : ∀ k ∈ ([] : List Nat), k < n) : Zg2 A   n :=
 Zm hA (LSpec.callL (show LSpec Tryz.prog 33 #[Value.agg #[vi (6 : Int), vi (4 : Int), vi (1 : Int), vi (3 : Int)]] [] (vT) [] from Zrl  N _ h) [] n [] rfl hnd hlt (show 0 ≤ 0 from by decide) (show ∀ j ∈ ([] : List Nat), j < 0 from by decide) (by rfl) trivial (by rfl) trivial trivial rfl rfl rfl rfl rfl)

noncomputable def Zoe  : Zen → Value
 | .r0 => vT
noncomputable def Zmo  : Zen → List (Option AObj)
 | .r0 => []

theorem Ztc  (N : Nat) : Gx Tryz.prog 33 [] #[Value.agg #[vi (9 : Int), vi (4 : Int), vi (19 : Int), vq]] (Zoe ) (Zmo ) (Zgb  N) := by
 unfold Zgb
 exact Zh Zi (r := (.r0 : Zen)) (fu := 4000) (orc := (Zl [] [] [] [] [])) (live := []) (u := vT) (bl := []) (ob := []) (by kernel_rfl) Zf rfl (by decide) (by rfl) rr trivial (Zg _ rfl)

theorem Zrm  (N : Nat) (r : Zen) (h : Zgb  N = some r) : LSpec Tryz.prog 33 #[Value.agg #[vi (9 : Int), vi (4 : Int), vi (19 : Int), vq]] [] (Zoe  r) (Zmo  r) :=
 (Ztc  N) r h

noncomputable def Zmp  (n : Nat) : Zx := .call [] (vT) [] 0
def Zij (A : Array Value)  (n : Nat) : Prop := Zj Tryz.prog 33 A [] (vT) [] n 0

theorem Zmq (A : Array Value)  (N : Nat) (h : Zgb  N = some (.r0)) (n : Nat) (hA : A = #[Value.agg #[vi (9 : Int), vi (4 : Int), vi (19 : Int), vq]]) (hnd : ([] : List Nat).Nodup) (hlt : ∀ k ∈ ([] : List Nat), k < n) : Zij A   n :=
 Zm hA (LSpec.callL (show LSpec Tryz.prog 33 #[Value.agg #[vi (9 : Int), vi (4 : Int), vi (19 : Int), vq]] [] (vT) [] from Zrm  N _ h) [] n [] rfl hnd hlt (show 0 ≤ 0 from by decide) (show ∀ j ∈ ([] : List Nat), j < 0 from by decide) (by rfl) trivial (by rfl) trivial trivial rfl rfl rfl rfl rfl)

noncomputable def Zof  : Zeo → Value
 | .r0 => vT
noncomputable def Zmr  : Zeo → List (Option AObj)
 | .r0 => []

theorem Ztd  (N : Nat) : Gx Tryz.prog 33 [] #[Value.agg #[vi (13 : Int), vi (5 : Int), vi (2 : Int), vq]] (Zof ) (Zmr ) (Zfa  N) := by
 unfold Zfa
 exact Zh Zi (r := (.r0 : Zeo)) (fu := 4000) (orc := (Zl [] [] [] [] [])) (live := []) (u := vT) (bl := []) (ob := []) (by kernel_rfl) Zf rfl (by decide) (by rfl) rr trivial (Zg _ rfl)

theorem Zrn  (N : Nat) (r : Zeo) (h : Zfa  N = some r) : LSpec Tryz.prog 33 #[Value.agg #[vi (13 : Int), vi (5 : Int), vi (2 : Int), vq]] [] (Zof  r) (Zmr  r) :=
 (Ztd  N) r h

noncomputable def Zik  (n : Nat) : Zx := .call [] (vT) [] 0
def Zg3 (A : Array Value)  (n : Nat) : Prop := Zj Tryz.prog 33 A [] (vT) [] n 0

theorem Zil (A : Array Value)  (N : Nat) (h : Zfa  N = some (.r0)) (n : Nat) (hA : A = #[Value.agg #[vi (13 : Int), vi (5 : Int), vi (2 : Int), vq]]) (hnd : ([] : List Nat).Nodup) (hlt : ∀ k ∈ ([] : List Nat), k < n) : Zg3 A   n :=
 Zm hA (LSpec.callL (show LSpec Tryz.prog 33 #[Value.agg #[vi (13 : Int), vi (5 : Int), vi (2 : Int), vq]] [] (vT) [] from Zrn  N _ h) [] n [] rfl hnd hlt (show 0 ≤ 0 from by decide) (show ∀ j ∈ ([] : List Nat), j < 0 from by decide) (by rfl) trivial (by rfl) trivial trivial rfl rfl rfl rfl rfl)

noncomputable def Zog  : Zep → Value
 | .r0 => vT
noncomputable def Zms  : Zep → List (Option AObj)
 | .r0 => []

theorem Zte  (N : Nat) : Gx Tryz.prog 33 [] #[Value.agg #[vi (9 : Int), vi (5 : Int), vi (15 : Int), vq]] (Zog ) (Zms ) (Zgc  N) := by
 unfold Zgc
 exact Zh Zi (r := (.r0 : Zep)) (fu := 4000) (orc := (Zl [] [] [] [] [])) (live := []) (u := vT) (bl := []) (ob := []) (by kernel_rfl) Zf rfl (by decide) (by rfl) rr trivial (Zg _ rfl)

theorem Zro  (N : Nat) (r : Zep) (h : Zgc  N = some r) : LSpec Tryz.prog 33 #[Value.agg #[vi (9 : Int), vi (5 : Int), vi (15 : Int), vq]] [] (Zog  r) (Zms  r) :=
 (Zte  N) r h

noncomputable def Zmt  (n : Nat) : Zx := .call [] (vT) [] 0
def Zim (A : Array Value)  (n : Nat) : Prop := Zj Tryz.prog 33 A [] (vT) [] n 0

theorem Zmu (A : Array Value)  (N : Nat) (h : Zgc  N = some (.r0)) (n : Nat) (hA : A = #[Value.agg #[vi (9 : Int), vi (5 : Int), vi (15 : Int), vq]]) (hnd : ([] : List Nat).Nodup) (hlt : ∀ k ∈ ([] : List Nat), k < n) : Zim A   n :=
 Zm hA (LSpec.callL (show LSpec Tryz.prog 33 #[Value.agg #[vi (9 : Int), vi (5 : Int), vi (15 : Int), vq]] [] (vT) [] from Zro  N _ h) [] n [] rfl hnd hlt (show 0 ≤ 0 from by decide) (show ∀ j ∈ ([] : List Nat), j < 0 from by decide) (by rfl) trivial (by rfl) trivial trivial rfl rfl rfl rfl rfl)

noncomputable def Zoh  : Zeq → Value
 | .r0 => vT
noncomputable def Zmv  : Zeq → List (Option AObj)
 | .r0 => []

theorem Ztf  (N : Nat) : Gx Tryz.prog 33 [] #[Value.agg #[vi (3 : Int), vi (2 : Int), vi (5 : Int), vq]] (Zoh ) (Zmv ) (ZdT  N) := by
 unfold ZdT
 exact Zh Zi (r := (.r0 : Zeq)) (fu := 4000) (orc := (Zl [] [] [] [] [])) (live := []) (u := vT) (bl := []) (ob := []) (by kernel_rfl) Zf rfl (by decide) (by rfl) rr trivial (Zg _ rfl)

theorem Zrp  (N : Nat) (r : Zeq) (h : ZdT  N = some r) : LSpec Tryz.prog 33 #[Value.agg #[vi (3 : Int), vi (2 : Int), vi (5 : Int), vq]] [] (Zoh  r) (Zmv  r) :=
 (Ztf  N) r h

noncomputable def Zfh  (n : Nat) : Zx := .call [] (vT) [] 0
def Zeb (A : Array Value)  (n : Nat) : Prop := Zj Tryz.prog 33 A [] (vT) [] n 0

theorem Zfi (A : Array Value)  (N : Nat) (h : ZdT  N = some (.r0)) (n : Nat) (hA : A = #[Value.agg #[vi (3 : Int), vi (2 : Int), vi (5 : Int), vq]]) (hnd : ([] : List Nat).Nodup) (hlt : ∀ k ∈ ([] : List Nat), k < n) : Zeb A   n :=
 Zm hA (LSpec.callL (show LSpec Tryz.prog 33 #[Value.agg #[vi (3 : Int), vi (2 : Int), vi (5 : Int), vq]] [] (vT) [] from Zrp  N _ h) [] n [] rfl hnd hlt (show 0 ≤ 0 from by decide) (show ∀ j ∈ ([] : List Nat), j < 0 from by decide) (by rfl) trivial (by rfl) trivial trivial rfl rfl rfl rfl rfl)

noncomputable def Zoi  : Zer → Value
 | .r0 => vT
noncomputable def Zmw  : Zer → List (Option AObj)
 | .r0 => []

theorem Ztg  (N : Nat) : Gx Tryz.prog 33 [] #[Value.agg #[vi (8 : Int), vi (5 : Int), vq, vq]] (Zoi ) (Zmw ) (ZdU  N) := by
 unfold ZdU
 exact Zh Zi (r := (.r0 : Zer)) (fu := 4000) (orc := (Zl [] [] [] [] [])) (live := []) (u := vT) (bl := []) (ob := []) (by kernel_rfl) Zf rfl (by decide) (by rfl) rr trivial (Zg _ rfl)

theorem Zrq  (N : Nat) (r : Zer) (h : ZdU  N = some r) : LSpec Tryz.prog 33 #[Value.agg #[vi (8 : Int), vi (5 : Int), vq, vq]] [] (Zoi  r) (Zmw  r) :=
 (Ztg  N) r h

noncomputable def Zfj  (n : Nat) : Zx := .call [] (vT) [] 0
def Zec (A : Array Value)  (n : Nat) : Prop := Zj Tryz.prog 33 A [] (vT) [] n 0

theorem Zfk (A : Array Value)  (N : Nat) (h : ZdU  N = some (.r0)) (n : Nat) (hA : A = #[Value.agg #[vi (8 : Int), vi (5 : Int), vq, vq]]) (hnd : ([] : List Nat).Nodup) (hlt : ∀ k ∈ ([] : List Nat), k < n) : Zec A   n :=
 Zm hA (LSpec.callL (show LSpec Tryz.prog 33 #[Value.agg #[vi (8 : Int), vi (5 : Int), vq, vq]] [] (vT) [] from Zrq  N _ h) [] n [] rfl hnd hlt (show 0 ≤ 0 from by decide) (show ∀ j ∈ ([] : List Nat), j < 0 from by decide) (by rfl) trivial (by rfl) trivial trivial rfl rfl rfl rfl rfl)

noncomputable def Zoj  : Zes → Value
 | .r0 => vT
noncomputable def Zmx  : Zes → List (Option AObj)
 | .r0 => []

theorem Zth  (N : Nat) : Gx Tryz.prog 33 [] #[Value.agg #[vi (11 : Int), vi (6 : Int), vi (3 : Int), vi (3 : Int)]] (Zoj ) (Zmx ) (ZdV  N) := by
 unfold ZdV
 exact Zh Zi (r := (.r0 : Zes)) (fu := 4000) (orc := (Zl [] [] [] [] [])) (live := []) (u := vT) (bl := []) (ob := []) (by kernel_rfl) Zf rfl (by decide) (by rfl) rr trivial (Zg _ rfl)

theorem Zrr  (N : Nat) (r : Zes) (h : ZdV  N = some r) : LSpec Tryz.prog 33 #[Value.agg #[vi (11 : Int), vi (6 : Int), vi (3 : Int), vi (3 : Int)]] [] (Zoj  r) (Zmx  r) :=
 (Zth  N) r h

noncomputable def Zed  (n : Nat) : Zx := .call [] (vT) [] 0
def Zcy (A : Array Value)  (n : Nat) : Prop := Zj Tryz.prog 33 A [] (vT) [] n 0

theorem Zee (A : Array Value)  (N : Nat) (h : ZdV  N = some (.r0)) (n : Nat) (hA : A = #[Value.agg #[vi (11 : Int), vi (6 : Int), vi (3 : Int), vi (3 : Int)]]) (hnd : ([] : List Nat).Nodup) (hlt : ∀ k ∈ ([] : List Nat), k < n) : Zcy A   n :=
 Zm hA (LSpec.callL (show LSpec Tryz.prog 33 #[Value.agg #[vi (11 : Int), vi (6 : Int), vi (3 : Int), vi (3 : Int)]] [] (vT) [] from Zrr  N _ h) [] n [] rfl hnd hlt (show 0 ≤ 0 from by decide) (show ∀ j ∈ ([] : List Nat), j < 0 from by decide) (by rfl) trivial (by rfl) trivial trivial rfl rfl rfl rfl rfl)

noncomputable def Zok  : Zet → Value
 | .r0 => vT
noncomputable def Zmy  : Zet → List (Option AObj)
 | .r0 => []

theorem Zti  (N : Nat) : Gx Tryz.prog 33 [] #[Value.agg #[vi (14 : Int), vi (6 : Int), vi (2 : Int), vi (1 : Int)]] (Zok ) (Zmy ) (ZdW  N) := by
 unfold ZdW
 exact Zh Zi (r := (.r0 : Zet)) (fu := 4000) (orc := (Zl [] [] [] [] [])) (live := []) (u := vT) (bl := []) (ob := []) (by kernel_rfl) Zf rfl (by decide) (by rfl) rr trivial (Zg _ rfl)

theorem Zrs  (N : Nat) (r : Zet) (h : ZdW  N = some r) : LSpec Tryz.prog 33 #[Value.agg #[vi (14 : Int), vi (6 : Int), vi (2 : Int), vi (1 : Int)]] [] (Zok  r) (Zmy  r) :=
 (Zti  N) r h

noncomputable def Zef  (n : Nat) : Zx := .call [] (vT) [] 0
def Zcz (A : Array Value)  (n : Nat) : Prop := Zj Tryz.prog 33 A [] (vT) [] n 0

theorem Zeg (A : Array Value)  (N : Nat) (h : ZdW  N = some (.r0)) (n : Nat) (hA : A = #[Value.agg #[vi (14 : Int), vi (6 : Int), vi (2 : Int), vi (1 : Int)]]) (hnd : ([] : List Nat).Nodup) (hlt : ∀ k ∈ ([] : List Nat), k < n) : Zcz A   n :=
 Zm hA (LSpec.callL (show LSpec Tryz.prog 33 #[Value.agg #[vi (14 : Int), vi (6 : Int), vi (2 : Int), vi (1 : Int)]] [] (vT) [] from Zrs  N _ h) [] n [] rfl hnd hlt (show 0 ≤ 0 from by decide) (show ∀ j ∈ ([] : List Nat), j < 0 from by decide) (by rfl) trivial (by rfl) trivial trivial rfl rfl rfl rfl rfl)

noncomputable def Zol  : Zeu → Value
 | .r0 => vT
noncomputable def Zmz  : Zeu → List (Option AObj)
 | .r0 => []

theorem Ztj  (N : Nat) : Gx Tryz.prog 33 [] #[Value.agg #[vi (14 : Int), vi (2 : Int), vq, vi (6 : Int)]] (Zol ) (Zmz ) (Zgd  N) := by
 unfold Zgd
 exact Zh Zi (r := (.r0 : Zeu)) (fu := 4000) (orc := (Zl [] [] [] [] [])) (live := []) (u := vT) (bl := []) (ob := []) (by kernel_rfl) Zf rfl (by decide) (by rfl) rr trivial (Zg _ rfl)

theorem Zrt  (N : Nat) (r : Zeu) (h : Zgd  N = some r) : LSpec Tryz.prog 33 #[Value.agg #[vi (14 : Int), vi (2 : Int), vq, vi (6 : Int)]] [] (Zol  r) (Zmz  r) :=
 (Ztj  N) r h

noncomputable def Zm0  (n : Nat) : Zx := .call [] (vT) [] 0
def Zin (A : Array Value)  (n : Nat) : Prop := Zj Tryz.prog 33 A [] (vT) [] n 0

theorem Zm1 (A : Array Value)  (N : Nat) (h : Zgd  N = some (.r0)) (n : Nat) (hA : A = #[Value.agg #[vi (14 : Int), vi (2 : Int), vq, vi (6 : Int)]]) (hnd : ([] : List Nat).Nodup) (hlt : ∀ k ∈ ([] : List Nat), k < n) : Zin A   n :=
 Zm hA (LSpec.callL (show LSpec Tryz.prog 33 #[Value.agg #[vi (14 : Int), vi (2 : Int), vq, vi (6 : Int)]] [] (vT) [] from Zrt  N _ h) [] n [] rfl hnd hlt (show 0 ≤ 0 from by decide) (show ∀ j ∈ ([] : List Nat), j < 0 from by decide) (by rfl) trivial (by rfl) trivial trivial rfl rfl rfl rfl rfl)

noncomputable def Zom  : Zev → Value
 | .r0 => vT
noncomputable def Zm2  : Zev → List (Option AObj)
 | .r0 => []

theorem Ztk  (N : Nat) : Gx Tryz.prog 33 [] #[Value.agg #[vi (13 : Int), vi (5 : Int), vi (2 : Int), vi (1 : Int)]] (Zom ) (Zm2 ) (Zfb  N) := by
 unfold Zfb
 exact Zh Zi (r := (.r0 : Zev)) (fu := 4000) (orc := (Zl [] [] [] [] [])) (live := []) (u := vT) (bl := []) (ob := []) (by kernel_rfl) Zf rfl (by decide) (by rfl) rr trivial (Zg _ rfl)

theorem Zru  (N : Nat) (r : Zev) (h : Zfb  N = some r) : LSpec Tryz.prog 33 #[Value.agg #[vi (13 : Int), vi (5 : Int), vi (2 : Int), vi (1 : Int)]] [] (Zom  r) (Zm2  r) :=
 (Ztk  N) r h

noncomputable def Zio  (n : Nat) : Zx := .call [] (vT) [] 0
def Zg4 (A : Array Value)  (n : Nat) : Prop := Zj Tryz.prog 33 A [] (vT) [] n 0

theorem Zip (A : Array Value)  (N : Nat) (h : Zfb  N = some (.r0)) (n : Nat) (hA : A = #[Value.agg #[vi (13 : Int), vi (5 : Int), vi (2 : Int), vi (1 : Int)]]) (hnd : ([] : List Nat).Nodup) (hlt : ∀ k ∈ ([] : List Nat), k < n) : Zg4 A   n :=
 Zm hA (LSpec.callL (show LSpec Tryz.prog 33 #[Value.agg #[vi (13 : Int), vi (5 : Int), vi (2 : Int), vi (1 : Int)]] [] (vT) [] from Zru  N _ h) [] n [] rfl hnd hlt (show 0 ≤ 0 from by decide) (show ∀ j ∈ ([] : List Nat), j < 0 from by decide) (by rfl) trivial (by rfl) trivial trivial rfl rfl rfl rfl rfl)

noncomputable def Zon  : Zew → Value
 | .r0 => vT
noncomputable def Zm3  : Zew → List (Option AObj)
 | .r0 => []

theorem Ztl  (N : Nat) : Gx Tryz.prog 33 [] #[Value.agg #[vi (9 : Int), vi (5 : Int), vi (23 : Int), vq]] (Zon ) (Zm3 ) (Zge  N) := by
 unfold Zge
 exact Zh Zi (r := (.r0 : Zew)) (fu := 4000) (orc := (Zl [] [] [] [] [])) (live := []) (u := vT) (bl := []) (ob := []) (by kernel_rfl) Zf rfl (by decide) (by rfl) rr trivial (Zg _ rfl)

theorem Zrv  (N : Nat) (r : Zew) (h : Zge  N = some r) : LSpec Tryz.prog 33 #[Value.agg #[vi (9 : Int), vi (5 : Int), vi (23 : Int), vq]] [] (Zon  r) (Zm3  r) :=
 (Ztl  N) r h

noncomputable def Zm4  (n : Nat) : Zx := .call [] (vT) [] 0
def Ziq (A : Array Value)  (n : Nat) : Prop := Zj Tryz.prog 33 A [] (vT) [] n 0

theorem Zm5 (A : Array Value)  (N : Nat) (h : Zge  N = some (.r0)) (n : Nat) (hA : A = #[Value.agg #[vi (9 : Int), vi (5 : Int), vi (23 : Int), vq]]) (hnd : ([] : List Nat).Nodup) (hlt : ∀ k ∈ ([] : List Nat), k < n) : Ziq A   n :=
 Zm hA (LSpec.callL (show LSpec Tryz.prog 33 #[Value.agg #[vi (9 : Int), vi (5 : Int), vi (23 : Int), vq]] [] (vT) [] from Zrv  N _ h) [] n [] rfl hnd hlt (show 0 ≤ 0 from by decide) (show ∀ j ∈ ([] : List Nat), j < 0 from by decide) (by rfl) trivial (by rfl) trivial trivial rfl rfl rfl rfl rfl)

noncomputable def Zoo  : Zex → Value
 | .r0 => vT
noncomputable def Zm6  : Zex → List (Option AObj)
 | .r0 => []

theorem Ztm  (N : Nat) : Gx Tryz.prog 33 [] #[Value.agg #[vi (14 : Int), vi (2 : Int), vi (1 : Int), vi (6 : Int)]] (Zoo ) (Zm6 ) (Zgf  N) := by
 unfold Zgf
 exact Zh Zi (r := (.r0 : Zex)) (fu := 4000) (orc := (Zl [] [] [] [] [])) (live := []) (u := vT) (bl := []) (ob := []) (by kernel_rfl) Zf rfl (by decide) (by rfl) rr trivial (Zg _ rfl)

theorem Zrw  (N : Nat) (r : Zex) (h : Zgf  N = some r) : LSpec Tryz.prog 33 #[Value.agg #[vi (14 : Int), vi (2 : Int), vi (1 : Int), vi (6 : Int)]] [] (Zoo  r) (Zm6  r) :=
 (Ztm  N) r h

noncomputable def Zm7  (n : Nat) : Zx := .call [] (vT) [] 0
def Zir (A : Array Value)  (n : Nat) : Prop := Zj Tryz.prog 33 A [] (vT) [] n 0

theorem Zm8 (A : Array Value)  (N : Nat) (h : Zgf  N = some (.r0)) (n : Nat) (hA : A = #[Value.agg #[vi (14 : Int), vi (2 : Int), vi (1 : Int), vi (6 : Int)]]) (hnd : ([] : List Nat).Nodup) (hlt : ∀ k ∈ ([] : List Nat), k < n) : Zir A   n :=
 Zm hA (LSpec.callL (show LSpec Tryz.prog 33 #[Value.agg #[vi (14 : Int), vi (2 : Int), vi (1 : Int), vi (6 : Int)]] [] (vT) [] from Zrw  N _ h) [] n [] rfl hnd hlt (show 0 ≤ 0 from by decide) (show ∀ j ∈ ([] : List Nat), j < 0 from by decide) (by rfl) trivial (by rfl) trivial trivial rfl rfl rfl rfl rfl)

noncomputable def Zop (a0 : Int) : Zbs → Value
 | .r0 => vT
 | .r1 => vf
noncomputable def Zm9 (a0 : Int) : Zbs → List (Option AObj)
 | .r0 => []
 | .r1 => []

theorem Ztn (a0 : Int) (N : Nat) : Gx Tryz.prog 33 [] #[Value.agg #[vi (14 : Int), vq, vi a0, vi (6 : Int)]] (Zop a0) (Zm9 a0) (ZdX a0 N) := by
 unfold ZdX
 refine ZN (fun g0 => ?_) (fun g0 => ?_)
 ·
  refine ZN (fun g1 => ?_) (fun g1 => ?_)
  ·
   exact Zh Zi (r := (.r0 : Zbs)) (fu := 4000) (orc := (Zl [(22, true), (23, true)] [] [] [] [])) (live := []) (u := vT) (bl := []) (ob := [((decide (a0 < (16 : Int))), true), ((decide (a0 ≥ (0 : Int))), true)]) (by kernel_rfl) (oY <| oY Zf) rfl (by decide) (by rfl) rr trivial (Zg _ rfl)
  ·
   exact Zh Zi (r := (.r1 : Zbs)) (fu := 4000) (orc := (Zl [(22, true), (23, false)] [] [] [] [])) (live := []) (u := vf) (bl := []) (ob := [((decide (a0 < (16 : Int))), false), ((decide (a0 ≥ (0 : Int))), true)]) (by kernel_rfl) (oN <| oY Zf) rfl (by decide) (by rfl) rr trivial (Zg _ rfl)
 ·
  exact Zh Zi (r := (.r1 : Zbs)) (fu := 4000) (orc := (Zl [(22, false)] [] [] [] [])) (live := []) (u := vf) (bl := []) (ob := [((decide (a0 ≥ (0 : Int))), false)]) (by kernel_rfl) (oN Zf) rfl (by decide) (by rfl) rr trivial (Zg _ rfl)

theorem ZjA (a0 : Int) (N : Nat) (r : Zbs) (h : ZdX a0 N = some r) : LSpec Tryz.prog 33 #[Value.agg #[vi (14 : Int), vq, vi a0, vi (6 : Int)]] [] (Zop a0 r) (Zm9 a0 r) :=
 (Ztn a0 N) r h

noncomputable def Zuh (a0 : Int) (n : Nat) : Zx := .call [] (vT) [] 0
def ZmA (A : Array Value) (a0 : Int) (n : Nat) : Prop := Zj Tryz.prog 33 A [] (vT) [] n 0

theorem Zui (A : Array Value) (a0 : Int) (N : Nat) (h : ZdX a0 N = some (.r0)) (n : Nat) (hA : A = #[Value.agg #[vi (14 : Int), vq, vi a0, vi (6 : Int)]]) (hnd : ([] : List Nat).Nodup) (hlt : ∀ k ∈ ([] : List Nat), k < n) : ZmA A a0  n :=
 Zm hA (LSpec.callL (show LSpec Tryz.prog 33 #[Value.agg #[vi (14 : Int), vq, vi a0, vi (6 : Int)]] [] (vT) [] from ZjA a0 N _ h) [] n [] rfl hnd hlt (show 0 ≤ 0 from by decide) (show ∀ j ∈ ([] : List Nat), j < 0 from by decide) (by rfl) trivial (by rfl) trivial trivial rfl rfl rfl rfl rfl)

noncomputable def Zuj (a0 : Int) (n : Nat) : Zx := .call [] (vf) [] 0
def ZmB (A : Array Value) (a0 : Int) (n : Nat) : Prop := Zj Tryz.prog 33 A [] (vf) [] n 0

theorem Zuk (A : Array Value) (a0 : Int) (N : Nat) (h : ZdX a0 N = some (.r1)) (n : Nat) (hA : A = #[Value.agg #[vi (14 : Int), vq, vi a0, vi (6 : Int)]]) (hnd : ([] : List Nat).Nodup) (hlt : ∀ k ∈ ([] : List Nat), k < n) : ZmB A a0  n :=
 Zm hA (LSpec.callL (show LSpec Tryz.prog 33 #[Value.agg #[vi (14 : Int), vq, vi a0, vi (6 : Int)]] [] (vf) [] from ZjA a0 N _ h) [] n [] rfl hnd hlt (show 0 ≤ 0 from by decide) (show ∀ j ∈ ([] : List Nat), j < 0 from by decide) (by rfl) trivial (by rfl) trivial trivial rfl rfl rfl rfl rfl)

noncomputable def Zoq  : Zey → Value
 | .r0 => vT
noncomputable def ZmC  : Zey → List (Option AObj)
 | .r0 => []

theorem Zto  (N : Nat) : Gx Tryz.prog 33 [] #[Value.agg #[vi (17 : Int), vq, vq, vq]] (Zoq ) (ZmC ) (ZcU  N) := by
 unfold ZcU
 exact Zh Zi (r := (.r0 : Zey)) (fu := 4000) (orc := (Zl [] [] [] [] [])) (live := []) (u := vT) (bl := []) (ob := []) (by kernel_rfl) Zf rfl (by decide) (by rfl) rr trivial (Zg _ rfl)

theorem Zrx  (N : Nat) (r : Zey) (h : ZcU  N = some r) : LSpec Tryz.prog 33 #[Value.agg #[vi (17 : Int), vq, vq, vq]] [] (Zoq  r) (ZmC  r) :=
 (Zto  N) r h

noncomputable def Zg5  (n : Nat) : Zx := .call [] (vT) [] 0
def Zfl (A : Array Value)  (n : Nat) : Prop := Zj Tryz.prog 33 A [] (vT) [] n 0

theorem Zg6 (A : Array Value)  (N : Nat) (h : ZcU  N = some (.r0)) (n : Nat) (hA : A = #[Value.agg #[vi (17 : Int), vq, vq, vq]]) (hnd : ([] : List Nat).Nodup) (hlt : ∀ k ∈ ([] : List Nat), k < n) : Zfl A   n :=
 Zm hA (LSpec.callL (show LSpec Tryz.prog 33 #[Value.agg #[vi (17 : Int), vq, vq, vq]] [] (vT) [] from Zrx  N _ h) [] n [] rfl hnd hlt (show 0 ≤ 0 from by decide) (show ∀ j ∈ ([] : List Nat), j < 0 from by decide) (by rfl) trivial (by rfl) trivial trivial rfl rfl rfl rfl rfl)

noncomputable def Zor (a0 a1 a2 : Int) : ZaC → Value
 | .r0 => vq
 | .r1 => vi (120 : Int)
noncomputable def ZmD (a0 a1 a2 : Int) : ZaC → List (Option AObj)
 | .r0 => [some (.cells [vi (10 : Int), vq, vq, vq, vi (1 : Int), vi (1 : Int), vi a0, vq, vi (15 : Int), vq, vq, vq, vi (13 : Int), vi (2 : Int), vq, vi a1, vi (9 : Int), vi (2 : Int), vi (27 : Int), vq, vi (13 : Int), vi (3 : Int), vi (2 : Int), vi (2 : Int), vi (7 : Int), vi (4 : Int), vi (1 : Int), vi (3 : Int), vi (9 : Int), vi (4 : Int), vi (9 : Int), vq, vi (8 : Int), vi (30 : Int), vq, vq, vi (6 : Int), vi (4 : Int), vi (1 : Int), vi (3 : Int), vi (9 : Int), vi (4 : Int), vi (19 : Int), vq, vi (13 : Int), vi (5 : Int), vi (2 : Int), vq, vi (9 : Int), vi (5 : Int), vi (15 : Int), vq, vi (3 : Int), vi (2 : Int), vi (5 : Int), vq, vi (8 : Int), vi (5 : Int), vq, vq, vi (11 : Int), vi (6 : Int), vi (3 : Int), vi (3 : Int), vi (14 : Int), vi (6 : Int), vi (2 : Int), vi (1 : Int), vi (14 : Int), vi (2 : Int), vq, vi (6 : Int), vi (8 : Int), vi (30 : Int), vq, vq, vi (13 : Int), vi (5 : Int), vi (2 : Int), vi (1 : Int), vi (9 : Int), vi (5 : Int), vi (23 : Int), vq, vi (3 : Int), vi (2 : Int), vi (5 : Int), vq, vi (8 : Int), vi (5 : Int), vq, vq, vi (11 : Int), vi (6 : Int), vi (3 : Int), vi (3 : Int), vi (14 : Int), vi (6 : Int), vi (2 : Int), vi (1 : Int), vi (14 : Int), vi (2 : Int), vi (1 : Int), vi (6 : Int), vi (8 : Int), vi (30 : Int), vq, vq, vi (11 : Int), vi (6 : Int), vi (3 : Int), vi (3 : Int), vi (14 : Int), vi (6 : Int), vi (2 : Int), vi (1 : Int), vi (14 : Int), vq, vi a2, vi (6 : Int), vi (17 : Int), vq, vq, vq] 42)]
 | .r1 => [some (.cells [vi (10 : Int), vq, vq, vq, vi (1 : Int), vi (1 : Int), vi a0, vq, vi (15 : Int), vq, vq, vq, vi (13 : Int), vi (2 : Int), vq, vi a1, vi (9 : Int), vi (2 : Int), vi (27 : Int), vq, vi (13 : Int), vi (3 : Int), vi (2 : Int), vi (2 : Int), vi (7 : Int), vi (4 : Int), vi (1 : Int), vi (3 : Int), vi (9 : Int), vi (4 : Int), vi (9 : Int), vq, vi (8 : Int), vi (30 : Int), vq, vq, vi (6 : Int), vi (4 : Int), vi (1 : Int), vi (3 : Int), vi (9 : Int), vi (4 : Int), vi (19 : Int), vq, vi (13 : Int), vi (5 : Int), vi (2 : Int), vq, vi (9 : Int), vi (5 : Int), vi (15 : Int), vq, vi (3 : Int), vi (2 : Int), vi (5 : Int), vq, vi (8 : Int), vi (5 : Int), vq, vq, vi (11 : Int), vi (6 : Int), vi (3 : Int), vi (3 : Int), vi (14 : Int), vi (6 : Int), vi (2 : Int), vi (1 : Int), vi (14 : Int), vi (2 : Int), vq, vi (6 : Int), vi (8 : Int), vi (30 : Int), vq, vq, vi (13 : Int), vi (5 : Int), vi (2 : Int), vi (1 : Int), vi (9 : Int), vi (5 : Int), vi (23 : Int), vq, vi (3 : Int), vi (2 : Int), vi (5 : Int), vq, vi (8 : Int), vi (5 : Int), vq, vq, vi (11 : Int), vi (6 : Int), vi (3 : Int), vi (3 : Int), vi (14 : Int), vi (6 : Int), vi (2 : Int), vi (1 : Int), vi (14 : Int), vi (2 : Int), vi (1 : Int), vi (6 : Int), vi (8 : Int), vi (30 : Int), vq, vq, vi (11 : Int), vi (6 : Int), vi (3 : Int), vi (3 : Int), vi (14 : Int), vi (6 : Int), vi (2 : Int), vi (1 : Int), vi (14 : Int), vq, vi a2, vi (6 : Int), vi (17 : Int), vq, vq, vq] 42)]

theorem Ztp (a0 a1 a2 : Int) (N : Nat) : Gx Tryz.prog 13 [.cells [vi (10 : Int), vq, vq, vq, vi (1 : Int), vi (1 : Int), vi a0, vq, vi (15 : Int), vq, vq, vq, vi (13 : Int), vi (2 : Int), vq, vi a1, vi (9 : Int), vi (2 : Int), vi (27 : Int), vq, vi (13 : Int), vi (3 : Int), vi (2 : Int), vi (2 : Int), vi (7 : Int), vi (4 : Int), vi (1 : Int), vi (3 : Int), vi (9 : Int), vi (4 : Int), vi (9 : Int), vq, vi (8 : Int), vi (30 : Int), vq, vq, vi (6 : Int), vi (4 : Int), vi (1 : Int), vi (3 : Int), vi (9 : Int), vi (4 : Int), vi (19 : Int), vq, vi (13 : Int), vi (5 : Int), vi (2 : Int), vq, vi (9 : Int), vi (5 : Int), vi (15 : Int), vq, vi (3 : Int), vi (2 : Int), vi (5 : Int), vq, vi (8 : Int), vi (5 : Int), vq, vq, vi (11 : Int), vi (6 : Int), vi (3 : Int), vi (3 : Int), vi (14 : Int), vi (6 : Int), vi (2 : Int), vi (1 : Int), vi (14 : Int), vi (2 : Int), vq, vi (6 : Int), vi (8 : Int), vi (30 : Int), vq, vq, vi (13 : Int), vi (5 : Int), vi (2 : Int), vi (1 : Int), vi (9 : Int), vi (5 : Int), vi (23 : Int), vq, vi (3 : Int), vi (2 : Int), vi (5 : Int), vq, vi (8 : Int), vi (5 : Int), vq, vq, vi (11 : Int), vi (6 : Int), vi (3 : Int), vi (3 : Int), vi (14 : Int), vi (6 : Int), vi (2 : Int), vi (1 : Int), vi (14 : Int), vi (2 : Int), vi (1 : Int), vi (6 : Int), vi (8 : Int), vi (30 : Int), vq, vq, vi (11 : Int), vi (6 : Int), vi (3 : Int), vi (3 : Int), vi (14 : Int), vi (6 : Int), vi (2 : Int), vi (1 : Int), vi (14 : Int), vq, vi a2, vi (6 : Int), vi (17 : Int), vq, vq, vq] 42] #[vs 0 0 31 31] (Zor a0 a1 a2) (ZmD a0 a1 a2) (ZcV a0 a1 a2 N) := by
 unfold ZcV
 refine Zd (fun z0 c0 => ?_)
 cases z0 with
 | r0 =>
  refine Zd (fun z1 c1 => ?_)
  cases z1 with
  | r0 =>
   refine Zd (fun z2 c2 => ?_)
   cases z2 with
   | r0 =>
    refine Zd (fun z3 c3 => ?_)
    cases z3 with
    | r0 =>
     refine Zd (fun z4 c4 => ?_)
     cases z4 with
     | r0 =>
      refine Zd (fun z5 c5 => ?_)
      cases z5 with
      | r0 =>
       refine Zd (fun z6 c6 => ?_)
       cases z6 with
       | r0 =>
        refine Zd (fun z7 c7 => ?_)
        cases z7 with
        | r0 =>
         refine Zd (fun z8 c8 => ?_)
         cases z8 with
         | r0 =>
          refine Zd (fun z9 c9 => ?_)
          cases z9 with
          | r0 =>
           refine Zd (fun z10 c10 => ?_)
           cases z10 with
           | r0 =>
            refine Zd (fun z11 c11 => ?_)
            cases z11 with
            | r0 =>
             refine Zd (fun z12 c12 => ?_)
             cases z12 with
             | r0 =>
              refine Zd (fun z13 c13 => ?_)
              cases z13 with
              | r0 =>
               refine Zd (fun z14 c14 => ?_)
               cases z14 with
               | r0 =>
                refine Zd (fun z15 c15 => ?_)
                cases z15 with
                | r0 =>
                 refine Zd (fun z16 c16 => ?_)
                 cases z16 with
                 | r0 =>
                  refine Zd (fun z17 c17 => ?_)
                  cases z17 with
                  | r0 =>
                   refine Zd (fun z18 c18 => ?_)
                   cases z18 with
                   | r0 =>
                    refine Zd (fun z19 c19 => ?_)
                    cases z19 with
                    | r0 =>
                     refine Zd (fun z20 c20 => ?_)
                     cases z20 with
                     | r0 =>
                      refine Zd (fun z21 c21 => ?_)
                      cases z21 with
                      | r0 =>
                       refine Zd (fun z22 c22 => ?_)
                       cases z22 with
                       | r0 =>
                        refine Zd (fun z23 c23 => ?_)
                        cases z23 with
                        | r0 =>
                         refine Zd (fun z24 c24 => ?_)
                         cases z24 with
                         | r0 =>
                          refine Zd (fun z25 c25 => ?_)
                          cases z25 with
                          | r0 =>
                           refine Zd (fun z26 c26 => ?_)
                           cases z26 with
                           | r0 =>
                            refine Zd (fun z27 c27 => ?_)
                            cases z27 with
                            | r0 =>
                             refine Zd (fun z28 c28 => ?_)
                             cases z28 with
                             | r0 =>
                              refine Zd (fun z29 c29 => ?_)
                              cases z29 with
                              | r0 =>
                               refine Zd (fun z30 c30 => ?_)
                               cases z30 with
                               | r0 =>
                                exact Zh Zi (r := (.r0 : ZaC)) (fu := 4000) (orc := (Zl [] [] [] [] [(0, (ZaW     2)), (1, (ZfJ (a0)    3)), (4, (Zba     7)), (5, (Zdd (a1)    8)), (6, (ZnT     9)), (7, (ZiR     10)), (8, (ZnX     11)), (9, (Zoa     12)), (10, (ZeH     13)), (11, (Zih     14)), (12, (Zmp     15)), (13, (Zik     16)), (14, (Zmt     17)), (15, (Zfh     18)), (16, (Zfj     19)), (17, (Zed     20)), (18, (Zef     21)), (19, (Zm0     22)), (20, (ZeH     23)), (21, (Zio     24)), (22, (Zm4     25)), (23, (Zfh     26)), (24, (Zfj     27)), (25, (Zed     28)), (26, (Zef     29)), (27, (Zm7     30)), (28, (ZeH     31)), (29, (Zed     32)), (30, (Zef     33)), (31, (Zuh (a2)    34)), (33, (Zg5     35))])) (live := [0]) (u := vq) (bl := [some (.cells [vi (10 : Int), vq, vq, vq, vi (1 : Int), vi (1 : Int), vi a0, vq, vi (15 : Int), vq, vq, vq, vi (13 : Int), vi (2 : Int), vq, vi a1, vi (9 : Int), vi (2 : Int), vi (27 : Int), vq, vi (13 : Int), vi (3 : Int), vi (2 : Int), vi (2 : Int), vi (7 : Int), vi (4 : Int), vi (1 : Int), vi (3 : Int), vi (9 : Int), vi (4 : Int), vi (9 : Int), vq, vi (8 : Int), vi (30 : Int), vq, vq, vi (6 : Int), vi (4 : Int), vi (1 : Int), vi (3 : Int), vi (9 : Int), vi (4 : Int), vi (19 : Int), vq, vi (13 : Int), vi (5 : Int), vi (2 : Int), vq, vi (9 : Int), vi (5 : Int), vi (15 : Int), vq, vi (3 : Int), vi (2 : Int), vi (5 : Int), vq, vi (8 : Int), vi (5 : Int), vq, vq, vi (11 : Int), vi (6 : Int), vi (3 : Int), vi (3 : Int), vi (14 : Int), vi (6 : Int), vi (2 : Int), vi (1 : Int), vi (14 : Int), vi (2 : Int), vq, vi (6 : Int), vi (8 : Int), vi (30 : Int), vq, vq, vi (13 : Int), vi (5 : Int), vi (2 : Int), vi (1 : Int), vi (9 : Int), vi (5 : Int), vi (23 : Int), vq, vi (3 : Int), vi (2 : Int), vi (5 : Int), vq, vi (8 : Int), vi (5 : Int), vq, vq, vi (11 : Int), vi (6 : Int), vi (3 : Int), vi (3 : Int), vi (14 : Int), vi (6 : Int), vi (2 : Int), vi (1 : Int), vi (14 : Int), vi (2 : Int), vi (1 : Int), vi (6 : Int), vi (8 : Int), vi (30 : Int), vq, vq, vi (11 : Int), vi (6 : Int), vi (3 : Int), vi (3 : Int), vi (14 : Int), vi (6 : Int), vi (2 : Int), vi (1 : Int), vi (14 : Int), vq, vi a2, vi (6 : Int), vi (17 : Int), vq, vq, vq] 42)]) (ob := [(dP (Zfl #[Value.agg #[vi (17 : Int), vq, vq, vq]]     35), true), (dP (ZmA #[Value.agg #[vi (14 : Int), vq, vi a2, vi (6 : Int)]] (a2)    34), true), (dP (Zcz #[Value.agg #[vi (14 : Int), vi (6 : Int), vi (2 : Int), vi (1 : Int)]]     33), true), (dP (Zcy #[Value.agg #[vi (11 : Int), vi (6 : Int), vi (3 : Int), vi (3 : Int)]]     32), true), (dP (Zdf #[Value.agg #[vi (8 : Int), vi (30 : Int), vq, vq]]     31), true), (dP (Zir #[Value.agg #[vi (14 : Int), vi (2 : Int), vi (1 : Int), vi (6 : Int)]]     30), true), (dP (Zcz #[Value.agg #[vi (14 : Int), vi (6 : Int), vi (2 : Int), vi (1 : Int)]]     29), true), (dP (Zcy #[Value.agg #[vi (11 : Int), vi (6 : Int), vi (3 : Int), vi (3 : Int)]]     28), true), (dP (Zec #[Value.agg #[vi (8 : Int), vi (5 : Int), vq, vq]]     27), true), (dP (Zeb #[Value.agg #[vi (3 : Int), vi (2 : Int), vi (5 : Int), vq]]     26), true), (dP (Ziq #[Value.agg #[vi (9 : Int), vi (5 : Int), vi (23 : Int), vq]]     25), true), (dP (Zg4 #[Value.agg #[vi (13 : Int), vi (5 : Int), vi (2 : Int), vi (1 : Int)]]     24), true), (dP (Zdf #[Value.agg #[vi (8 : Int), vi (30 : Int), vq, vq]]     23), true), (dP (Zin #[Value.agg #[vi (14 : Int), vi (2 : Int), vq, vi (6 : Int)]]     22), true), (dP (Zcz #[Value.agg #[vi (14 : Int), vi (6 : Int), vi (2 : Int), vi (1 : Int)]]     21), true), (dP (Zcy #[Value.agg #[vi (11 : Int), vi (6 : Int), vi (3 : Int), vi (3 : Int)]]     20), true), (dP (Zec #[Value.agg #[vi (8 : Int), vi (5 : Int), vq, vq]]     19), true), (dP (Zeb #[Value.agg #[vi (3 : Int), vi (2 : Int), vi (5 : Int), vq]]     18), true), (dP (Zim #[Value.agg #[vi (9 : Int), vi (5 : Int), vi (15 : Int), vq]]     17), true), (dP (Zg3 #[Value.agg #[vi (13 : Int), vi (5 : Int), vi (2 : Int), vq]]     16), true), (dP (Zij #[Value.agg #[vi (9 : Int), vi (4 : Int), vi (19 : Int), vq]]     15), true), (dP (Zg2 #[Value.agg #[vi (6 : Int), vi (4 : Int), vi (1 : Int), vi (3 : Int)]]     14), true), (dP (Zdf #[Value.agg #[vi (8 : Int), vi (30 : Int), vq, vq]]     13), true), (dP (ZiU #[Value.agg #[vi (9 : Int), vi (4 : Int), vi (9 : Int), vq]]     12), true), (dP (ZiT #[Value.agg #[vi (7 : Int), vi (4 : Int), vi (1 : Int), vi (3 : Int)]]     11), true), (dP (Zhd #[Value.agg #[vi (13 : Int), vi (3 : Int), vi (2 : Int), vi (2 : Int)]]     10), true), (dP (ZiQ #[Value.agg #[vi (9 : Int), vi (2 : Int), vi (27 : Int), vq]]     9), true), (dP (Zcr #[Value.agg #[vi (13 : Int), vi (2 : Int), vq, vi a1]] (a1)    8), true), (dP (ZaE #[Value.agg #[vi (15 : Int), vq, vq, vq]]     7), true), (dP (ZeG #[Value.agg #[vi (1 : Int), vi (1 : Int), vi a0, vq]] (a0)    3), true), (dP (ZaD #[Value.agg #[vi (10 : Int), vq, vq, vq]]     2), true)]) (by kernel_rfl) (Zb (Zc (Zg6 #[Value.agg #[vi (17 : Int), vq, vq, vq]]    N c30  35 rfl (by decide) (by decide))) <| Zb (Zc (Zui #[Value.agg #[vi (14 : Int), vq, vi a2, vi (6 : Int)]] (a2)   N c29  34 rfl (by decide) (by decide))) <| Zb (Zc (Zeg #[Value.agg #[vi (14 : Int), vi (6 : Int), vi (2 : Int), vi (1 : Int)]]    N c28  33 rfl (by decide) (by decide))) <| Zb (Zc (Zee #[Value.agg #[vi (11 : Int), vi (6 : Int), vi (3 : Int), vi (3 : Int)]]    N c27  32 rfl (by decide) (by decide))) <| Zb (Zc (ZeI #[Value.agg #[vi (8 : Int), vi (30 : Int), vq, vq]]    N c26  31 rfl (by decide) (by decide))) <| Zb (Zc (Zm8 #[Value.agg #[vi (14 : Int), vi (2 : Int), vi (1 : Int), vi (6 : Int)]]    N c25  30 rfl (by decide) (by decide))) <| Zb (Zc (Zeg #[Value.agg #[vi (14 : Int), vi (6 : Int), vi (2 : Int), vi (1 : Int)]]    N c24  29 rfl (by decide) (by decide))) <| Zb (Zc (Zee #[Value.agg #[vi (11 : Int), vi (6 : Int), vi (3 : Int), vi (3 : Int)]]    N c23  28 rfl (by decide) (by decide))) <| Zb (Zc (Zfk #[Value.agg #[vi (8 : Int), vi (5 : Int), vq, vq]]    N c22  27 rfl (by decide) (by decide))) <| Zb (Zc (Zfi #[Value.agg #[vi (3 : Int), vi (2 : Int), vi (5 : Int), vq]]    N c21  26 rfl (by decide) (by decide))) <| Zb (Zc (Zm5 #[Value.agg #[vi (9 : Int), vi (5 : Int), vi (23 : Int), vq]]    N c20  25 rfl (by decide) (by decide))) <| Zb (Zc (Zip #[Value.agg #[vi (13 : Int), vi (5 : Int), vi (2 : Int), vi (1 : Int)]]    N c19  24 rfl (by decide) (by decide))) <| Zb (Zc (ZeI #[Value.agg #[vi (8 : Int), vi (30 : Int), vq, vq]]    N c18  23 rfl (by decide) (by decide))) <| Zb (Zc (Zm1 #[Value.agg #[vi (14 : Int), vi (2 : Int), vq, vi (6 : Int)]]    N c17  22 rfl (by decide) (by decide))) <| Zb (Zc (Zeg #[Value.agg #[vi (14 : Int), vi (6 : Int), vi (2 : Int), vi (1 : Int)]]    N c16  21 rfl (by decide) (by decide))) <| Zb (Zc (Zee #[Value.agg #[vi (11 : Int), vi (6 : Int), vi (3 : Int), vi (3 : Int)]]    N c15  20 rfl (by decide) (by decide))) <| Zb (Zc (Zfk #[Value.agg #[vi (8 : Int), vi (5 : Int), vq, vq]]    N c14  19 rfl (by decide) (by decide))) <| Zb (Zc (Zfi #[Value.agg #[vi (3 : Int), vi (2 : Int), vi (5 : Int), vq]]    N c13  18 rfl (by decide) (by decide))) <| Zb (Zc (Zmu #[Value.agg #[vi (9 : Int), vi (5 : Int), vi (15 : Int), vq]]    N c12  17 rfl (by decide) (by decide))) <| Zb (Zc (Zil #[Value.agg #[vi (13 : Int), vi (5 : Int), vi (2 : Int), vq]]    N c11  16 rfl (by decide) (by decide))) <| Zb (Zc (Zmq #[Value.agg #[vi (9 : Int), vi (4 : Int), vi (19 : Int), vq]]    N c10  15 rfl (by decide) (by decide))) <| Zb (Zc (Zii #[Value.agg #[vi (6 : Int), vi (4 : Int), vi (1 : Int), vi (3 : Int)]]    N c9  14 rfl (by decide) (by decide))) <| Zb (Zc (ZeI #[Value.agg #[vi (8 : Int), vi (30 : Int), vq, vq]]    N c8  13 rfl (by decide) (by decide))) <| Zb (Zc (Zob #[Value.agg #[vi (9 : Int), vi (4 : Int), vi (9 : Int), vq]]    N c7  12 rfl (by decide) (by decide))) <| Zb (Zc (ZnY #[Value.agg #[vi (7 : Int), vi (4 : Int), vi (1 : Int), vi (3 : Int)]]    N c6  11 rfl (by decide) (by decide))) <| Zb (Zc (ZiS #[Value.agg #[vi (13 : Int), vi (3 : Int), vi (2 : Int), vi (2 : Int)]]    N c5  10 rfl (by decide) (by decide))) <| Zb (Zc (ZnU #[Value.agg #[vi (9 : Int), vi (2 : Int), vi (27 : Int), vq]]    N c4  9 rfl (by decide) (by decide))) <| Zb (Zc (Zde #[Value.agg #[vi (13 : Int), vi (2 : Int), vq, vi a1]] (a1)   N c3  8 rfl (by decide) (by decide))) <| Zb (Zc (Zbb #[Value.agg #[vi (15 : Int), vq, vq, vq]]    N c2  7 rfl (by decide) (by decide))) <| Zb (Zc (ZfK #[Value.agg #[vi (1 : Int), vi (1 : Int), vi a0, vq]] (a0)   N c1  3 rfl (by decide) (by decide))) <| Zb (Zc (ZaX #[Value.agg #[vi (10 : Int), vq, vq, vq]]    N c0  2 rfl (by decide) (by decide))) Zf) rfl (by decide) (by rfl) rr ⟨⟨rfl, ⟨[], by rfl⟩, by rfl⟩, trivial⟩ (Zg _ rfl)
                              | r1 =>
                               exact Zh Zi (r := (.r1 : ZaC)) (fu := 4000) (orc := (Zl [(241, false)] [] [] [] [(0, (ZaW     2)), (1, (ZfJ (a0)    3)), (4, (Zba     7)), (5, (Zdd (a1)    8)), (6, (ZnT     9)), (7, (ZiR     10)), (8, (ZnX     11)), (9, (Zoa     12)), (10, (ZeH     13)), (11, (Zih     14)), (12, (Zmp     15)), (13, (Zik     16)), (14, (Zmt     17)), (15, (Zfh     18)), (16, (Zfj     19)), (17, (Zed     20)), (18, (Zef     21)), (19, (Zm0     22)), (20, (ZeH     23)), (21, (Zio     24)), (22, (Zm4     25)), (23, (Zfh     26)), (24, (Zfj     27)), (25, (Zed     28)), (26, (Zef     29)), (27, (Zm7     30)), (28, (ZeH     31)), (29, (Zed     32)), (30, (Zef     33)), (31, (Zuj (a2)    34))])) (live := [0]) (u := vi (120 : Int)) (bl := [some (.cells [vi (10 : Int), vq, vq, vq, vi (1 : Int), vi (1 : Int), vi a0, vq, vi (15 : Int), vq, vq, vq, vi (13 : Int), vi (2 : Int), vq, vi a1, vi (9 : Int), vi (2 : Int), vi (27 : Int), vq, vi (13 : Int), vi (3 : Int), vi (2 : Int), vi (2 : Int), vi (7 : Int), vi (4 : Int), vi (1 : Int), vi (3 : Int), vi (9 : Int), vi (4 : Int), vi (9 : Int), vq, vi (8 : Int), vi (30 : Int), vq, vq, vi (6 : Int), vi (4 : Int), vi (1 : Int), vi (3 : Int), vi (9 : Int), vi (4 : Int), vi (19 : Int), vq, vi (13 : Int), vi (5 : Int), vi (2 : Int), vq, vi (9 : Int), vi (5 : Int), vi (15 : Int), vq, vi (3 : Int), vi (2 : Int), vi (5 : Int), vq, vi (8 : Int), vi (5 : Int), vq, vq, vi (11 : Int), vi (6 : Int), vi (3 : Int), vi (3 : Int), vi (14 : Int), vi (6 : Int), vi (2 : Int), vi (1 : Int), vi (14 : Int), vi (2 : Int), vq, vi (6 : Int), vi (8 : Int), vi (30 : Int), vq, vq, vi (13 : Int), vi (5 : Int), vi (2 : Int), vi (1 : Int), vi (9 : Int), vi (5 : Int), vi (23 : Int), vq, vi (3 : Int), vi (2 : Int), vi (5 : Int), vq, vi (8 : Int), vi (5 : Int), vq, vq, vi (11 : Int), vi (6 : Int), vi (3 : Int), vi (3 : Int), vi (14 : Int), vi (6 : Int), vi (2 : Int), vi (1 : Int), vi (14 : Int), vi (2 : Int), vi (1 : Int), vi (6 : Int), vi (8 : Int), vi (30 : Int), vq, vq, vi (11 : Int), vi (6 : Int), vi (3 : Int), vi (3 : Int), vi (14 : Int), vi (6 : Int), vi (2 : Int), vi (1 : Int), vi (14 : Int), vq, vi a2, vi (6 : Int), vi (17 : Int), vq, vq, vq] 42)]) (ob := [((((14 : Int) == (15 : Int)) && (((0 : Int) == (0 : Int)) && ((a2 == (0 : Int)) && (((6 : Int) == (0 : Int)) && true)))), false), (dP (ZmB #[Value.agg #[vi (14 : Int), vq, vi a2, vi (6 : Int)]] (a2)    34), true), (dP (Zcz #[Value.agg #[vi (14 : Int), vi (6 : Int), vi (2 : Int), vi (1 : Int)]]     33), true), (dP (Zcy #[Value.agg #[vi (11 : Int), vi (6 : Int), vi (3 : Int), vi (3 : Int)]]     32), true), (dP (Zdf #[Value.agg #[vi (8 : Int), vi (30 : Int), vq, vq]]     31), true), (dP (Zir #[Value.agg #[vi (14 : Int), vi (2 : Int), vi (1 : Int), vi (6 : Int)]]     30), true), (dP (Zcz #[Value.agg #[vi (14 : Int), vi (6 : Int), vi (2 : Int), vi (1 : Int)]]     29), true), (dP (Zcy #[Value.agg #[vi (11 : Int), vi (6 : Int), vi (3 : Int), vi (3 : Int)]]     28), true), (dP (Zec #[Value.agg #[vi (8 : Int), vi (5 : Int), vq, vq]]     27), true), (dP (Zeb #[Value.agg #[vi (3 : Int), vi (2 : Int), vi (5 : Int), vq]]     26), true), (dP (Ziq #[Value.agg #[vi (9 : Int), vi (5 : Int), vi (23 : Int), vq]]     25), true), (dP (Zg4 #[Value.agg #[vi (13 : Int), vi (5 : Int), vi (2 : Int), vi (1 : Int)]]     24), true), (dP (Zdf #[Value.agg #[vi (8 : Int), vi (30 : Int), vq, vq]]     23), true), (dP (Zin #[Value.agg #[vi (14 : Int), vi (2 : Int), vq, vi (6 : Int)]]     22), true), (dP (Zcz #[Value.agg #[vi (14 : Int), vi (6 : Int), vi (2 : Int), vi (1 : Int)]]     21), true), (dP (Zcy #[Value.agg #[vi (11 : Int), vi (6 : Int), vi (3 : Int), vi (3 : Int)]]     20), true), (dP (Zec #[Value.agg #[vi (8 : Int), vi (5 : Int), vq, vq]]     19), true), (dP (Zeb #[Value.agg #[vi (3 : Int), vi (2 : Int), vi (5 : Int), vq]]     18), true), (dP (Zim #[Value.agg #[vi (9 : Int), vi (5 : Int), vi (15 : Int), vq]]     17), true), (dP (Zg3 #[Value.agg #[vi (13 : Int), vi (5 : Int), vi (2 : Int), vq]]     16), true), (dP (Zij #[Value.agg #[vi (9 : Int), vi (4 : Int), vi (19 : Int), vq]]     15), true), (dP (Zg2 #[Value.agg #[vi (6 : Int), vi (4 : Int), vi (1 : Int), vi (3 : Int)]]     14), true), (dP (Zdf #[Value.agg #[vi (8 : Int), vi (30 : Int), vq, vq]]     13), true), (dP (ZiU #[Value.agg #[vi (9 : Int), vi (4 : Int), vi (9 : Int), vq]]     12), true), (dP (ZiT #[Value.agg #[vi (7 : Int), vi (4 : Int), vi (1 : Int), vi (3 : Int)]]     11), true), (dP (Zhd #[Value.agg #[vi (13 : Int), vi (3 : Int), vi (2 : Int), vi (2 : Int)]]     10), true), (dP (ZiQ #[Value.agg #[vi (9 : Int), vi (2 : Int), vi (27 : Int), vq]]     9), true), (dP (Zcr #[Value.agg #[vi (13 : Int), vi (2 : Int), vq, vi a1]] (a1)    8), true), (dP (ZaE #[Value.agg #[vi (15 : Int), vq, vq, vq]]     7), true), (dP (ZeG #[Value.agg #[vi (1 : Int), vi (1 : Int), vi a0, vq]] (a0)    3), true), (dP (ZaD #[Value.agg #[vi (10 : Int), vq, vq, vq]]     2), true)]) (by kernel_rfl) (Zb (Bool.eq_false_iff.2 (by simp only [ne_eq, Bool.and_true, Bool.and_eq_true, beq_iff_eq]; first | omega | (intro hh; simp_all; done) | (intro hh; grind))) <| Zb (Zc (Zuk #[Value.agg #[vi (14 : Int), vq, vi a2, vi (6 : Int)]] (a2)   N c29  34 rfl (by decide) (by decide))) <| Zb (Zc (Zeg #[Value.agg #[vi (14 : Int), vi (6 : Int), vi (2 : Int), vi (1 : Int)]]    N c28  33 rfl (by decide) (by decide))) <| Zb (Zc (Zee #[Value.agg #[vi (11 : Int), vi (6 : Int), vi (3 : Int), vi (3 : Int)]]    N c27  32 rfl (by decide) (by decide))) <| Zb (Zc (ZeI #[Value.agg #[vi (8 : Int), vi (30 : Int), vq, vq]]    N c26  31 rfl (by decide) (by decide))) <| Zb (Zc (Zm8 #[Value.agg #[vi (14 : Int), vi (2 : Int), vi (1 : Int), vi (6 : Int)]]    N c25  30 rfl (by decide) (by decide))) <| Zb (Zc (Zeg #[Value.agg #[vi (14 : Int), vi (6 : Int), vi (2 : Int), vi (1 : Int)]]    N c24  29 rfl (by decide) (by decide))) <| Zb (Zc (Zee #[Value.agg #[vi (11 : Int), vi (6 : Int), vi (3 : Int), vi (3 : Int)]]    N c23  28 rfl (by decide) (by decide))) <| Zb (Zc (Zfk #[Value.agg #[vi (8 : Int), vi (5 : Int), vq, vq]]    N c22  27 rfl (by decide) (by decide))) <| Zb (Zc (Zfi #[Value.agg #[vi (3 : Int), vi (2 : Int), vi (5 : Int), vq]]    N c21  26 rfl (by decide) (by decide))) <| Zb (Zc (Zm5 #[Value.agg #[vi (9 : Int), vi (5 : Int), vi (23 : Int), vq]]    N c20  25 rfl (by decide) (by decide))) <| Zb (Zc (Zip #[Value.agg #[vi (13 : Int), vi (5 : Int), vi (2 : Int), vi (1 : Int)]]    N c19  24 rfl (by decide) (by decide))) <| Zb (Zc (ZeI #[Value.agg #[vi (8 : Int), vi (30 : Int), vq, vq]]    N c18  23 rfl (by decide) (by decide))) <| Zb (Zc (Zm1 #[Value.agg #[vi (14 : Int), vi (2 : Int), vq, vi (6 : Int)]]    N c17  22 rfl (by decide) (by decide))) <| Zb (Zc (Zeg #[Value.agg #[vi (14 : Int), vi (6 : Int), vi (2 : Int), vi (1 : Int)]]    N c16  21 rfl (by decide) (by decide))) <| Zb (Zc (Zee #[Value.agg #[vi (11 : Int), vi (6 : Int), vi (3 : Int), vi (3 : Int)]]    N c15  20 rfl (by decide) (by decide))) <| Zb (Zc (Zfk #[Value.agg #[vi (8 : Int), vi (5 : Int), vq, vq]]    N c14  19 rfl (by decide) (by decide))) <| Zb (Zc (Zfi #[Value.agg #[vi (3 : Int), vi (2 : Int), vi (5 : Int), vq]]    N c13  18 rfl (by decide) (by decide))) <| Zb (Zc (Zmu #[Value.agg #[vi (9 : Int), vi (5 : Int), vi (15 : Int), vq]]    N c12  17 rfl (by decide) (by decide))) <| Zb (Zc (Zil #[Value.agg #[vi (13 : Int), vi (5 : Int), vi (2 : Int), vq]]    N c11  16 rfl (by decide) (by decide))) <| Zb (Zc (Zmq #[Value.agg #[vi (9 : Int), vi (4 : Int), vi (19 : Int), vq]]    N c10  15 rfl (by decide) (by decide))) <| Zb (Zc (Zii #[Value.agg #[vi (6 : Int), vi (4 : Int), vi (1 : Int), vi (3 : Int)]]    N c9  14 rfl (by decide) (by decide))) <| Zb (Zc (ZeI #[Value.agg #[vi (8 : Int), vi (30 : Int), vq, vq]]    N c8  13 rfl (by decide) (by decide))) <| Zb (Zc (Zob #[Value.agg #[vi (9 : Int), vi (4 : Int), vi (9 : Int), vq]]    N c7  12 rfl (by decide) (by decide))) <| Zb (Zc (ZnY #[Value.agg #[vi (7 : Int), vi (4 : Int), vi (1 : Int), vi (3 : Int)]]    N c6  11 rfl (by decide) (by decide))) <| Zb (Zc (ZiS #[Value.agg #[vi (13 : Int), vi (3 : Int), vi (2 : Int), vi (2 : Int)]]    N c5  10 rfl (by decide) (by decide))) <| Zb (Zc (ZnU #[Value.agg #[vi (9 : Int), vi (2 : Int), vi (27 : Int), vq]]    N c4  9 rfl (by decide) (by decide))) <| Zb (Zc (Zde #[Value.agg #[vi (13 : Int), vi (2 : Int), vq, vi a1]] (a1)   N c3  8 rfl (by decide) (by decide))) <| Zb (Zc (Zbb #[Value.agg #[vi (15 : Int), vq, vq, vq]]    N c2  7 rfl (by decide) (by decide))) <| Zb (Zc (ZfK #[Value.agg #[vi (1 : Int), vi (1 : Int), vi a0, vq]] (a0)   N c1  3 rfl (by decide) (by decide))) <| Zb (Zc (ZaX #[Value.agg #[vi (10 : Int), vq, vq, vq]]    N c0  2 rfl (by decide) (by decide))) Zf) rfl (by decide) (by rfl) rr ⟨⟨rfl, ⟨[], by rfl⟩, by rfl⟩, trivial⟩ (Zg _ rfl)
    | r1 =>
     exact Zh Zi (r := (.r1 : ZaC)) (fu := 4000) (orc := (Zl [(33, false)] [] [] [] [(0, (ZaW     2)), (1, (ZfJ (a0)    3)), (4, (Zba     7)), (5, (Zhb (a1)    8))])) (live := [0]) (u := vi (120 : Int)) (bl := [some (.cells [vi (10 : Int), vq, vq, vq, vi (1 : Int), vi (1 : Int), vi a0, vq, vi (15 : Int), vq, vq, vq, vi (13 : Int), vi (2 : Int), vq, vi a1, vi (9 : Int), vi (2 : Int), vi (27 : Int), vq, vi (13 : Int), vi (3 : Int), vi (2 : Int), vi (2 : Int), vi (7 : Int), vi (4 : Int), vi (1 : Int), vi (3 : Int), vi (9 : Int), vi (4 : Int), vi (9 : Int), vq, vi (8 : Int), vi (30 : Int), vq, vq, vi (6 : Int), vi (4 : Int), vi (1 : Int), vi (3 : Int), vi (9 : Int), vi (4 : Int), vi (19 : Int), vq, vi (13 : Int), vi (5 : Int), vi (2 : Int), vq, vi (9 : Int), vi (5 : Int), vi (15 : Int), vq, vi (3 : Int), vi (2 : Int), vi (5 : Int), vq, vi (8 : Int), vi (5 : Int), vq, vq, vi (11 : Int), vi (6 : Int), vi (3 : Int), vi (3 : Int), vi (14 : Int), vi (6 : Int), vi (2 : Int), vi (1 : Int), vi (14 : Int), vi (2 : Int), vq, vi (6 : Int), vi (8 : Int), vi (30 : Int), vq, vq, vi (13 : Int), vi (5 : Int), vi (2 : Int), vi (1 : Int), vi (9 : Int), vi (5 : Int), vi (23 : Int), vq, vi (3 : Int), vi (2 : Int), vi (5 : Int), vq, vi (8 : Int), vi (5 : Int), vq, vq, vi (11 : Int), vi (6 : Int), vi (3 : Int), vi (3 : Int), vi (14 : Int), vi (6 : Int), vi (2 : Int), vi (1 : Int), vi (14 : Int), vi (2 : Int), vi (1 : Int), vi (6 : Int), vi (8 : Int), vi (30 : Int), vq, vq, vi (11 : Int), vi (6 : Int), vi (3 : Int), vi (3 : Int), vi (14 : Int), vi (6 : Int), vi (2 : Int), vi (1 : Int), vi (14 : Int), vq, vi a2, vi (6 : Int), vi (17 : Int), vq, vq, vq] 42)]) (ob := [((((13 : Int) == (15 : Int)) && (((2 : Int) == (0 : Int)) && (((0 : Int) == (0 : Int)) && ((a1 == (0 : Int)) && true)))), false), (dP (ZfL #[Value.agg #[vi (13 : Int), vi (2 : Int), vq, vi a1]] (a1)    8), true), (dP (ZaE #[Value.agg #[vi (15 : Int), vq, vq, vq]]     7), true), (dP (ZeG #[Value.agg #[vi (1 : Int), vi (1 : Int), vi a0, vq]] (a0)    3), true), (dP (ZaD #[Value.agg #[vi (10 : Int), vq, vq, vq]]     2), true)]) (by kernel_rfl) (Zb (Bool.eq_false_iff.2 (by simp only [ne_eq, Bool.and_true, Bool.and_eq_true, beq_iff_eq]; first | omega | (intro hh; simp_all; done) | (intro hh; grind))) <| Zb (Zc (Zhc #[Value.agg #[vi (13 : Int), vi (2 : Int), vq, vi a1]] (a1)   N c3  8 rfl (by decide) (by decide))) <| Zb (Zc (Zbb #[Value.agg #[vi (15 : Int), vq, vq, vq]]    N c2  7 rfl (by decide) (by decide))) <| Zb (Zc (ZfK #[Value.agg #[vi (1 : Int), vi (1 : Int), vi a0, vq]] (a0)   N c1  3 rfl (by decide) (by decide))) <| Zb (Zc (ZaX #[Value.agg #[vi (10 : Int), vq, vq, vq]]    N c0  2 rfl (by decide) (by decide))) Zf) rfl (by decide) (by rfl) rr ⟨⟨rfl, ⟨[], by rfl⟩, by rfl⟩, trivial⟩ (Zg _ rfl)
  | r1 =>
   exact Zh Zi (r := (.r1 : ZaC)) (fu := 4000) (orc := (Zl [(20, false)] [] [] [] [(0, (ZaW     2)), (1, (ZnO (a0)    3))])) (live := [0]) (u := vi (120 : Int)) (bl := [some (.cells [vi (10 : Int), vq, vq, vq, vi (1 : Int), vi (1 : Int), vi a0, vq, vi (15 : Int), vq, vq, vq, vi (13 : Int), vi (2 : Int), vq, vi a1, vi (9 : Int), vi (2 : Int), vi (27 : Int), vq, vi (13 : Int), vi (3 : Int), vi (2 : Int), vi (2 : Int), vi (7 : Int), vi (4 : Int), vi (1 : Int), vi (3 : Int), vi (9 : Int), vi (4 : Int), vi (9 : Int), vq, vi (8 : Int), vi (30 : Int), vq, vq, vi (6 : Int), vi (4 : Int), vi (1 : Int), vi (3 : Int), vi (9 : Int), vi (4 : Int), vi (19 : Int), vq, vi (13 : Int), vi (5 : Int), vi (2 : Int), vq, vi (9 : Int), vi (5 : Int), vi (15 : Int), vq, vi (3 : Int), vi (2 : Int), vi (5 : Int), vq, vi (8 : Int), vi (5 : Int), vq, vq, vi (11 : Int), vi (6 : Int), vi (3 : Int), vi (3 : Int), vi (14 : Int), vi (6 : Int), vi (2 : Int), vi (1 : Int), vi (14 : Int), vi (2 : Int), vq, vi (6 : Int), vi (8 : Int), vi (30 : Int), vq, vq, vi (13 : Int), vi (5 : Int), vi (2 : Int), vi (1 : Int), vi (9 : Int), vi (5 : Int), vi (23 : Int), vq, vi (3 : Int), vi (2 : Int), vi (5 : Int), vq, vi (8 : Int), vi (5 : Int), vq, vq, vi (11 : Int), vi (6 : Int), vi (3 : Int), vi (3 : Int), vi (14 : Int), vi (6 : Int), vi (2 : Int), vi (1 : Int), vi (14 : Int), vi (2 : Int), vi (1 : Int), vi (6 : Int), vi (8 : Int), vi (30 : Int), vq, vq, vi (11 : Int), vi (6 : Int), vi (3 : Int), vi (3 : Int), vi (14 : Int), vi (6 : Int), vi (2 : Int), vi (1 : Int), vi (14 : Int), vq, vi a2, vi (6 : Int), vi (17 : Int), vq, vq, vq] 42)]) (ob := [((((1 : Int) == (15 : Int)) && (((1 : Int) == (0 : Int)) && ((a0 == (0 : Int)) && (((0 : Int) == (0 : Int)) && true)))), false), (dP (ZiP #[Value.agg #[vi (1 : Int), vi (1 : Int), vi a0, vq]] (a0)    3), true), (dP (ZaD #[Value.agg #[vi (10 : Int), vq, vq, vq]]     2), true)]) (by kernel_rfl) (Zb (Bool.eq_false_iff.2 (by simp only [ne_eq, Bool.and_true, Bool.and_eq_true, beq_iff_eq]; first | omega | (intro hh; simp_all; done) | (intro hh; grind))) <| Zb (Zc (ZnP #[Value.agg #[vi (1 : Int), vi (1 : Int), vi a0, vq]] (a0)   N c1  3 rfl (by decide) (by decide))) <| Zb (Zc (ZaX #[Value.agg #[vi (10 : Int), vq, vq, vq]]    N c0  2 rfl (by decide) (by decide))) Zf) rfl (by decide) (by rfl) rr ⟨⟨rfl, ⟨[], by rfl⟩, by rfl⟩, trivial⟩ (Zg _ rfl)

theorem Zry (a0 a1 a2 : Int) (N : Nat) (r : ZaC) (h : ZcV a0 a1 a2 N = some r) : LSpec Tryz.prog 13 #[vs 0 0 31 31] [.cells [vi (10 : Int), vq, vq, vq, vi (1 : Int), vi (1 : Int), vi a0, vq, vi (15 : Int), vq, vq, vq, vi (13 : Int), vi (2 : Int), vq, vi a1, vi (9 : Int), vi (2 : Int), vi (27 : Int), vq, vi (13 : Int), vi (3 : Int), vi (2 : Int), vi (2 : Int), vi (7 : Int), vi (4 : Int), vi (1 : Int), vi (3 : Int), vi (9 : Int), vi (4 : Int), vi (9 : Int), vq, vi (8 : Int), vi (30 : Int), vq, vq, vi (6 : Int), vi (4 : Int), vi (1 : Int), vi (3 : Int), vi (9 : Int), vi (4 : Int), vi (19 : Int), vq, vi (13 : Int), vi (5 : Int), vi (2 : Int), vq, vi (9 : Int), vi (5 : Int), vi (15 : Int), vq, vi (3 : Int), vi (2 : Int), vi (5 : Int), vq, vi (8 : Int), vi (5 : Int), vq, vq, vi (11 : Int), vi (6 : Int), vi (3 : Int), vi (3 : Int), vi (14 : Int), vi (6 : Int), vi (2 : Int), vi (1 : Int), vi (14 : Int), vi (2 : Int), vq, vi (6 : Int), vi (8 : Int), vi (30 : Int), vq, vq, vi (13 : Int), vi (5 : Int), vi (2 : Int), vi (1 : Int), vi (9 : Int), vi (5 : Int), vi (23 : Int), vq, vi (3 : Int), vi (2 : Int), vi (5 : Int), vq, vi (8 : Int), vi (5 : Int), vq, vq, vi (11 : Int), vi (6 : Int), vi (3 : Int), vi (3 : Int), vi (14 : Int), vi (6 : Int), vi (2 : Int), vi (1 : Int), vi (14 : Int), vi (2 : Int), vi (1 : Int), vi (6 : Int), vi (8 : Int), vi (30 : Int), vq, vq, vi (11 : Int), vi (6 : Int), vi (3 : Int), vi (3 : Int), vi (14 : Int), vi (6 : Int), vi (2 : Int), vi (1 : Int), vi (14 : Int), vq, vi a2, vi (6 : Int), vi (17 : Int), vq, vq, vq] 42] (Zor a0 a1 a2 r) (ZmD a0 a1 a2 r) :=
 (Ztp a0 a1 a2 N) r h

noncomputable def ZmE (a0 a1 a2 : Int) (k0 n : Nat) : Zx := .call [(k0, .cells [vi (10 : Int), vq, vq, vq, vi (1 : Int), vi (1 : Int), vi a0, vq, vi (15 : Int), vq, vq, vq, vi (13 : Int), vi (2 : Int), vq, vi a1, vi (9 : Int), vi (2 : Int), vi (27 : Int), vq, vi (13 : Int), vi (3 : Int), vi (2 : Int), vi (2 : Int), vi (7 : Int), vi (4 : Int), vi (1 : Int), vi (3 : Int), vi (9 : Int), vi (4 : Int), vi (9 : Int), vq, vi (8 : Int), vi (30 : Int), vq, vq, vi (6 : Int), vi (4 : Int), vi (1 : Int), vi (3 : Int), vi (9 : Int), vi (4 : Int), vi (19 : Int), vq, vi (13 : Int), vi (5 : Int), vi (2 : Int), vq, vi (9 : Int), vi (5 : Int), vi (15 : Int), vq, vi (3 : Int), vi (2 : Int), vi (5 : Int), vq, vi (8 : Int), vi (5 : Int), vq, vq, vi (11 : Int), vi (6 : Int), vi (3 : Int), vi (3 : Int), vi (14 : Int), vi (6 : Int), vi (2 : Int), vi (1 : Int), vi (14 : Int), vi (2 : Int), vq, vi (6 : Int), vi (8 : Int), vi (30 : Int), vq, vq, vi (13 : Int), vi (5 : Int), vi (2 : Int), vi (1 : Int), vi (9 : Int), vi (5 : Int), vi (23 : Int), vq, vi (3 : Int), vi (2 : Int), vi (5 : Int), vq, vi (8 : Int), vi (5 : Int), vq, vq, vi (11 : Int), vi (6 : Int), vi (3 : Int), vi (3 : Int), vi (14 : Int), vi (6 : Int), vi (2 : Int), vi (1 : Int), vi (14 : Int), vi (2 : Int), vi (1 : Int), vi (6 : Int), vi (8 : Int), vi (30 : Int), vq, vq, vi (11 : Int), vi (6 : Int), vi (3 : Int), vi (3 : Int), vi (14 : Int), vi (6 : Int), vi (2 : Int), vi (1 : Int), vi (14 : Int), vq, vi a2, vi (6 : Int), vi (17 : Int), vq, vq, vq] 42)] (vq) [] 0
def Zis (A : Array Value) (a0 a1 a2 : Int) (k0 n : Nat) : Prop := Zj Tryz.prog 13 A [(k0, .cells [vi (10 : Int), vq, vq, vq, vi (1 : Int), vi (1 : Int), vi a0, vq, vi (15 : Int), vq, vq, vq, vi (13 : Int), vi (2 : Int), vq, vi a1, vi (9 : Int), vi (2 : Int), vi (27 : Int), vq, vi (13 : Int), vi (3 : Int), vi (2 : Int), vi (2 : Int), vi (7 : Int), vi (4 : Int), vi (1 : Int), vi (3 : Int), vi (9 : Int), vi (4 : Int), vi (9 : Int), vq, vi (8 : Int), vi (30 : Int), vq, vq, vi (6 : Int), vi (4 : Int), vi (1 : Int), vi (3 : Int), vi (9 : Int), vi (4 : Int), vi (19 : Int), vq, vi (13 : Int), vi (5 : Int), vi (2 : Int), vq, vi (9 : Int), vi (5 : Int), vi (15 : Int), vq, vi (3 : Int), vi (2 : Int), vi (5 : Int), vq, vi (8 : Int), vi (5 : Int), vq, vq, vi (11 : Int), vi (6 : Int), vi (3 : Int), vi (3 : Int), vi (14 : Int), vi (6 : Int), vi (2 : Int), vi (1 : Int), vi (14 : Int), vi (2 : Int), vq, vi (6 : Int), vi (8 : Int), vi (30 : Int), vq, vq, vi (13 : Int), vi (5 : Int), vi (2 : Int), vi (1 : Int), vi (9 : Int), vi (5 : Int), vi (23 : Int), vq, vi (3 : Int), vi (2 : Int), vi (5 : Int), vq, vi (8 : Int), vi (5 : Int), vq, vq, vi (11 : Int), vi (6 : Int), vi (3 : Int), vi (3 : Int), vi (14 : Int), vi (6 : Int), vi (2 : Int), vi (1 : Int), vi (14 : Int), vi (2 : Int), vi (1 : Int), vi (6 : Int), vi (8 : Int), vi (30 : Int), vq, vq, vi (11 : Int), vi (6 : Int), vi (3 : Int), vi (3 : Int), vi (14 : Int), vi (6 : Int), vi (2 : Int), vi (1 : Int), vi (14 : Int), vq, vi a2, vi (6 : Int), vi (17 : Int), vq, vq, vq] 42)] (vq) [] n 0

theorem ZmF (A : Array Value) (a0 a1 a2 : Int) (N : Nat) (h : ZcV a0 a1 a2 N = some (.r0)) (k0 n : Nat) (hA : A = #[vs k0 0 31 31]) (hnd : ([k0] : List Nat).Nodup) (hlt : ∀ k ∈ ([k0] : List Nat), k < n) : Zis A a0 a1 a2 k0 n :=
 Zm hA (LSpec.callL (show LSpec Tryz.prog 13 #[vs 0 0 31 31] [.cells [vi (10 : Int), vq, vq, vq, vi (1 : Int), vi (1 : Int), vi a0, vq, vi (15 : Int), vq, vq, vq, vi (13 : Int), vi (2 : Int), vq, vi a1, vi (9 : Int), vi (2 : Int), vi (27 : Int), vq, vi (13 : Int), vi (3 : Int), vi (2 : Int), vi (2 : Int), vi (7 : Int), vi (4 : Int), vi (1 : Int), vi (3 : Int), vi (9 : Int), vi (4 : Int), vi (9 : Int), vq, vi (8 : Int), vi (30 : Int), vq, vq, vi (6 : Int), vi (4 : Int), vi (1 : Int), vi (3 : Int), vi (9 : Int), vi (4 : Int), vi (19 : Int), vq, vi (13 : Int), vi (5 : Int), vi (2 : Int), vq, vi (9 : Int), vi (5 : Int), vi (15 : Int), vq, vi (3 : Int), vi (2 : Int), vi (5 : Int), vq, vi (8 : Int), vi (5 : Int), vq, vq, vi (11 : Int), vi (6 : Int), vi (3 : Int), vi (3 : Int), vi (14 : Int), vi (6 : Int), vi (2 : Int), vi (1 : Int), vi (14 : Int), vi (2 : Int), vq, vi (6 : Int), vi (8 : Int), vi (30 : Int), vq, vq, vi (13 : Int), vi (5 : Int), vi (2 : Int), vi (1 : Int), vi (9 : Int), vi (5 : Int), vi (23 : Int), vq, vi (3 : Int), vi (2 : Int), vi (5 : Int), vq, vi (8 : Int), vi (5 : Int), vq, vq, vi (11 : Int), vi (6 : Int), vi (3 : Int), vi (3 : Int), vi (14 : Int), vi (6 : Int), vi (2 : Int), vi (1 : Int), vi (14 : Int), vi (2 : Int), vi (1 : Int), vi (6 : Int), vi (8 : Int), vi (30 : Int), vq, vq, vi (11 : Int), vi (6 : Int), vi (3 : Int), vi (3 : Int), vi (14 : Int), vi (6 : Int), vi (2 : Int), vi (1 : Int), vi (14 : Int), vq, vi a2, vi (6 : Int), vi (17 : Int), vq, vq, vq] 42] (vq) [some (.cells [vi (10 : Int), vq, vq, vq, vi (1 : Int), vi (1 : Int), vi a0, vq, vi (15 : Int), vq, vq, vq, vi (13 : Int), vi (2 : Int), vq, vi a1, vi (9 : Int), vi (2 : Int), vi (27 : Int), vq, vi (13 : Int), vi (3 : Int), vi (2 : Int), vi (2 : Int), vi (7 : Int), vi (4 : Int), vi (1 : Int), vi (3 : Int), vi (9 : Int), vi (4 : Int), vi (9 : Int), vq, vi (8 : Int), vi (30 : Int), vq, vq, vi (6 : Int), vi (4 : Int), vi (1 : Int), vi (3 : Int), vi (9 : Int), vi (4 : Int), vi (19 : Int), vq, vi (13 : Int), vi (5 : Int), vi (2 : Int), vq, vi (9 : Int), vi (5 : Int), vi (15 : Int), vq, vi (3 : Int), vi (2 : Int), vi (5 : Int), vq, vi (8 : Int), vi (5 : Int), vq, vq, vi (11 : Int), vi (6 : Int), vi (3 : Int), vi (3 : Int), vi (14 : Int), vi (6 : Int), vi (2 : Int), vi (1 : Int), vi (14 : Int), vi (2 : Int), vq, vi (6 : Int), vi (8 : Int), vi (30 : Int), vq, vq, vi (13 : Int), vi (5 : Int), vi (2 : Int), vi (1 : Int), vi (9 : Int), vi (5 : Int), vi (23 : Int), vq, vi (3 : Int), vi (2 : Int), vi (5 : Int), vq, vi (8 : Int), vi (5 : Int), vq, vq, vi (11 : Int), vi (6 : Int), vi (3 : Int), vi (3 : Int), vi (14 : Int), vi (6 : Int), vi (2 : Int), vi (1 : Int), vi (14 : Int), vi (2 : Int), vi (1 : Int), vi (6 : Int), vi (8 : Int), vi (30 : Int), vq, vq, vi (11 : Int), vi (6 : Int), vi (3 : Int), vi (3 : Int), vi (14 : Int), vi (6 : Int), vi (2 : Int), vi (1 : Int), vi (14 : Int), vq, vi a2, vi (6 : Int), vi (17 : Int), vq, vq, vq] 42)] from Zry a0 a1 a2 N _ h) [k0] n [] rfl hnd hlt (show 1 ≤ 1 from by decide) (show ∀ j ∈ ([] : List Nat), j < 1 from by decide) (by rfl) ⟨rfl, trivial⟩ (by rfl) ⟨rfl, trivial⟩ ⟨.inr rfl, trivial⟩ rfl rfl rfl (Za (ZbX rfl rfl) rfl) rfl)

noncomputable def Zos  : Zez → Value
 | .r0 => vT
noncomputable def ZmG  : Zez → List (Option AObj)
 | .r0 => []

theorem Ztq  (N : Nat) : Gx Tryz.prog 33 [] #[Value.agg #[vi (1 : Int), vi (7 : Int), vq, vq]] (Zos ) (ZmG ) (Zgg  N) := by
 unfold Zgg
 exact Zh Zi (r := (.r0 : Zez)) (fu := 4000) (orc := (Zl [] [] [] [] [])) (live := []) (u := vT) (bl := []) (ob := []) (by kernel_rfl) Zf rfl (by decide) (by rfl) rr trivial (Zg _ rfl)

theorem Zrz  (N : Nat) (r : Zez) (h : Zgg  N = some r) : LSpec Tryz.prog 33 #[Value.agg #[vi (1 : Int), vi (7 : Int), vq, vq]] [] (Zos  r) (ZmG  r) :=
 (Ztq  N) r h

noncomputable def ZmH  (n : Nat) : Zx := .call [] (vT) [] 0
def Zit (A : Array Value)  (n : Nat) : Prop := Zj Tryz.prog 33 A [] (vT) [] n 0

theorem ZmI (A : Array Value)  (N : Nat) (h : Zgg  N = some (.r0)) (n : Nat) (hA : A = #[Value.agg #[vi (1 : Int), vi (7 : Int), vq, vq]]) (hnd : ([] : List Nat).Nodup) (hlt : ∀ k ∈ ([] : List Nat), k < n) : Zit A   n :=
 Zm hA (LSpec.callL (show LSpec Tryz.prog 33 #[Value.agg #[vi (1 : Int), vi (7 : Int), vq, vq]] [] (vT) [] from Zrz  N _ h) [] n [] rfl hnd hlt (show 0 ≤ 0 from by decide) (show ∀ j ∈ ([] : List Nat), j < 0 from by decide) (by rfl) trivial (by rfl) trivial trivial rfl rfl rfl rfl rfl)

noncomputable def Zot  : Ze0 → Value
 | .r0 => vT
noncomputable def ZmJ  : Ze0 → List (Option AObj)
 | .r0 => []

theorem Ztr  (N : Nat) : Gx Tryz.prog 33 [] #[Value.agg #[vi (9 : Int), vi (2 : Int), vi (15 : Int), vq]] (Zot ) (ZmJ ) (Zgh  N) := by
 unfold Zgh
 exact Zh Zi (r := (.r0 : Ze0)) (fu := 4000) (orc := (Zl [] [] [] [] [])) (live := []) (u := vT) (bl := []) (ob := []) (by kernel_rfl) Zf rfl (by decide) (by rfl) rr trivial (Zg _ rfl)

theorem Zr0  (N : Nat) (r : Ze0) (h : Zgh  N = some r) : LSpec Tryz.prog 33 #[Value.agg #[vi (9 : Int), vi (2 : Int), vi (15 : Int), vq]] [] (Zot  r) (ZmJ  r) :=
 (Ztr  N) r h

noncomputable def Zul  (n : Nat) : Zx := .call [] (vT) [] 0
def ZmK (A : Array Value)  (n : Nat) : Prop := Zj Tryz.prog 33 A [] (vT) [] n 0

theorem Zum (A : Array Value)  (N : Nat) (h : Zgh  N = some (.r0)) (n : Nat) (hA : A = #[Value.agg #[vi (9 : Int), vi (2 : Int), vi (15 : Int), vq]]) (hnd : ([] : List Nat).Nodup) (hlt : ∀ k ∈ ([] : List Nat), k < n) : ZmK A   n :=
 Zm hA (LSpec.callL (show LSpec Tryz.prog 33 #[Value.agg #[vi (9 : Int), vi (2 : Int), vi (15 : Int), vq]] [] (vT) [] from Zr0  N _ h) [] n [] rfl hnd hlt (show 0 ≤ 0 from by decide) (show ∀ j ∈ ([] : List Nat), j < 0 from by decide) (by rfl) trivial (by rfl) trivial trivial rfl rfl rfl rfl rfl)

noncomputable def Zou  : Ze1 → Value
 | .r0 => vT
noncomputable def ZmL  : Ze1 → List (Option AObj)
 | .r0 => []

theorem Zts  (N : Nat) : Gx Tryz.prog 33 [] #[Value.agg #[vi (7 : Int), vi (7 : Int), vi (1 : Int), vi (3 : Int)]] (Zou ) (ZmL ) (Zgi  N) := by
 unfold Zgi
 exact Zh Zi (r := (.r0 : Ze1)) (fu := 4000) (orc := (Zl [] [] [] [] [])) (live := []) (u := vT) (bl := []) (ob := []) (by kernel_rfl) Zf rfl (by decide) (by rfl) rr trivial (Zg _ rfl)

theorem Zr1  (N : Nat) (r : Ze1) (h : Zgi  N = some r) : LSpec Tryz.prog 33 #[Value.agg #[vi (7 : Int), vi (7 : Int), vi (1 : Int), vi (3 : Int)]] [] (Zou  r) (ZmL  r) :=
 (Zts  N) r h

noncomputable def Zun  (n : Nat) : Zx := .call [] (vT) [] 0
def ZmM (A : Array Value)  (n : Nat) : Prop := Zj Tryz.prog 33 A [] (vT) [] n 0

theorem Zuo (A : Array Value)  (N : Nat) (h : Zgi  N = some (.r0)) (n : Nat) (hA : A = #[Value.agg #[vi (7 : Int), vi (7 : Int), vi (1 : Int), vi (3 : Int)]]) (hnd : ([] : List Nat).Nodup) (hlt : ∀ k ∈ ([] : List Nat), k < n) : ZmM A   n :=
 Zm hA (LSpec.callL (show LSpec Tryz.prog 33 #[Value.agg #[vi (7 : Int), vi (7 : Int), vi (1 : Int), vi (3 : Int)]] [] (vT) [] from Zr1  N _ h) [] n [] rfl hnd hlt (show 0 ≤ 0 from by decide) (show ∀ j ∈ ([] : List Nat), j < 0 from by decide) (by rfl) trivial (by rfl) trivial trivial rfl rfl rfl rfl rfl)

noncomputable def Zov  : Ze2 → Value
 | .r0 => vT
noncomputable def ZmN  : Ze2 → List (Option AObj)
 | .r0 => []

theorem Ztt  (N : Nat) : Gx Tryz.prog 33 [] #[Value.agg #[vi (9 : Int), vi (7 : Int), vi (10 : Int), vq]] (Zov ) (ZmN ) (Zgj  N) := by
 unfold Zgj
 exact Zh Zi (r := (.r0 : Ze2)) (fu := 4000) (orc := (Zl [] [] [] [] [])) (live := []) (u := vT) (bl := []) (ob := []) (by kernel_rfl) Zf rfl (by decide) (by rfl) rr trivial (Zg _ rfl)

theorem Zr2  (N : Nat) (r : Ze2) (h : Zgj  N = some r) : LSpec Tryz.prog 33 #[Value.agg #[vi (9 : Int), vi (7 : Int), vi (10 : Int), vq]] [] (Zov  r) (ZmN  r) :=
 (Ztt  N) r h

noncomputable def Zup  (n : Nat) : Zx := .call [] (vT) [] 0
def ZmO (A : Array Value)  (n : Nat) : Prop := Zj Tryz.prog 33 A [] (vT) [] n 0

theorem Zuq (A : Array Value)  (N : Nat) (h : Zgj  N = some (.r0)) (n : Nat) (hA : A = #[Value.agg #[vi (9 : Int), vi (7 : Int), vi (10 : Int), vq]]) (hnd : ([] : List Nat).Nodup) (hlt : ∀ k ∈ ([] : List Nat), k < n) : ZmO A   n :=
 Zm hA (LSpec.callL (show LSpec Tryz.prog 33 #[Value.agg #[vi (9 : Int), vi (7 : Int), vi (10 : Int), vq]] [] (vT) [] from Zr2  N _ h) [] n [] rfl hnd hlt (show 0 ≤ 0 from by decide) (show ∀ j ∈ ([] : List Nat), j < 0 from by decide) (by rfl) trivial (by rfl) trivial trivial rfl rfl rfl rfl rfl)

noncomputable def Zow  : Ze3 → Value
 | .r0 => vT
noncomputable def ZmP  : Ze3 → List (Option AObj)
 | .r0 => []

theorem Ztu  (N : Nat) : Gx Tryz.prog 33 [] #[Value.agg #[vi (8 : Int), vi (15 : Int), vq, vq]] (Zow ) (ZmP ) (Zgk  N) := by
 unfold Zgk
 exact Zh Zi (r := (.r0 : Ze3)) (fu := 4000) (orc := (Zl [] [] [] [] [])) (live := []) (u := vT) (bl := []) (ob := []) (by kernel_rfl) Zf rfl (by decide) (by rfl) rr trivial (Zg _ rfl)

theorem Zr3  (N : Nat) (r : Ze3) (h : Zgk  N = some r) : LSpec Tryz.prog 33 #[Value.agg #[vi (8 : Int), vi (15 : Int), vq, vq]] [] (Zow  r) (ZmP  r) :=
 (Ztu  N) r h

noncomputable def Zur  (n : Nat) : Zx := .call [] (vT) [] 0
def ZmQ (A : Array Value)  (n : Nat) : Prop := Zj Tryz.prog 33 A [] (vT) [] n 0

theorem Zus (A : Array Value)  (N : Nat) (h : Zgk  N = some (.r0)) (n : Nat) (hA : A = #[Value.agg #[vi (8 : Int), vi (15 : Int), vq, vq]]) (hnd : ([] : List Nat).Nodup) (hlt : ∀ k ∈ ([] : List Nat), k < n) : ZmQ A   n :=
 Zm hA (LSpec.callL (show LSpec Tryz.prog 33 #[Value.agg #[vi (8 : Int), vi (15 : Int), vq, vq]] [] (vT) [] from Zr3  N _ h) [] n [] rfl hnd hlt (show 0 ≤ 0 from by decide) (show ∀ j ∈ ([] : List Nat), j < 0 from by decide) (by rfl) trivial (by rfl) trivial trivial rfl rfl rfl rfl rfl)

noncomputable def Zox  : Ze4 → Value
 | .r0 => vT
noncomputable def ZmR  : Ze4 → List (Option AObj)
 | .r0 => []

theorem Ztv  (N : Nat) : Gx Tryz.prog 33 [] #[Value.agg #[vi (9 : Int), vi (4 : Int), vi (17 : Int), vq]] (Zox ) (ZmR ) (Zgl  N) := by
 unfold Zgl
 exact Zh Zi (r := (.r0 : Ze4)) (fu := 4000) (orc := (Zl [] [] [] [] [])) (live := []) (u := vT) (bl := []) (ob := []) (by kernel_rfl) Zf rfl (by decide) (by rfl) rr trivial (Zg _ rfl)

theorem Zr4  (N : Nat) (r : Ze4) (h : Zgl  N = some r) : LSpec Tryz.prog 33 #[Value.agg #[vi (9 : Int), vi (4 : Int), vi (17 : Int), vq]] [] (Zox  r) (ZmR  r) :=
 (Ztv  N) r h

noncomputable def Zut  (n : Nat) : Zx := .call [] (vT) [] 0
def ZmS (A : Array Value)  (n : Nat) : Prop := Zj Tryz.prog 33 A [] (vT) [] n 0

theorem Zuu (A : Array Value)  (N : Nat) (h : Zgl  N = some (.r0)) (n : Nat) (hA : A = #[Value.agg #[vi (9 : Int), vi (4 : Int), vi (17 : Int), vq]]) (hnd : ([] : List Nat).Nodup) (hlt : ∀ k ∈ ([] : List Nat), k < n) : ZmS A   n :=
 Zm hA (LSpec.callL (show LSpec Tryz.prog 33 #[Value.agg #[vi (9 : Int), vi (4 : Int), vi (17 : Int), vq]] [] (vT) [] from Zr4  N _ h) [] n [] rfl hnd hlt (show 0 ≤ 0 from by decide) (show ∀ j ∈ ([] : List Nat), j < 0 from by decide) (by rfl) trivial (by rfl) trivial trivial rfl rfl rfl rfl rfl)

noncomputable def Zoy  : Ze5 → Value
 | .r0 => vT
noncomputable def ZmT  : Ze5 → List (Option AObj)
 | .r0 => []

theorem Ztw  (N : Nat) : Gx Tryz.prog 33 [] #[Value.agg #[vi (8 : Int), vi (17 : Int), vq, vq]] (Zoy ) (ZmT ) (Zgm  N) := by
 unfold Zgm
 exact Zh Zi (r := (.r0 : Ze5)) (fu := 4000) (orc := (Zl [] [] [] [] [])) (live := []) (u := vT) (bl := []) (ob := []) (by kernel_rfl) Zf rfl (by decide) (by rfl) rr trivial (Zg _ rfl)

theorem Zr5  (N : Nat) (r : Ze5) (h : Zgm  N = some r) : LSpec Tryz.prog 33 #[Value.agg #[vi (8 : Int), vi (17 : Int), vq, vq]] [] (Zoy  r) (ZmT  r) :=
 (Ztw  N) r h

noncomputable def Zuv  (n : Nat) : Zx := .call [] (vT) [] 0
def ZmU (A : Array Value)  (n : Nat) : Prop := Zj Tryz.prog 33 A [] (vT) [] n 0

theorem Zuw (A : Array Value)  (N : Nat) (h : Zgm  N = some (.r0)) (n : Nat) (hA : A = #[Value.agg #[vi (8 : Int), vi (17 : Int), vq, vq]]) (hnd : ([] : List Nat).Nodup) (hlt : ∀ k ∈ ([] : List Nat), k < n) : ZmU A   n :=
 Zm hA (LSpec.callL (show LSpec Tryz.prog 33 #[Value.agg #[vi (8 : Int), vi (17 : Int), vq, vq]] [] (vT) [] from Zr5  N _ h) [] n [] rfl hnd hlt (show 0 ≤ 0 from by decide) (show ∀ j ∈ ([] : List Nat), j < 0 from by decide) (by rfl) trivial (by rfl) trivial trivial rfl rfl rfl rfl rfl)

noncomputable def Zoz  : Ze6 → Value
 | .r0 => vT
noncomputable def ZmV  : Ze6 → List (Option AObj)
 | .r0 => []

theorem Ztx  (N : Nat) : Gx Tryz.prog 33 [] #[Value.agg #[vi (8 : Int), vi (19 : Int), vq, vq]] (Zoz ) (ZmV ) (Zfc  N) := by
 unfold Zfc
 exact Zh Zi (r := (.r0 : Ze6)) (fu := 4000) (orc := (Zl [] [] [] [] [])) (live := []) (u := vT) (bl := []) (ob := []) (by kernel_rfl) Zf rfl (by decide) (by rfl) rr trivial (Zg _ rfl)

theorem Zr6  (N : Nat) (r : Ze6) (h : Zfc  N = some r) : LSpec Tryz.prog 33 #[Value.agg #[vi (8 : Int), vi (19 : Int), vq, vq]] [] (Zoz  r) (ZmV  r) :=
 (Ztx  N) r h

noncomputable def ZmW  (n : Nat) : Zx := .call [] (vT) [] 0
def Ziu (A : Array Value)  (n : Nat) : Prop := Zj Tryz.prog 33 A [] (vT) [] n 0

theorem ZmX (A : Array Value)  (N : Nat) (h : Zfc  N = some (.r0)) (n : Nat) (hA : A = #[Value.agg #[vi (8 : Int), vi (19 : Int), vq, vq]]) (hnd : ([] : List Nat).Nodup) (hlt : ∀ k ∈ ([] : List Nat), k < n) : Ziu A   n :=
 Zm hA (LSpec.callL (show LSpec Tryz.prog 33 #[Value.agg #[vi (8 : Int), vi (19 : Int), vq, vq]] [] (vT) [] from Zr6  N _ h) [] n [] rfl hnd hlt (show 0 ≤ 0 from by decide) (show ∀ j ∈ ([] : List Nat), j < 0 from by decide) (by rfl) trivial (by rfl) trivial trivial rfl rfl rfl rfl rfl)

noncomputable def Zo0  : Ze7 → Value
 | .r0 => vT
noncomputable def ZmY  : Ze7 → List (Option AObj)
 | .r0 => []

theorem Zty  (N : Nat) : Gx Tryz.prog 33 [] #[Value.agg #[vi (19 : Int), vi (7 : Int), vq, vq]] (Zo0 ) (ZmY ) (Zfd  N) := by
 unfold Zfd
 exact Zh Zi (r := (.r0 : Ze7)) (fu := 4000) (orc := (Zl [] [] [] [] [])) (live := []) (u := vT) (bl := []) (ob := []) (by kernel_rfl) Zf rfl (by decide) (by rfl) rr trivial (Zg _ rfl)

theorem Zr7  (N : Nat) (r : Ze7) (h : Zfd  N = some r) : LSpec Tryz.prog 33 #[Value.agg #[vi (19 : Int), vi (7 : Int), vq, vq]] [] (Zo0  r) (ZmY  r) :=
 (Zty  N) r h

noncomputable def ZmZ  (n : Nat) : Zx := .call [] (vT) [] 0
def Ziv (A : Array Value)  (n : Nat) : Prop := Zj Tryz.prog 33 A [] (vT) [] n 0

theorem Zna (A : Array Value)  (N : Nat) (h : Zfd  N = some (.r0)) (n : Nat) (hA : A = #[Value.agg #[vi (19 : Int), vi (7 : Int), vq, vq]]) (hnd : ([] : List Nat).Nodup) (hlt : ∀ k ∈ ([] : List Nat), k < n) : Ziv A   n :=
 Zm hA (LSpec.callL (show LSpec Tryz.prog 33 #[Value.agg #[vi (19 : Int), vi (7 : Int), vq, vq]] [] (vT) [] from Zr7  N _ h) [] n [] rfl hnd hlt (show 0 ≤ 0 from by decide) (show ∀ j ∈ ([] : List Nat), j < 0 from by decide) (by rfl) trivial (by rfl) trivial trivial rfl rfl rfl rfl rfl)

noncomputable def Zly (a0 a1 : Int) : ZaP → Value
 | .r0 => vq
 | .r1 => vi (120 : Int)
noncomputable def ZkQ (a0 a1 : Int) : ZaP → List (Option AObj)
 | .r0 => [some (.cells [vi (10 : Int), vq, vq, vq, vi (1 : Int), vi (1 : Int), vi a0, vq, vi (1 : Int), vi (7 : Int), vq, vq, vi (15 : Int), vq, vq, vq, vi (13 : Int), vi (2 : Int), vq, vi a1, vi (9 : Int), vi (2 : Int), vi (15 : Int), vq, vi (13 : Int), vi (3 : Int), vi (2 : Int), vi (2 : Int), vi (7 : Int), vi (7 : Int), vi (1 : Int), vi (3 : Int), vi (9 : Int), vi (7 : Int), vi (10 : Int), vq, vi (8 : Int), vi (15 : Int), vq, vq, vi (6 : Int), vi (4 : Int), vi (1 : Int), vi (3 : Int), vi (13 : Int), vi (5 : Int), vi (2 : Int), vi (1 : Int), vi (9 : Int), vi (4 : Int), vi (17 : Int), vq, vi (13 : Int), vi (5 : Int), vi (2 : Int), vq, vi (8 : Int), vi (17 : Int), vq, vq, vi (8 : Int), vi (19 : Int), vq, vq, vi (8 : Int), vi (19 : Int), vq, vq, vi (3 : Int), vi (2 : Int), vi (5 : Int), vq, vi (8 : Int), vi (5 : Int), vq, vq, vi (17 : Int), vq, vq, vq, vi (19 : Int), vi (7 : Int), vq, vq] 42)]
 | .r1 => [some (.cells [vi (10 : Int), vq, vq, vq, vi (1 : Int), vi (1 : Int), vi a0, vq, vi (1 : Int), vi (7 : Int), vq, vq, vi (15 : Int), vq, vq, vq, vi (13 : Int), vi (2 : Int), vq, vi a1, vi (9 : Int), vi (2 : Int), vi (15 : Int), vq, vi (13 : Int), vi (3 : Int), vi (2 : Int), vi (2 : Int), vi (7 : Int), vi (7 : Int), vi (1 : Int), vi (3 : Int), vi (9 : Int), vi (7 : Int), vi (10 : Int), vq, vi (8 : Int), vi (15 : Int), vq, vq, vi (6 : Int), vi (4 : Int), vi (1 : Int), vi (3 : Int), vi (13 : Int), vi (5 : Int), vi (2 : Int), vi (1 : Int), vi (9 : Int), vi (4 : Int), vi (17 : Int), vq, vi (13 : Int), vi (5 : Int), vi (2 : Int), vq, vi (8 : Int), vi (17 : Int), vq, vq, vi (8 : Int), vi (19 : Int), vq, vq, vi (8 : Int), vi (19 : Int), vq, vq, vi (3 : Int), vi (2 : Int), vi (5 : Int), vq, vi (8 : Int), vi (5 : Int), vq, vq, vi (17 : Int), vq, vq, vq, vi (19 : Int), vi (7 : Int), vq, vq] 42)]

theorem Zr8 (a0 a1 : Int) (N : Nat) : Gx Tryz.prog 13 [.cells [vi (10 : Int), vq, vq, vq, vi (1 : Int), vi (1 : Int), vi a0, vq, vi (1 : Int), vi (7 : Int), vq, vq, vi (15 : Int), vq, vq, vq, vi (13 : Int), vi (2 : Int), vq, vi a1, vi (9 : Int), vi (2 : Int), vi (15 : Int), vq, vi (13 : Int), vi (3 : Int), vi (2 : Int), vi (2 : Int), vi (7 : Int), vi (7 : Int), vi (1 : Int), vi (3 : Int), vi (9 : Int), vi (7 : Int), vi (10 : Int), vq, vi (8 : Int), vi (15 : Int), vq, vq, vi (6 : Int), vi (4 : Int), vi (1 : Int), vi (3 : Int), vi (13 : Int), vi (5 : Int), vi (2 : Int), vi (1 : Int), vi (9 : Int), vi (4 : Int), vi (17 : Int), vq, vi (13 : Int), vi (5 : Int), vi (2 : Int), vq, vi (8 : Int), vi (17 : Int), vq, vq, vi (8 : Int), vi (19 : Int), vq, vq, vi (8 : Int), vi (19 : Int), vq, vq, vi (3 : Int), vi (2 : Int), vi (5 : Int), vq, vi (8 : Int), vi (5 : Int), vq, vq, vi (17 : Int), vq, vq, vq, vi (19 : Int), vi (7 : Int), vq, vq] 42] #[vs 0 0 21 21] (Zly a0 a1) (ZkQ a0 a1) (Zce a0 a1 N) := by
 unfold Zce
 refine Zd (fun z0 c0 => ?_)
 cases z0 with
 | r0 =>
  refine Zd (fun z1 c1 => ?_)
  cases z1 with
  | r0 =>
   refine Zd (fun z2 c2 => ?_)
   cases z2 with
   | r0 =>
    refine Zd (fun z3 c3 => ?_)
    cases z3 with
    | r0 =>
     refine Zd (fun z4 c4 => ?_)
     cases z4 with
     | r0 =>
      refine Zd (fun z5 c5 => ?_)
      cases z5 with
      | r0 =>
       refine Zd (fun z6 c6 => ?_)
       cases z6 with
       | r0 =>
        refine Zd (fun z7 c7 => ?_)
        cases z7 with
        | r0 =>
         refine Zd (fun z8 c8 => ?_)
         cases z8 with
         | r0 =>
          refine Zd (fun z9 c9 => ?_)
          cases z9 with
          | r0 =>
           refine Zd (fun z10 c10 => ?_)
           cases z10 with
           | r0 =>
            refine Zd (fun z11 c11 => ?_)
            cases z11 with
            | r0 =>
             refine Zd (fun z12 c12 => ?_)
             cases z12 with
             | r0 =>
              refine Zd (fun z13 c13 => ?_)
              cases z13 with
              | r0 =>
               refine Zd (fun z14 c14 => ?_)
               cases z14 with
               | r0 =>
                refine Zd (fun z15 c15 => ?_)
                cases z15 with
                | r0 =>
                 refine Zd (fun z16 c16 => ?_)
                 cases z16 with
                 | r0 =>
                  refine Zd (fun z17 c17 => ?_)
                  cases z17 with
                  | r0 =>
                   refine Zd (fun z18 c18 => ?_)
                   cases z18 with
                   | r0 =>
                    refine Zd (fun z19 c19 => ?_)
                    cases z19 with
                    | r0 =>
                     refine Zd (fun z20 c20 => ?_)
                     cases z20 with
                     | r0 =>
                      exact Zh Zi (r := (.r0 : ZaP)) (fu := 4000) (orc := (Zl [] [] [] [] [(0, (ZaW     2)), (1, (ZfJ (a0)    3)), (2, (ZmH     4)), (5, (Zba     8)), (6, (Zdd (a1)    9)), (7, (Zul     10)), (8, (ZiR     11)), (9, (Zun     12)), (10, (Zup     13)), (11, (Zur     14)), (12, (Zih     15)), (13, (Zio     16)), (14, (Zut     17)), (15, (Zik     18)), (16, (Zuv     19)), (17, (ZmW     20)), (18, (ZmW     21)), (19, (Zfh     22)), (20, (Zfj     23)), (22, (Zg5     24)), (23, (ZmZ     25))])) (live := [0]) (u := vq) (bl := [some (.cells [vi (10 : Int), vq, vq, vq, vi (1 : Int), vi (1 : Int), vi a0, vq, vi (1 : Int), vi (7 : Int), vq, vq, vi (15 : Int), vq, vq, vq, vi (13 : Int), vi (2 : Int), vq, vi a1, vi (9 : Int), vi (2 : Int), vi (15 : Int), vq, vi (13 : Int), vi (3 : Int), vi (2 : Int), vi (2 : Int), vi (7 : Int), vi (7 : Int), vi (1 : Int), vi (3 : Int), vi (9 : Int), vi (7 : Int), vi (10 : Int), vq, vi (8 : Int), vi (15 : Int), vq, vq, vi (6 : Int), vi (4 : Int), vi (1 : Int), vi (3 : Int), vi (13 : Int), vi (5 : Int), vi (2 : Int), vi (1 : Int), vi (9 : Int), vi (4 : Int), vi (17 : Int), vq, vi (13 : Int), vi (5 : Int), vi (2 : Int), vq, vi (8 : Int), vi (17 : Int), vq, vq, vi (8 : Int), vi (19 : Int), vq, vq, vi (8 : Int), vi (19 : Int), vq, vq, vi (3 : Int), vi (2 : Int), vi (5 : Int), vq, vi (8 : Int), vi (5 : Int), vq, vq, vi (17 : Int), vq, vq, vq, vi (19 : Int), vi (7 : Int), vq, vq] 42)]) (ob := [(dP (Ziv #[Value.agg #[vi (19 : Int), vi (7 : Int), vq, vq]]     25), true), (dP (Zfl #[Value.agg #[vi (17 : Int), vq, vq, vq]]     24), true), (dP (Zec #[Value.agg #[vi (8 : Int), vi (5 : Int), vq, vq]]     23), true), (dP (Zeb #[Value.agg #[vi (3 : Int), vi (2 : Int), vi (5 : Int), vq]]     22), true), (dP (Ziu #[Value.agg #[vi (8 : Int), vi (19 : Int), vq, vq]]     21), true), (dP (Ziu #[Value.agg #[vi (8 : Int), vi (19 : Int), vq, vq]]     20), true), (dP (ZmU #[Value.agg #[vi (8 : Int), vi (17 : Int), vq, vq]]     19), true), (dP (Zg3 #[Value.agg #[vi (13 : Int), vi (5 : Int), vi (2 : Int), vq]]     18), true), (dP (ZmS #[Value.agg #[vi (9 : Int), vi (4 : Int), vi (17 : Int), vq]]     17), true), (dP (Zg4 #[Value.agg #[vi (13 : Int), vi (5 : Int), vi (2 : Int), vi (1 : Int)]]     16), true), (dP (Zg2 #[Value.agg #[vi (6 : Int), vi (4 : Int), vi (1 : Int), vi (3 : Int)]]     15), true), (dP (ZmQ #[Value.agg #[vi (8 : Int), vi (15 : Int), vq, vq]]     14), true), (dP (ZmO #[Value.agg #[vi (9 : Int), vi (7 : Int), vi (10 : Int), vq]]     13), true), (dP (ZmM #[Value.agg #[vi (7 : Int), vi (7 : Int), vi (1 : Int), vi (3 : Int)]]     12), true), (dP (Zhd #[Value.agg #[vi (13 : Int), vi (3 : Int), vi (2 : Int), vi (2 : Int)]]     11), true), (dP (ZmK #[Value.agg #[vi (9 : Int), vi (2 : Int), vi (15 : Int), vq]]     10), true), (dP (Zcr #[Value.agg #[vi (13 : Int), vi (2 : Int), vq, vi a1]] (a1)    9), true), (dP (ZaE #[Value.agg #[vi (15 : Int), vq, vq, vq]]     8), true), (dP (Zit #[Value.agg #[vi (1 : Int), vi (7 : Int), vq, vq]]     4), true), (dP (ZeG #[Value.agg #[vi (1 : Int), vi (1 : Int), vi a0, vq]] (a0)    3), true), (dP (ZaD #[Value.agg #[vi (10 : Int), vq, vq, vq]]     2), true)]) (by kernel_rfl) (Zb (Zc (Zna #[Value.agg #[vi (19 : Int), vi (7 : Int), vq, vq]]    N c20  25 rfl (by decide) (by decide))) <| Zb (Zc (Zg6 #[Value.agg #[vi (17 : Int), vq, vq, vq]]    N c19  24 rfl (by decide) (by decide))) <| Zb (Zc (Zfk #[Value.agg #[vi (8 : Int), vi (5 : Int), vq, vq]]    N c18  23 rfl (by decide) (by decide))) <| Zb (Zc (Zfi #[Value.agg #[vi (3 : Int), vi (2 : Int), vi (5 : Int), vq]]    N c17  22 rfl (by decide) (by decide))) <| Zb (Zc (ZmX #[Value.agg #[vi (8 : Int), vi (19 : Int), vq, vq]]    N c16  21 rfl (by decide) (by decide))) <| Zb (Zc (ZmX #[Value.agg #[vi (8 : Int), vi (19 : Int), vq, vq]]    N c15  20 rfl (by decide) (by decide))) <| Zb (Zc (Zuw #[Value.agg #[vi (8 : Int), vi (17 : Int), vq, vq]]    N c14  19 rfl (by decide) (by decide))) <| Zb (Zc (Zil #[Value.agg #[vi (13 : Int), vi (5 : Int), vi (2 : Int), vq]]    N c13  18 rfl (by decide) (by decide))) <| Zb (Zc (Zuu #[Value.agg #[vi (9 : Int), vi (4 : Int), vi (17 : Int), vq]]    N c12  17 rfl (by decide) (by decide))) <| Zb (Zc (Zip #[Value.agg #[vi (13 : Int), vi (5 : Int), vi (2 : Int), vi (1 : Int)]]    N c11  16 rfl (by decide) (by decide))) <| Zb (Zc (Zii #[Value.agg #[vi (6 : Int), vi (4 : Int), vi (1 : Int), vi (3 : Int)]]    N c10  15 rfl (by decide) (by decide))) <| Zb (Zc (Zus #[Value.agg #[vi (8 : Int), vi (15 : Int), vq, vq]]    N c9  14 rfl (by decide) (by decide))) <| Zb (Zc (Zuq #[Value.agg #[vi (9 : Int), vi (7 : Int), vi (10 : Int), vq]]    N c8  13 rfl (by decide) (by decide))) <| Zb (Zc (Zuo #[Value.agg #[vi (7 : Int), vi (7 : Int), vi (1 : Int), vi (3 : Int)]]    N c7  12 rfl (by decide) (by decide))) <| Zb (Zc (ZiS #[Value.agg #[vi (13 : Int), vi (3 : Int), vi (2 : Int), vi (2 : Int)]]    N c6  11 rfl (by decide) (by decide))) <| Zb (Zc (Zum #[Value.agg #[vi (9 : Int), vi (2 : Int), vi (15 : Int), vq]]    N c5  10 rfl (by decide) (by decide))) <| Zb (Zc (Zde #[Value.agg #[vi (13 : Int), vi (2 : Int), vq, vi a1]] (a1)   N c4  9 rfl (by decide) (by decide))) <| Zb (Zc (Zbb #[Value.agg #[vi (15 : Int), vq, vq, vq]]    N c3  8 rfl (by decide) (by decide))) <| Zb (Zc (ZmI #[Value.agg #[vi (1 : Int), vi (7 : Int), vq, vq]]    N c2  4 rfl (by decide) (by decide))) <| Zb (Zc (ZfK #[Value.agg #[vi (1 : Int), vi (1 : Int), vi a0, vq]] (a0)   N c1  3 rfl (by decide) (by decide))) <| Zb (Zc (ZaX #[Value.agg #[vi (10 : Int), vq, vq, vq]]    N c0  2 rfl (by decide) (by decide))) Zf) rfl (by decide) (by rfl) rr ⟨⟨rfl, ⟨[], by rfl⟩, by rfl⟩, trivial⟩ (Zg _ rfl)
     | r1 =>
      exact Zh Zi (r := (.r1 : ZaP)) (fu := 4000) (orc := (Zl [(41, false)] [] [] [] [(0, (ZaW     2)), (1, (ZfJ (a0)    3)), (2, (ZmH     4)), (5, (Zba     8)), (6, (Zhb (a1)    9))])) (live := [0]) (u := vi (120 : Int)) (bl := [some (.cells [vi (10 : Int), vq, vq, vq, vi (1 : Int), vi (1 : Int), vi a0, vq, vi (1 : Int), vi (7 : Int), vq, vq, vi (15 : Int), vq, vq, vq, vi (13 : Int), vi (2 : Int), vq, vi a1, vi (9 : Int), vi (2 : Int), vi (15 : Int), vq, vi (13 : Int), vi (3 : Int), vi (2 : Int), vi (2 : Int), vi (7 : Int), vi (7 : Int), vi (1 : Int), vi (3 : Int), vi (9 : Int), vi (7 : Int), vi (10 : Int), vq, vi (8 : Int), vi (15 : Int), vq, vq, vi (6 : Int), vi (4 : Int), vi (1 : Int), vi (3 : Int), vi (13 : Int), vi (5 : Int), vi (2 : Int), vi (1 : Int), vi (9 : Int), vi (4 : Int), vi (17 : Int), vq, vi (13 : Int), vi (5 : Int), vi (2 : Int), vq, vi (8 : Int), vi (17 : Int), vq, vq, vi (8 : Int), vi (19 : Int), vq, vq, vi (8 : Int), vi (19 : Int), vq, vq, vi (3 : Int), vi (2 : Int), vi (5 : Int), vq, vi (8 : Int), vi (5 : Int), vq, vq, vi (17 : Int), vq, vq, vq, vi (19 : Int), vi (7 : Int), vq, vq] 42)]) (ob := [((((13 : Int) == (15 : Int)) && (((2 : Int) == (0 : Int)) && (((0 : Int) == (0 : Int)) && ((a1 == (0 : Int)) && true)))), false), (dP (ZfL #[Value.agg #[vi (13 : Int), vi (2 : Int), vq, vi a1]] (a1)    9), true), (dP (ZaE #[Value.agg #[vi (15 : Int), vq, vq, vq]]     8), true), (dP (Zit #[Value.agg #[vi (1 : Int), vi (7 : Int), vq, vq]]     4), true), (dP (ZeG #[Value.agg #[vi (1 : Int), vi (1 : Int), vi a0, vq]] (a0)    3), true), (dP (ZaD #[Value.agg #[vi (10 : Int), vq, vq, vq]]     2), true)]) (by kernel_rfl) (Zb (Bool.eq_false_iff.2 (by simp only [ne_eq, Bool.and_true, Bool.and_eq_true, beq_iff_eq]; first | omega | (intro hh; simp_all; done) | (intro hh; grind))) <| Zb (Zc (Zhc #[Value.agg #[vi (13 : Int), vi (2 : Int), vq, vi a1]] (a1)   N c4  9 rfl (by decide) (by decide))) <| Zb (Zc (Zbb #[Value.agg #[vi (15 : Int), vq, vq, vq]]    N c3  8 rfl (by decide) (by decide))) <| Zb (Zc (ZmI #[Value.agg #[vi (1 : Int), vi (7 : Int), vq, vq]]    N c2  4 rfl (by decide) (by decide))) <| Zb (Zc (ZfK #[Value.agg #[vi (1 : Int), vi (1 : Int), vi a0, vq]] (a0)   N c1  3 rfl (by decide) (by decide))) <| Zb (Zc (ZaX #[Value.agg #[vi (10 : Int), vq, vq, vq]]    N c0  2 rfl (by decide) (by decide))) Zf) rfl (by decide) (by rfl) rr ⟨⟨rfl, ⟨[], by rfl⟩, by rfl⟩, trivial⟩ (Zg _ rfl)
  | r1 =>
   exact Zh Zi (r := (.r1 : ZaP)) (fu := 4000) (orc := (Zl [(20, false)] [] [] [] [(0, (ZaW     2)), (1, (ZnO (a0)    3))])) (live := [0]) (u := vi (120 : Int)) (bl := [some (.cells [vi (10 : Int), vq, vq, vq, vi (1 : Int), vi (1 : Int), vi a0, vq, vi (1 : Int), vi (7 : Int), vq, vq, vi (15 : Int), vq, vq, vq, vi (13 : Int), vi (2 : Int), vq, vi a1, vi (9 : Int), vi (2 : Int), vi (15 : Int), vq, vi (13 : Int), vi (3 : Int), vi (2 : Int), vi (2 : Int), vi (7 : Int), vi (7 : Int), vi (1 : Int), vi (3 : Int), vi (9 : Int), vi (7 : Int), vi (10 : Int), vq, vi (8 : Int), vi (15 : Int), vq, vq, vi (6 : Int), vi (4 : Int), vi (1 : Int), vi (3 : Int), vi (13 : Int), vi (5 : Int), vi (2 : Int), vi (1 : Int), vi (9 : Int), vi (4 : Int), vi (17 : Int), vq, vi (13 : Int), vi (5 : Int), vi (2 : Int), vq, vi (8 : Int), vi (17 : Int), vq, vq, vi (8 : Int), vi (19 : Int), vq, vq, vi (8 : Int), vi (19 : Int), vq, vq, vi (3 : Int), vi (2 : Int), vi (5 : Int), vq, vi (8 : Int), vi (5 : Int), vq, vq, vi (17 : Int), vq, vq, vq, vi (19 : Int), vi (7 : Int), vq, vq] 42)]) (ob := [((((1 : Int) == (15 : Int)) && (((1 : Int) == (0 : Int)) && ((a0 == (0 : Int)) && (((0 : Int) == (0 : Int)) && true)))), false), (dP (ZiP #[Value.agg #[vi (1 : Int), vi (1 : Int), vi a0, vq]] (a0)    3), true), (dP (ZaD #[Value.agg #[vi (10 : Int), vq, vq, vq]]     2), true)]) (by kernel_rfl) (Zb (Bool.eq_false_iff.2 (by simp only [ne_eq, Bool.and_true, Bool.and_eq_true, beq_iff_eq]; first | omega | (intro hh; simp_all; done) | (intro hh; grind))) <| Zb (Zc (ZnP #[Value.agg #[vi (1 : Int), vi (1 : Int), vi a0, vq]] (a0)   N c1  3 rfl (by decide) (by decide))) <| Zb (Zc (ZaX #[Value.agg #[vi (10 : Int), vq, vq, vq]]    N c0  2 rfl (by decide) (by decide))) Zf) rfl (by decide) (by rfl) rr ⟨⟨rfl, ⟨[], by rfl⟩, by rfl⟩, trivial⟩ (Zg _ rfl)

theorem ZpU (a0 a1 : Int) (N : Nat) (r : ZaP) (h : Zce a0 a1 N = some r) : LSpec Tryz.prog 13 #[vs 0 0 21 21] [.cells [vi (10 : Int), vq, vq, vq, vi (1 : Int), vi (1 : Int), vi a0, vq, vi (1 : Int), vi (7 : Int), vq, vq, vi (15 : Int), vq, vq, vq, vi (13 : Int), vi (2 : Int), vq, vi a1, vi (9 : Int), vi (2 : Int), vi (15 : Int), vq, vi (13 : Int), vi (3 : Int), vi (2 : Int), vi (2 : Int), vi (7 : Int), vi (7 : Int), vi (1 : Int), vi (3 : Int), vi (9 : Int), vi (7 : Int), vi (10 : Int), vq, vi (8 : Int), vi (15 : Int), vq, vq, vi (6 : Int), vi (4 : Int), vi (1 : Int), vi (3 : Int), vi (13 : Int), vi (5 : Int), vi (2 : Int), vi (1 : Int), vi (9 : Int), vi (4 : Int), vi (17 : Int), vq, vi (13 : Int), vi (5 : Int), vi (2 : Int), vq, vi (8 : Int), vi (17 : Int), vq, vq, vi (8 : Int), vi (19 : Int), vq, vq, vi (8 : Int), vi (19 : Int), vq, vq, vi (3 : Int), vi (2 : Int), vi (5 : Int), vq, vi (8 : Int), vi (5 : Int), vq, vq, vi (17 : Int), vq, vq, vq, vi (19 : Int), vi (7 : Int), vq, vq] 42] (Zly a0 a1 r) (ZkQ a0 a1 r) :=
 (Zr8 a0 a1 N) r h

noncomputable def ZkR (a0 a1 : Int) (k0 n : Nat) : Zx := .call [(k0, .cells [vi (10 : Int), vq, vq, vq, vi (1 : Int), vi (1 : Int), vi a0, vq, vi (1 : Int), vi (7 : Int), vq, vq, vi (15 : Int), vq, vq, vq, vi (13 : Int), vi (2 : Int), vq, vi a1, vi (9 : Int), vi (2 : Int), vi (15 : Int), vq, vi (13 : Int), vi (3 : Int), vi (2 : Int), vi (2 : Int), vi (7 : Int), vi (7 : Int), vi (1 : Int), vi (3 : Int), vi (9 : Int), vi (7 : Int), vi (10 : Int), vq, vi (8 : Int), vi (15 : Int), vq, vq, vi (6 : Int), vi (4 : Int), vi (1 : Int), vi (3 : Int), vi (13 : Int), vi (5 : Int), vi (2 : Int), vi (1 : Int), vi (9 : Int), vi (4 : Int), vi (17 : Int), vq, vi (13 : Int), vi (5 : Int), vi (2 : Int), vq, vi (8 : Int), vi (17 : Int), vq, vq, vi (8 : Int), vi (19 : Int), vq, vq, vi (8 : Int), vi (19 : Int), vq, vq, vi (3 : Int), vi (2 : Int), vi (5 : Int), vq, vi (8 : Int), vi (5 : Int), vq, vq, vi (17 : Int), vq, vq, vq, vi (19 : Int), vi (7 : Int), vq, vq] 42)] (vq) [] 0
def Zhm (A : Array Value) (a0 a1 : Int) (k0 n : Nat) : Prop := Zj Tryz.prog 13 A [(k0, .cells [vi (10 : Int), vq, vq, vq, vi (1 : Int), vi (1 : Int), vi a0, vq, vi (1 : Int), vi (7 : Int), vq, vq, vi (15 : Int), vq, vq, vq, vi (13 : Int), vi (2 : Int), vq, vi a1, vi (9 : Int), vi (2 : Int), vi (15 : Int), vq, vi (13 : Int), vi (3 : Int), vi (2 : Int), vi (2 : Int), vi (7 : Int), vi (7 : Int), vi (1 : Int), vi (3 : Int), vi (9 : Int), vi (7 : Int), vi (10 : Int), vq, vi (8 : Int), vi (15 : Int), vq, vq, vi (6 : Int), vi (4 : Int), vi (1 : Int), vi (3 : Int), vi (13 : Int), vi (5 : Int), vi (2 : Int), vi (1 : Int), vi (9 : Int), vi (4 : Int), vi (17 : Int), vq, vi (13 : Int), vi (5 : Int), vi (2 : Int), vq, vi (8 : Int), vi (17 : Int), vq, vq, vi (8 : Int), vi (19 : Int), vq, vq, vi (8 : Int), vi (19 : Int), vq, vq, vi (3 : Int), vi (2 : Int), vi (5 : Int), vq, vi (8 : Int), vi (5 : Int), vq, vq, vi (17 : Int), vq, vq, vq, vi (19 : Int), vi (7 : Int), vq, vq] 42)] (vq) [] n 0

theorem ZkS (A : Array Value) (a0 a1 : Int) (N : Nat) (h : Zce a0 a1 N = some (.r0)) (k0 n : Nat) (hA : A = #[vs k0 0 21 21]) (hnd : ([k0] : List Nat).Nodup) (hlt : ∀ k ∈ ([k0] : List Nat), k < n) : Zhm A a0 a1 k0 n :=
 Zm hA (LSpec.callL (show LSpec Tryz.prog 13 #[vs 0 0 21 21] [.cells [vi (10 : Int), vq, vq, vq, vi (1 : Int), vi (1 : Int), vi a0, vq, vi (1 : Int), vi (7 : Int), vq, vq, vi (15 : Int), vq, vq, vq, vi (13 : Int), vi (2 : Int), vq, vi a1, vi (9 : Int), vi (2 : Int), vi (15 : Int), vq, vi (13 : Int), vi (3 : Int), vi (2 : Int), vi (2 : Int), vi (7 : Int), vi (7 : Int), vi (1 : Int), vi (3 : Int), vi (9 : Int), vi (7 : Int), vi (10 : Int), vq, vi (8 : Int), vi (15 : Int), vq, vq, vi (6 : Int), vi (4 : Int), vi (1 : Int), vi (3 : Int), vi (13 : Int), vi (5 : Int), vi (2 : Int), vi (1 : Int), vi (9 : Int), vi (4 : Int), vi (17 : Int), vq, vi (13 : Int), vi (5 : Int), vi (2 : Int), vq, vi (8 : Int), vi (17 : Int), vq, vq, vi (8 : Int), vi (19 : Int), vq, vq, vi (8 : Int), vi (19 : Int), vq, vq, vi (3 : Int), vi (2 : Int), vi (5 : Int), vq, vi (8 : Int), vi (5 : Int), vq, vq, vi (17 : Int), vq, vq, vq, vi (19 : Int), vi (7 : Int), vq, vq] 42] (vq) [some (.cells [vi (10 : Int), vq, vq, vq, vi (1 : Int), vi (1 : Int), vi a0, vq, vi (1 : Int), vi (7 : Int), vq, vq, vi (15 : Int), vq, vq, vq, vi (13 : Int), vi (2 : Int), vq, vi a1, vi (9 : Int), vi (2 : Int), vi (15 : Int), vq, vi (13 : Int), vi (3 : Int), vi (2 : Int), vi (2 : Int), vi (7 : Int), vi (7 : Int), vi (1 : Int), vi (3 : Int), vi (9 : Int), vi (7 : Int), vi (10 : Int), vq, vi (8 : Int), vi (15 : Int), vq, vq, vi (6 : Int), vi (4 : Int), vi (1 : Int), vi (3 : Int), vi (13 : Int), vi (5 : Int), vi (2 : Int), vi (1 : Int), vi (9 : Int), vi (4 : Int), vi (17 : Int), vq, vi (13 : Int), vi (5 : Int), vi (2 : Int), vq, vi (8 : Int), vi (17 : Int), vq, vq, vi (8 : Int), vi (19 : Int), vq, vq, vi (8 : Int), vi (19 : Int), vq, vq, vi (3 : Int), vi (2 : Int), vi (5 : Int), vq, vi (8 : Int), vi (5 : Int), vq, vq, vi (17 : Int), vq, vq, vq, vi (19 : Int), vi (7 : Int), vq, vq] 42)] from ZpU a0 a1 N _ h) [k0] n [] rfl hnd hlt (show 1 ≤ 1 from by decide) (show ∀ j ∈ ([] : List Nat), j < 1 from by decide) (by rfl) ⟨rfl, trivial⟩ (by rfl) ⟨rfl, trivial⟩ ⟨.inr rfl, trivial⟩ rfl rfl rfl (Za (ZbX rfl rfl) rfl) rfl)

noncomputable def Zo1  : Ze8 → Value
 | .r0 => vT
noncomputable def Znb  : Ze8 → List (Option AObj)
 | .r0 => []

theorem Ztz  (N : Nat) : Gx Tryz.prog 33 [] #[Value.agg #[vi (9 : Int), vi (2 : Int), vi (8 : Int), vq]] (Zo1 ) (Znb ) (Zgn  N) := by
 unfold Zgn
 exact Zh Zi (r := (.r0 : Ze8)) (fu := 4000) (orc := (Zl [] [] [] [] [])) (live := []) (u := vT) (bl := []) (ob := []) (by kernel_rfl) Zf rfl (by decide) (by rfl) rr trivial (Zg _ rfl)

theorem Zr9  (N : Nat) (r : Ze8) (h : Zgn  N = some r) : LSpec Tryz.prog 33 #[Value.agg #[vi (9 : Int), vi (2 : Int), vi (8 : Int), vq]] [] (Zo1  r) (Znb  r) :=
 (Ztz  N) r h

noncomputable def Zux  (n : Nat) : Zx := .call [] (vT) [] 0
def Znc (A : Array Value)  (n : Nat) : Prop := Zj Tryz.prog 33 A [] (vT) [] n 0

theorem Zuy (A : Array Value)  (N : Nat) (h : Zgn  N = some (.r0)) (n : Nat) (hA : A = #[Value.agg #[vi (9 : Int), vi (2 : Int), vi (8 : Int), vq]]) (hnd : ([] : List Nat).Nodup) (hlt : ∀ k ∈ ([] : List Nat), k < n) : Znc A   n :=
 Zm hA (LSpec.callL (show LSpec Tryz.prog 33 #[Value.agg #[vi (9 : Int), vi (2 : Int), vi (8 : Int), vq]] [] (vT) [] from Zr9  N _ h) [] n [] rfl hnd hlt (show 0 ≤ 0 from by decide) (show ∀ j ∈ ([] : List Nat), j < 0 from by decide) (by rfl) trivial (by rfl) trivial trivial rfl rfl rfl rfl rfl)

noncomputable def Zo2  : Ze9 → Value
 | .r0 => vT
noncomputable def Znd  : Ze9 → List (Option AObj)
 | .r0 => []

theorem Zt0  (N : Nat) : Gx Tryz.prog 33 [] #[Value.agg #[vi (13 : Int), vi (3 : Int), vi (2 : Int), vq]] (Zo2 ) (Znd ) (Zgo  N) := by
 unfold Zgo
 exact Zh Zi (r := (.r0 : Ze9)) (fu := 4000) (orc := (Zl [] [] [] [] [])) (live := []) (u := vT) (bl := []) (ob := []) (by kernel_rfl) Zf rfl (by decide) (by rfl) rr trivial (Zg _ rfl)

theorem ZrA  (N : Nat) (r : Ze9) (h : Zgo  N = some r) : LSpec Tryz.prog 33 #[Value.agg #[vi (13 : Int), vi (3 : Int), vi (2 : Int), vq]] [] (Zo2  r) (Znd  r) :=
 (Zt0  N) r h

noncomputable def Zuz  (n : Nat) : Zx := .call [] (vT) [] 0
def Zne (A : Array Value)  (n : Nat) : Prop := Zj Tryz.prog 33 A [] (vT) [] n 0

theorem Zu0 (A : Array Value)  (N : Nat) (h : Zgo  N = some (.r0)) (n : Nat) (hA : A = #[Value.agg #[vi (13 : Int), vi (3 : Int), vi (2 : Int), vq]]) (hnd : ([] : List Nat).Nodup) (hlt : ∀ k ∈ ([] : List Nat), k < n) : Zne A   n :=
 Zm hA (LSpec.callL (show LSpec Tryz.prog 33 #[Value.agg #[vi (13 : Int), vi (3 : Int), vi (2 : Int), vq]] [] (vT) [] from ZrA  N _ h) [] n [] rfl hnd hlt (show 0 ≤ 0 from by decide) (show ∀ j ∈ ([] : List Nat), j < 0 from by decide) (by rfl) trivial (by rfl) trivial trivial rfl rfl rfl rfl rfl)

noncomputable def Zo3  : ZeA → Value
 | .r0 => vT
noncomputable def Znf  : ZeA → List (Option AObj)
 | .r0 => []

theorem Zt1  (N : Nat) : Gx Tryz.prog 33 [] #[Value.agg #[vi (9 : Int), vi (3 : Int), vi (8 : Int), vq]] (Zo3 ) (Znf ) (Zgp  N) := by
 unfold Zgp
 exact Zh Zi (r := (.r0 : ZeA)) (fu := 4000) (orc := (Zl [] [] [] [] [])) (live := []) (u := vT) (bl := []) (ob := []) (by kernel_rfl) Zf rfl (by decide) (by rfl) rr trivial (Zg _ rfl)

theorem ZrB  (N : Nat) (r : ZeA) (h : Zgp  N = some r) : LSpec Tryz.prog 33 #[Value.agg #[vi (9 : Int), vi (3 : Int), vi (8 : Int), vq]] [] (Zo3  r) (Znf  r) :=
 (Zt1  N) r h

noncomputable def Zu1  (n : Nat) : Zx := .call [] (vT) [] 0
def Zng (A : Array Value)  (n : Nat) : Prop := Zj Tryz.prog 33 A [] (vT) [] n 0

theorem Zu2 (A : Array Value)  (N : Nat) (h : Zgp  N = some (.r0)) (n : Nat) (hA : A = #[Value.agg #[vi (9 : Int), vi (3 : Int), vi (8 : Int), vq]]) (hnd : ([] : List Nat).Nodup) (hlt : ∀ k ∈ ([] : List Nat), k < n) : Zng A   n :=
 Zm hA (LSpec.callL (show LSpec Tryz.prog 33 #[Value.agg #[vi (9 : Int), vi (3 : Int), vi (8 : Int), vq]] [] (vT) [] from ZrB  N _ h) [] n [] rfl hnd hlt (show 0 ≤ 0 from by decide) (show ∀ j ∈ ([] : List Nat), j < 0 from by decide) (by rfl) trivial (by rfl) trivial trivial rfl rfl rfl rfl rfl)

noncomputable def Zo4  : ZeB → Value
 | .r0 => vT
noncomputable def Znh  : ZeB → List (Option AObj)
 | .r0 => []

theorem Zt2  (N : Nat) : Gx Tryz.prog 33 [] #[Value.agg #[vi (3 : Int), vi (2 : Int), vi (3 : Int), vq]] (Zo4 ) (Znh ) (Zgq  N) := by
 unfold Zgq
 exact Zh Zi (r := (.r0 : ZeB)) (fu := 4000) (orc := (Zl [] [] [] [] [])) (live := []) (u := vT) (bl := []) (ob := []) (by kernel_rfl) Zf rfl (by decide) (by rfl) rr trivial (Zg _ rfl)

theorem ZrC  (N : Nat) (r : ZeB) (h : Zgq  N = some r) : LSpec Tryz.prog 33 #[Value.agg #[vi (3 : Int), vi (2 : Int), vi (3 : Int), vq]] [] (Zo4  r) (Znh  r) :=
 (Zt2  N) r h

noncomputable def Zu3  (n : Nat) : Zx := .call [] (vT) [] 0
def Zni (A : Array Value)  (n : Nat) : Prop := Zj Tryz.prog 33 A [] (vT) [] n 0

theorem Zu4 (A : Array Value)  (N : Nat) (h : Zgq  N = some (.r0)) (n : Nat) (hA : A = #[Value.agg #[vi (3 : Int), vi (2 : Int), vi (3 : Int), vq]]) (hnd : ([] : List Nat).Nodup) (hlt : ∀ k ∈ ([] : List Nat), k < n) : Zni A   n :=
 Zm hA (LSpec.callL (show LSpec Tryz.prog 33 #[Value.agg #[vi (3 : Int), vi (2 : Int), vi (3 : Int), vq]] [] (vT) [] from ZrC  N _ h) [] n [] rfl hnd hlt (show 0 ≤ 0 from by decide) (show ∀ j ∈ ([] : List Nat), j < 0 from by decide) (by rfl) trivial (by rfl) trivial trivial rfl rfl rfl rfl rfl)

noncomputable def Zo5  : ZeC → Value
 | .r0 => vT
noncomputable def Znj  : ZeC → List (Option AObj)
 | .r0 => []

theorem Zt3  (N : Nat) : Gx Tryz.prog 33 [] #[Value.agg #[vi (8 : Int), vi (4 : Int), vq, vq]] (Zo5 ) (Znj ) (Zgr  N) := by
 unfold Zgr
 exact Zh Zi (r := (.r0 : ZeC)) (fu := 4000) (orc := (Zl [] [] [] [] [])) (live := []) (u := vT) (bl := []) (ob := []) (by kernel_rfl) Zf rfl (by decide) (by rfl) rr trivial (Zg _ rfl)

theorem ZrD  (N : Nat) (r : ZeC) (h : Zgr  N = some r) : LSpec Tryz.prog 33 #[Value.agg #[vi (8 : Int), vi (4 : Int), vq, vq]] [] (Zo5  r) (Znj  r) :=
 (Zt3  N) r h

noncomputable def Zu5  (n : Nat) : Zx := .call [] (vT) [] 0
def Znk (A : Array Value)  (n : Nat) : Prop := Zj Tryz.prog 33 A [] (vT) [] n 0

theorem Zu6 (A : Array Value)  (N : Nat) (h : Zgr  N = some (.r0)) (n : Nat) (hA : A = #[Value.agg #[vi (8 : Int), vi (4 : Int), vq, vq]]) (hnd : ([] : List Nat).Nodup) (hlt : ∀ k ∈ ([] : List Nat), k < n) : Znk A   n :=
 Zm hA (LSpec.callL (show LSpec Tryz.prog 33 #[Value.agg #[vi (8 : Int), vi (4 : Int), vq, vq]] [] (vT) [] from ZrD  N _ h) [] n [] rfl hnd hlt (show 0 ≤ 0 from by decide) (show ∀ j ∈ ([] : List Nat), j < 0 from by decide) (by rfl) trivial (by rfl) trivial trivial rfl rfl rfl rfl rfl)

noncomputable def Zo6  : ZeD → Value
 | .r0 => vT
noncomputable def Znl  : ZeD → List (Option AObj)
 | .r0 => []

theorem Zt4  (N : Nat) : Gx Tryz.prog 33 [] #[Value.agg #[vi (9 : Int), vi (2 : Int), vi (12 : Int), vq]] (Zo6 ) (Znl ) (Zgs  N) := by
 unfold Zgs
 exact Zh Zi (r := (.r0 : ZeD)) (fu := 4000) (orc := (Zl [] [] [] [] [])) (live := []) (u := vT) (bl := []) (ob := []) (by kernel_rfl) Zf rfl (by decide) (by rfl) rr trivial (Zg _ rfl)

theorem ZrE  (N : Nat) (r : ZeD) (h : Zgs  N = some r) : LSpec Tryz.prog 33 #[Value.agg #[vi (9 : Int), vi (2 : Int), vi (12 : Int), vq]] [] (Zo6  r) (Znl  r) :=
 (Zt4  N) r h

noncomputable def Zu7  (n : Nat) : Zx := .call [] (vT) [] 0
def Znm (A : Array Value)  (n : Nat) : Prop := Zj Tryz.prog 33 A [] (vT) [] n 0

theorem Zu8 (A : Array Value)  (N : Nat) (h : Zgs  N = some (.r0)) (n : Nat) (hA : A = #[Value.agg #[vi (9 : Int), vi (2 : Int), vi (12 : Int), vq]]) (hnd : ([] : List Nat).Nodup) (hlt : ∀ k ∈ ([] : List Nat), k < n) : Znm A   n :=
 Zm hA (LSpec.callL (show LSpec Tryz.prog 33 #[Value.agg #[vi (9 : Int), vi (2 : Int), vi (12 : Int), vq]] [] (vT) [] from ZrE  N _ h) [] n [] rfl hnd hlt (show 0 ≤ 0 from by decide) (show ∀ j ∈ ([] : List Nat), j < 0 from by decide) (by rfl) trivial (by rfl) trivial trivial rfl rfl rfl rfl rfl)

noncomputable def Zo7  : ZeE → Value
 | .r0 => vT
noncomputable def Znn  : ZeE → List (Option AObj)
 | .r0 => []

theorem Zt5  (N : Nat) : Gx Tryz.prog 33 [] #[Value.agg #[vi (13 : Int), vi (7 : Int), vi (2 : Int), vi (2 : Int)]] (Zo7 ) (Znn ) (Zgt  N) := by
 unfold Zgt
 exact Zh Zi (r := (.r0 : ZeE)) (fu := 4000) (orc := (Zl [] [] [] [] [])) (live := []) (u := vT) (bl := []) (ob := []) (by kernel_rfl) Zf rfl (by decide) (by rfl) rr trivial (Zg _ rfl)

theorem ZrF  (N : Nat) (r : ZeE) (h : Zgt  N = some r) : LSpec Tryz.prog 33 #[Value.agg #[vi (13 : Int), vi (7 : Int), vi (2 : Int), vi (2 : Int)]] [] (Zo7  r) (Znn  r) :=
 (Zt5  N) r h

noncomputable def Zu9  (n : Nat) : Zx := .call [] (vT) [] 0
def Zno (A : Array Value)  (n : Nat) : Prop := Zj Tryz.prog 33 A [] (vT) [] n 0

theorem ZuA (A : Array Value)  (N : Nat) (h : Zgt  N = some (.r0)) (n : Nat) (hA : A = #[Value.agg #[vi (13 : Int), vi (7 : Int), vi (2 : Int), vi (2 : Int)]]) (hnd : ([] : List Nat).Nodup) (hlt : ∀ k ∈ ([] : List Nat), k < n) : Zno A   n :=
 Zm hA (LSpec.callL (show LSpec Tryz.prog 33 #[Value.agg #[vi (13 : Int), vi (7 : Int), vi (2 : Int), vi (2 : Int)]] [] (vT) [] from ZrF  N _ h) [] n [] rfl hnd hlt (show 0 ≤ 0 from by decide) (show ∀ j ∈ ([] : List Nat), j < 0 from by decide) (by rfl) trivial (by rfl) trivial trivial rfl rfl rfl rfl rfl)

noncomputable def Zlz (a0 : Int) : ZbF → Value
 | .r0 => vq
 | .r1 => vi (120 : Int)
noncomputable def ZkT (a0 : Int) : ZbF → List (Option AObj)
 | .r0 => [some (.cells [vi (10 : Int), vq, vq, vq, vi (15 : Int), vq, vq, vq, vi (13 : Int), vi (2 : Int), vq, vi a0, vi (9 : Int), vi (2 : Int), vi (8 : Int), vq, vi (13 : Int), vi (3 : Int), vi (2 : Int), vq, vi (9 : Int), vi (3 : Int), vi (8 : Int), vq, vi (3 : Int), vi (2 : Int), vi (3 : Int), vq, vi (8 : Int), vi (4 : Int), vq, vq, vi (17 : Int), vq, vq, vq, vi (9 : Int), vi (2 : Int), vi (12 : Int), vq, vi (13 : Int), vi (7 : Int), vi (2 : Int), vi (2 : Int), vi (19 : Int), vi (7 : Int), vq, vq] 42)]
 | .r1 => [some (.cells [vi (10 : Int), vq, vq, vq, vi (15 : Int), vq, vq, vq, vi (13 : Int), vi (2 : Int), vq, vi a0, vi (9 : Int), vi (2 : Int), vi (8 : Int), vq, vi (13 : Int), vi (3 : Int), vi (2 : Int), vq, vi (9 : Int), vi (3 : Int), vi (8 : Int), vq, vi (3 : Int), vi (2 : Int), vi (3 : Int), vq, vi (8 : Int), vi (4 : Int), vq, vq, vi (17 : Int), vq, vq, vq, vi (9 : Int), vi (2 : Int), vi (12 : Int), vq, vi (13 : Int), vi (7 : Int), vi (2 : Int), vi (2 : Int), vi (19 : Int), vi (7 : Int), vq, vq] 42)]

theorem ZrG (a0 : Int) (N : Nat) : Gx Tryz.prog 13 [.cells [vi (10 : Int), vq, vq, vq, vi (15 : Int), vq, vq, vq, vi (13 : Int), vi (2 : Int), vq, vi a0, vi (9 : Int), vi (2 : Int), vi (8 : Int), vq, vi (13 : Int), vi (3 : Int), vi (2 : Int), vq, vi (9 : Int), vi (3 : Int), vi (8 : Int), vq, vi (3 : Int), vi (2 : Int), vi (3 : Int), vq, vi (8 : Int), vi (4 : Int), vq, vq, vi (17 : Int), vq, vq, vq, vi (9 : Int), vi (2 : Int), vi (12 : Int), vq, vi (13 : Int), vi (7 : Int), vi (2 : Int), vi (2 : Int), vi (19 : Int), vi (7 : Int), vq, vq] 42] #[vs 0 0 12 12] (Zlz a0) (ZkT a0) (Zbf a0 N) := by
 unfold Zbf
 refine Zd (fun z0 c0 => ?_)
 cases z0 with
 | r0 =>
  refine Zd (fun z1 c1 => ?_)
  cases z1 with
  | r0 =>
   refine Zd (fun z2 c2 => ?_)
   cases z2 with
   | r0 =>
    refine Zd (fun z3 c3 => ?_)
    cases z3 with
    | r0 =>
     refine Zd (fun z4 c4 => ?_)
     cases z4 with
     | r0 =>
      refine Zd (fun z5 c5 => ?_)
      cases z5 with
      | r0 =>
       refine Zd (fun z6 c6 => ?_)
       cases z6 with
       | r0 =>
        refine Zd (fun z7 c7 => ?_)
        cases z7 with
        | r0 =>
         refine Zd (fun z8 c8 => ?_)
         cases z8 with
         | r0 =>
          refine Zd (fun z9 c9 => ?_)
          cases z9 with
          | r0 =>
           refine Zd (fun z10 c10 => ?_)
           cases z10 with
           | r0 =>
            refine Zd (fun z11 c11 => ?_)
            cases z11 with
            | r0 =>
             exact Zh Zi (r := (.r0 : ZbF)) (fu := 4000) (orc := (Zl [] [] [] [] [(0, (ZaW     2)), (3, (Zba     6)), (4, (Zdd (a0)    7)), (5, (Zux     8)), (6, (Zuz     9)), (7, (Zu1     10)), (8, (Zu3     11)), (9, (Zu5     12)), (11, (Zg5     13)), (12, (Zu7     14)), (13, (Zu9     15)), (14, (ZmZ     16))])) (live := [0]) (u := vq) (bl := [some (.cells [vi (10 : Int), vq, vq, vq, vi (15 : Int), vq, vq, vq, vi (13 : Int), vi (2 : Int), vq, vi a0, vi (9 : Int), vi (2 : Int), vi (8 : Int), vq, vi (13 : Int), vi (3 : Int), vi (2 : Int), vq, vi (9 : Int), vi (3 : Int), vi (8 : Int), vq, vi (3 : Int), vi (2 : Int), vi (3 : Int), vq, vi (8 : Int), vi (4 : Int), vq, vq, vi (17 : Int), vq, vq, vq, vi (9 : Int), vi (2 : Int), vi (12 : Int), vq, vi (13 : Int), vi (7 : Int), vi (2 : Int), vi (2 : Int), vi (19 : Int), vi (7 : Int), vq, vq] 42)]) (ob := [(dP (Ziv #[Value.agg #[vi (19 : Int), vi (7 : Int), vq, vq]]     16), true), (dP (Zno #[Value.agg #[vi (13 : Int), vi (7 : Int), vi (2 : Int), vi (2 : Int)]]     15), true), (dP (Znm #[Value.agg #[vi (9 : Int), vi (2 : Int), vi (12 : Int), vq]]     14), true), (dP (Zfl #[Value.agg #[vi (17 : Int), vq, vq, vq]]     13), true), (dP (Znk #[Value.agg #[vi (8 : Int), vi (4 : Int), vq, vq]]     12), true), (dP (Zni #[Value.agg #[vi (3 : Int), vi (2 : Int), vi (3 : Int), vq]]     11), true), (dP (Zng #[Value.agg #[vi (9 : Int), vi (3 : Int), vi (8 : Int), vq]]     10), true), (dP (Zne #[Value.agg #[vi (13 : Int), vi (3 : Int), vi (2 : Int), vq]]     9), true), (dP (Znc #[Value.agg #[vi (9 : Int), vi (2 : Int), vi (8 : Int), vq]]     8), true), (dP (Zcr #[Value.agg #[vi (13 : Int), vi (2 : Int), vq, vi a0]] (a0)    7), true), (dP (ZaE #[Value.agg #[vi (15 : Int), vq, vq, vq]]     6), true), (dP (ZaD #[Value.agg #[vi (10 : Int), vq, vq, vq]]     2), true)]) (by kernel_rfl) (Zb (Zc (Zna #[Value.agg #[vi (19 : Int), vi (7 : Int), vq, vq]]    N c11  16 rfl (by decide) (by decide))) <| Zb (Zc (ZuA #[Value.agg #[vi (13 : Int), vi (7 : Int), vi (2 : Int), vi (2 : Int)]]    N c10  15 rfl (by decide) (by decide))) <| Zb (Zc (Zu8 #[Value.agg #[vi (9 : Int), vi (2 : Int), vi (12 : Int), vq]]    N c9  14 rfl (by decide) (by decide))) <| Zb (Zc (Zg6 #[Value.agg #[vi (17 : Int), vq, vq, vq]]    N c8  13 rfl (by decide) (by decide))) <| Zb (Zc (Zu6 #[Value.agg #[vi (8 : Int), vi (4 : Int), vq, vq]]    N c7  12 rfl (by decide) (by decide))) <| Zb (Zc (Zu4 #[Value.agg #[vi (3 : Int), vi (2 : Int), vi (3 : Int), vq]]    N c6  11 rfl (by decide) (by decide))) <| Zb (Zc (Zu2 #[Value.agg #[vi (9 : Int), vi (3 : Int), vi (8 : Int), vq]]    N c5  10 rfl (by decide) (by decide))) <| Zb (Zc (Zu0 #[Value.agg #[vi (13 : Int), vi (3 : Int), vi (2 : Int), vq]]    N c4  9 rfl (by decide) (by decide))) <| Zb (Zc (Zuy #[Value.agg #[vi (9 : Int), vi (2 : Int), vi (8 : Int), vq]]    N c3  8 rfl (by decide) (by decide))) <| Zb (Zc (Zde #[Value.agg #[vi (13 : Int), vi (2 : Int), vq, vi a0]] (a0)   N c2  7 rfl (by decide) (by decide))) <| Zb (Zc (Zbb #[Value.agg #[vi (15 : Int), vq, vq, vq]]    N c1  6 rfl (by decide) (by decide))) <| Zb (Zc (ZaX #[Value.agg #[vi (10 : Int), vq, vq, vq]]    N c0  2 rfl (by decide) (by decide))) Zf) rfl (by decide) (by rfl) rr ⟨⟨rfl, ⟨[], by rfl⟩, by rfl⟩, trivial⟩ (Zg _ rfl)
   | r1 =>
    exact Zh Zi (r := (.r1 : ZbF)) (fu := 4000) (orc := (Zl [(25, false)] [] [] [] [(0, (ZaW     2)), (3, (Zba     6)), (4, (Zhb (a0)    7))])) (live := [0]) (u := vi (120 : Int)) (bl := [some (.cells [vi (10 : Int), vq, vq, vq, vi (15 : Int), vq, vq, vq, vi (13 : Int), vi (2 : Int), vq, vi a0, vi (9 : Int), vi (2 : Int), vi (8 : Int), vq, vi (13 : Int), vi (3 : Int), vi (2 : Int), vq, vi (9 : Int), vi (3 : Int), vi (8 : Int), vq, vi (3 : Int), vi (2 : Int), vi (3 : Int), vq, vi (8 : Int), vi (4 : Int), vq, vq, vi (17 : Int), vq, vq, vq, vi (9 : Int), vi (2 : Int), vi (12 : Int), vq, vi (13 : Int), vi (7 : Int), vi (2 : Int), vi (2 : Int), vi (19 : Int), vi (7 : Int), vq, vq] 42)]) (ob := [((((13 : Int) == (15 : Int)) && (((2 : Int) == (0 : Int)) && (((0 : Int) == (0 : Int)) && ((a0 == (0 : Int)) && true)))), false), (dP (ZfL #[Value.agg #[vi (13 : Int), vi (2 : Int), vq, vi a0]] (a0)    7), true), (dP (ZaE #[Value.agg #[vi (15 : Int), vq, vq, vq]]     6), true), (dP (ZaD #[Value.agg #[vi (10 : Int), vq, vq, vq]]     2), true)]) (by kernel_rfl) (Zb (Bool.eq_false_iff.2 (by simp only [ne_eq, Bool.and_true, Bool.and_eq_true, beq_iff_eq]; first | omega | (intro hh; simp_all; done) | (intro hh; grind))) <| Zb (Zc (Zhc #[Value.agg #[vi (13 : Int), vi (2 : Int), vq, vi a0]] (a0)   N c2  7 rfl (by decide) (by decide))) <| Zb (Zc (Zbb #[Value.agg #[vi (15 : Int), vq, vq, vq]]    N c1  6 rfl (by decide) (by decide))) <| Zb (Zc (ZaX #[Value.agg #[vi (10 : Int), vq, vq, vq]]    N c0  2 rfl (by decide) (by decide))) Zf) rfl (by decide) (by rfl) rr ⟨⟨rfl, ⟨[], by rfl⟩, by rfl⟩, trivial⟩ (Zg _ rfl)

theorem ZpV (a0 : Int) (N : Nat) (r : ZbF) (h : Zbf a0 N = some r) : LSpec Tryz.prog 13 #[vs 0 0 12 12] [.cells [vi (10 : Int), vq, vq, vq, vi (15 : Int), vq, vq, vq, vi (13 : Int), vi (2 : Int), vq, vi a0, vi (9 : Int), vi (2 : Int), vi (8 : Int), vq, vi (13 : Int), vi (3 : Int), vi (2 : Int), vq, vi (9 : Int), vi (3 : Int), vi (8 : Int), vq, vi (3 : Int), vi (2 : Int), vi (3 : Int), vq, vi (8 : Int), vi (4 : Int), vq, vq, vi (17 : Int), vq, vq, vq, vi (9 : Int), vi (2 : Int), vi (12 : Int), vq, vi (13 : Int), vi (7 : Int), vi (2 : Int), vi (2 : Int), vi (19 : Int), vi (7 : Int), vq, vq] 42] (Zlz a0 r) (ZkT a0 r) :=
 (ZrG a0 N) r h

noncomputable def ZfM (a0 : Int) (k0 n : Nat) : Zx := .call [(k0, .cells [vi (10 : Int), vq, vq, vq, vi (15 : Int), vq, vq, vq, vi (13 : Int), vi (2 : Int), vq, vi a0, vi (9 : Int), vi (2 : Int), vi (8 : Int), vq, vi (13 : Int), vi (3 : Int), vi (2 : Int), vq, vi (9 : Int), vi (3 : Int), vi (8 : Int), vq, vi (3 : Int), vi (2 : Int), vi (3 : Int), vq, vi (8 : Int), vi (4 : Int), vq, vq, vi (17 : Int), vq, vq, vq, vi (9 : Int), vi (2 : Int), vi (12 : Int), vq, vi (13 : Int), vi (7 : Int), vi (2 : Int), vi (2 : Int), vi (19 : Int), vi (7 : Int), vq, vq] 42)] (vq) [] 0
def Zej (A : Array Value) (a0 : Int) (k0 n : Nat) : Prop := Zj Tryz.prog 13 A [(k0, .cells [vi (10 : Int), vq, vq, vq, vi (15 : Int), vq, vq, vq, vi (13 : Int), vi (2 : Int), vq, vi a0, vi (9 : Int), vi (2 : Int), vi (8 : Int), vq, vi (13 : Int), vi (3 : Int), vi (2 : Int), vq, vi (9 : Int), vi (3 : Int), vi (8 : Int), vq, vi (3 : Int), vi (2 : Int), vi (3 : Int), vq, vi (8 : Int), vi (4 : Int), vq, vq, vi (17 : Int), vq, vq, vq, vi (9 : Int), vi (2 : Int), vi (12 : Int), vq, vi (13 : Int), vi (7 : Int), vi (2 : Int), vi (2 : Int), vi (19 : Int), vi (7 : Int), vq, vq] 42)] (vq) [] n 0

theorem ZfN (A : Array Value) (a0 : Int) (N : Nat) (h : Zbf a0 N = some (.r0)) (k0 n : Nat) (hA : A = #[vs k0 0 12 12]) (hnd : ([k0] : List Nat).Nodup) (hlt : ∀ k ∈ ([k0] : List Nat), k < n) : Zej A a0 k0 n :=
 Zm hA (LSpec.callL (show LSpec Tryz.prog 13 #[vs 0 0 12 12] [.cells [vi (10 : Int), vq, vq, vq, vi (15 : Int), vq, vq, vq, vi (13 : Int), vi (2 : Int), vq, vi a0, vi (9 : Int), vi (2 : Int), vi (8 : Int), vq, vi (13 : Int), vi (3 : Int), vi (2 : Int), vq, vi (9 : Int), vi (3 : Int), vi (8 : Int), vq, vi (3 : Int), vi (2 : Int), vi (3 : Int), vq, vi (8 : Int), vi (4 : Int), vq, vq, vi (17 : Int), vq, vq, vq, vi (9 : Int), vi (2 : Int), vi (12 : Int), vq, vi (13 : Int), vi (7 : Int), vi (2 : Int), vi (2 : Int), vi (19 : Int), vi (7 : Int), vq, vq] 42] (vq) [some (.cells [vi (10 : Int), vq, vq, vq, vi (15 : Int), vq, vq, vq, vi (13 : Int), vi (2 : Int), vq, vi a0, vi (9 : Int), vi (2 : Int), vi (8 : Int), vq, vi (13 : Int), vi (3 : Int), vi (2 : Int), vq, vi (9 : Int), vi (3 : Int), vi (8 : Int), vq, vi (3 : Int), vi (2 : Int), vi (3 : Int), vq, vi (8 : Int), vi (4 : Int), vq, vq, vi (17 : Int), vq, vq, vq, vi (9 : Int), vi (2 : Int), vi (12 : Int), vq, vi (13 : Int), vi (7 : Int), vi (2 : Int), vi (2 : Int), vi (19 : Int), vi (7 : Int), vq, vq] 42)] from ZpV a0 N _ h) [k0] n [] rfl hnd hlt (show 1 ≤ 1 from by decide) (show ∀ j ∈ ([] : List Nat), j < 1 from by decide) (by rfl) ⟨rfl, trivial⟩ (by rfl) ⟨rfl, trivial⟩ ⟨.inr rfl, trivial⟩ rfl rfl rfl (Za (ZbX rfl rfl) rfl) rfl)

noncomputable def Zo8  : ZeF → Value
 | .r0 => vT
noncomputable def Znp  : ZeF → List (Option AObj)
 | .r0 => []

theorem Zt6  (N : Nat) : Gx Tryz.prog 33 [] #[Value.agg #[vi (2 : Int), vi (3 : Int), vq, vq]] (Zo8 ) (Znp ) (Zgu  N) := by
 unfold Zgu
 exact Zh Zi (r := (.r0 : ZeF)) (fu := 4000) (orc := (Zl [] [] [] [] [])) (live := []) (u := vT) (bl := []) (ob := []) (by kernel_rfl) Zf rfl (by decide) (by rfl) rr trivial (Zg _ rfl)

theorem ZrH  (N : Nat) (r : ZeF) (h : Zgu  N = some r) : LSpec Tryz.prog 33 #[Value.agg #[vi (2 : Int), vi (3 : Int), vq, vq]] [] (Zo8  r) (Znp  r) :=
 (Zt6  N) r h

noncomputable def Zg7  (n : Nat) : Zx := .call [] (vT) [] 0
def Zfm (A : Array Value)  (n : Nat) : Prop := Zj Tryz.prog 33 A [] (vT) [] n 0

theorem Zg8 (A : Array Value)  (N : Nat) (h : Zgu  N = some (.r0)) (n : Nat) (hA : A = #[Value.agg #[vi (2 : Int), vi (3 : Int), vq, vq]]) (hnd : ([] : List Nat).Nodup) (hlt : ∀ k ∈ ([] : List Nat), k < n) : Zfm A   n :=
 Zm hA (LSpec.callL (show LSpec Tryz.prog 33 #[Value.agg #[vi (2 : Int), vi (3 : Int), vq, vq]] [] (vT) [] from ZrH  N _ h) [] n [] rfl hnd hlt (show 0 ≤ 0 from by decide) (show ∀ j ∈ ([] : List Nat), j < 0 from by decide) (by rfl) trivial (by rfl) trivial trivial rfl rfl rfl rfl rfl)

noncomputable def Zo9 (a0 : Int) : Zbt → Value
 | .r0 => vT
 | .r1 => vf
noncomputable def Znq (a0 : Int) : Zbt → List (Option AObj)
 | .r0 => []
 | .r1 => []

theorem Zt7 (a0 : Int) (N : Nat) : Gx Tryz.prog 33 [] #[Value.agg #[vi (14 : Int), vq, vi a0, vi (3 : Int)]] (Zo9 a0) (Znq a0) (ZdY a0 N) := by
 unfold ZdY
 refine ZN (fun g0 => ?_) (fun g0 => ?_)
 ·
  refine ZN (fun g1 => ?_) (fun g1 => ?_)
  ·
   exact Zh Zi (r := (.r0 : Zbt)) (fu := 4000) (orc := (Zl [(22, true), (23, true)] [] [] [] [])) (live := []) (u := vT) (bl := []) (ob := [((decide (a0 < (16 : Int))), true), ((decide (a0 ≥ (0 : Int))), true)]) (by kernel_rfl) (oY <| oY Zf) rfl (by decide) (by rfl) rr trivial (Zg _ rfl)
  ·
   exact Zh Zi (r := (.r1 : Zbt)) (fu := 4000) (orc := (Zl [(22, true), (23, false)] [] [] [] [])) (live := []) (u := vf) (bl := []) (ob := [((decide (a0 < (16 : Int))), false), ((decide (a0 ≥ (0 : Int))), true)]) (by kernel_rfl) (oN <| oY Zf) rfl (by decide) (by rfl) rr trivial (Zg _ rfl)
 ·
  exact Zh Zi (r := (.r1 : Zbt)) (fu := 4000) (orc := (Zl [(22, false)] [] [] [] [])) (live := []) (u := vf) (bl := []) (ob := [((decide (a0 ≥ (0 : Int))), false)]) (by kernel_rfl) (oN Zf) rfl (by decide) (by rfl) rr trivial (Zg _ rfl)

theorem ZjB (a0 : Int) (N : Nat) (r : Zbt) (h : ZdY a0 N = some r) : LSpec Tryz.prog 33 #[Value.agg #[vi (14 : Int), vq, vi a0, vi (3 : Int)]] [] (Zo9 a0 r) (Znq a0 r) :=
 (Zt7 a0 N) r h

noncomputable def Znr (a0 : Int) (n : Nat) : Zx := .call [] (vT) [] 0
def Ziw (A : Array Value) (a0 : Int) (n : Nat) : Prop := Zj Tryz.prog 33 A [] (vT) [] n 0

theorem Zns (A : Array Value) (a0 : Int) (N : Nat) (h : ZdY a0 N = some (.r0)) (n : Nat) (hA : A = #[Value.agg #[vi (14 : Int), vq, vi a0, vi (3 : Int)]]) (hnd : ([] : List Nat).Nodup) (hlt : ∀ k ∈ ([] : List Nat), k < n) : Ziw A a0  n :=
 Zm hA (LSpec.callL (show LSpec Tryz.prog 33 #[Value.agg #[vi (14 : Int), vq, vi a0, vi (3 : Int)]] [] (vT) [] from ZjB a0 N _ h) [] n [] rfl hnd hlt (show 0 ≤ 0 from by decide) (show ∀ j ∈ ([] : List Nat), j < 0 from by decide) (by rfl) trivial (by rfl) trivial trivial rfl rfl rfl rfl rfl)

noncomputable def ZuB (a0 : Int) (n : Nat) : Zx := .call [] (vf) [] 0
def Znt (A : Array Value) (a0 : Int) (n : Nat) : Prop := Zj Tryz.prog 33 A [] (vf) [] n 0

theorem ZuC (A : Array Value) (a0 : Int) (N : Nat) (h : ZdY a0 N = some (.r1)) (n : Nat) (hA : A = #[Value.agg #[vi (14 : Int), vq, vi a0, vi (3 : Int)]]) (hnd : ([] : List Nat).Nodup) (hlt : ∀ k ∈ ([] : List Nat), k < n) : Znt A a0  n :=
 Zm hA (LSpec.callL (show LSpec Tryz.prog 33 #[Value.agg #[vi (14 : Int), vq, vi a0, vi (3 : Int)]] [] (vf) [] from ZjB a0 N _ h) [] n [] rfl hnd hlt (show 0 ≤ 0 from by decide) (show ∀ j ∈ ([] : List Nat), j < 0 from by decide) (by rfl) trivial (by rfl) trivial trivial rfl rfl rfl rfl rfl)

noncomputable def ZoA (a0 : Int) : Zbu → Value
 | .r0 => vT
 | .r1 => vf
noncomputable def Znu (a0 : Int) : Zbu → List (Option AObj)
 | .r0 => []
 | .r1 => []

theorem Zt8 (a0 : Int) (N : Nat) : Gx Tryz.prog 33 [] #[Value.agg #[vi (14 : Int), vq, vi a0, vi (2 : Int)]] (ZoA a0) (Znu a0) (ZdZ a0 N) := by
 unfold ZdZ
 refine ZN (fun g0 => ?_) (fun g0 => ?_)
 ·
  refine ZN (fun g1 => ?_) (fun g1 => ?_)
  ·
   exact Zh Zi (r := (.r0 : Zbu)) (fu := 4000) (orc := (Zl [(22, true), (23, true)] [] [] [] [])) (live := []) (u := vT) (bl := []) (ob := [((decide (a0 < (16 : Int))), true), ((decide (a0 ≥ (0 : Int))), true)]) (by kernel_rfl) (oY <| oY Zf) rfl (by decide) (by rfl) rr trivial (Zg _ rfl)
  ·
   exact Zh Zi (r := (.r1 : Zbu)) (fu := 4000) (orc := (Zl [(22, true), (23, false)] [] [] [] [])) (live := []) (u := vf) (bl := []) (ob := [((decide (a0 < (16 : Int))), false), ((decide (a0 ≥ (0 : Int))), true)]) (by kernel_rfl) (oN <| oY Zf) rfl (by decide) (by rfl) rr trivial (Zg _ rfl)
 ·
  exact Zh Zi (r := (.r1 : Zbu)) (fu := 4000) (orc := (Zl [(22, false)] [] [] [] [])) (live := []) (u := vf) (bl := []) (ob := [((decide (a0 ≥ (0 : Int))), false)]) (by kernel_rfl) (oN Zf) rfl (by decide) (by rfl) rr trivial (Zg _ rfl)

theorem ZjC (a0 : Int) (N : Nat) (r : Zbu) (h : ZdZ a0 N = some r) : LSpec Tryz.prog 33 #[Value.agg #[vi (14 : Int), vq, vi a0, vi (2 : Int)]] [] (ZoA a0 r) (Znu a0 r) :=
 (Zt8 a0 N) r h

noncomputable def ZuD (a0 : Int) (n : Nat) : Zx := .call [] (vT) [] 0
def Znv (A : Array Value) (a0 : Int) (n : Nat) : Prop := Zj Tryz.prog 33 A [] (vT) [] n 0

theorem ZuE (A : Array Value) (a0 : Int) (N : Nat) (h : ZdZ a0 N = some (.r0)) (n : Nat) (hA : A = #[Value.agg #[vi (14 : Int), vq, vi a0, vi (2 : Int)]]) (hnd : ([] : List Nat).Nodup) (hlt : ∀ k ∈ ([] : List Nat), k < n) : Znv A a0  n :=
 Zm hA (LSpec.callL (show LSpec Tryz.prog 33 #[Value.agg #[vi (14 : Int), vq, vi a0, vi (2 : Int)]] [] (vT) [] from ZjC a0 N _ h) [] n [] rfl hnd hlt (show 0 ≤ 0 from by decide) (show ∀ j ∈ ([] : List Nat), j < 0 from by decide) (by rfl) trivial (by rfl) trivial trivial rfl rfl rfl rfl rfl)

noncomputable def ZuF (a0 : Int) (n : Nat) : Zx := .call [] (vf) [] 0
def Znw (A : Array Value) (a0 : Int) (n : Nat) : Prop := Zj Tryz.prog 33 A [] (vf) [] n 0

theorem ZuG (A : Array Value) (a0 : Int) (N : Nat) (h : ZdZ a0 N = some (.r1)) (n : Nat) (hA : A = #[Value.agg #[vi (14 : Int), vq, vi a0, vi (2 : Int)]]) (hnd : ([] : List Nat).Nodup) (hlt : ∀ k ∈ ([] : List Nat), k < n) : Znw A a0  n :=
 Zm hA (LSpec.callL (show LSpec Tryz.prog 33 #[Value.agg #[vi (14 : Int), vq, vi a0, vi (2 : Int)]] [] (vf) [] from ZjC a0 N _ h) [] n [] rfl hnd hlt (show 0 ≤ 0 from by decide) (show ∀ j ∈ ([] : List Nat), j < 0 from by decide) (by rfl) trivial (by rfl) trivial trivial rfl rfl rfl rfl rfl)

noncomputable def Zl0 (a0 a1 a2 : Int) : Zav → Value
 | .r0 => vq
 | .r1 => vi (120 : Int)
noncomputable def ZkU (a0 a1 a2 : Int) : Zav → List (Option AObj)
 | .r0 => [some (.cells [vi (10 : Int), vq, vq, vq, vi (2 : Int), vi (3 : Int), vq, vq, vi (15 : Int), vq, vq, vq, vi (13 : Int), vi (2 : Int), vq, vi a0, vi (14 : Int), vq, vi a1, vi (3 : Int), vi (14 : Int), vq, vi a2, vi (2 : Int), vi (17 : Int), vq, vq, vq] 42)]
 | .r1 => [some (.cells [vi (10 : Int), vq, vq, vq, vi (2 : Int), vi (3 : Int), vq, vq, vi (15 : Int), vq, vq, vq, vi (13 : Int), vi (2 : Int), vq, vi a0, vi (14 : Int), vq, vi a1, vi (3 : Int), vi (14 : Int), vq, vi a2, vi (2 : Int), vi (17 : Int), vq, vq, vq] 42)]

theorem ZrI (a0 a1 a2 : Int) (N : Nat) : Gx Tryz.prog 13 [.cells [vi (10 : Int), vq, vq, vq, vi (2 : Int), vi (3 : Int), vq, vq, vi (15 : Int), vq, vq, vq, vi (13 : Int), vi (2 : Int), vq, vi a0, vi (14 : Int), vq, vi a1, vi (3 : Int), vi (14 : Int), vq, vi a2, vi (2 : Int), vi (17 : Int), vq, vq, vq] 42] #[vs 0 0 7 7] (Zl0 a0 a1 a2) (ZkU a0 a1 a2) (Zcf a0 a1 a2 N) := by
 unfold Zcf
 refine Zd (fun z0 c0 => ?_)
 cases z0 with
 | r0 =>
  refine Zd (fun z1 c1 => ?_)
  cases z1 with
  | r0 =>
   refine Zd (fun z2 c2 => ?_)
   cases z2 with
   | r0 =>
    refine Zd (fun z3 c3 => ?_)
    cases z3 with
    | r0 =>
     refine Zd (fun z4 c4 => ?_)
     cases z4 with
     | r0 =>
      refine Zd (fun z5 c5 => ?_)
      cases z5 with
      | r0 =>
       refine Zd (fun z6 c6 => ?_)
       cases z6 with
       | r0 =>
        exact Zh Zi (r := (.r0 : Zav)) (fu := 4000) (orc := (Zl [] [] [] [] [(0, (ZaW     2)), (1, (Zg7     3)), (4, (Zba     7)), (5, (Zdd (a0)    8)), (6, (Znr (a1)    9)), (7, (ZuD (a2)    10)), (9, (Zg5     11))])) (live := [0]) (u := vq) (bl := [some (.cells [vi (10 : Int), vq, vq, vq, vi (2 : Int), vi (3 : Int), vq, vq, vi (15 : Int), vq, vq, vq, vi (13 : Int), vi (2 : Int), vq, vi a0, vi (14 : Int), vq, vi a1, vi (3 : Int), vi (14 : Int), vq, vi a2, vi (2 : Int), vi (17 : Int), vq, vq, vq] 42)]) (ob := [(dP (Zfl #[Value.agg #[vi (17 : Int), vq, vq, vq]]     11), true), (dP (Znv #[Value.agg #[vi (14 : Int), vq, vi a2, vi (2 : Int)]] (a2)    10), true), (dP (Ziw #[Value.agg #[vi (14 : Int), vq, vi a1, vi (3 : Int)]] (a1)    9), true), (dP (Zcr #[Value.agg #[vi (13 : Int), vi (2 : Int), vq, vi a0]] (a0)    8), true), (dP (ZaE #[Value.agg #[vi (15 : Int), vq, vq, vq]]     7), true), (dP (Zfm #[Value.agg #[vi (2 : Int), vi (3 : Int), vq, vq]]     3), true), (dP (ZaD #[Value.agg #[vi (10 : Int), vq, vq, vq]]     2), true)]) (by kernel_rfl) (Zb (Zc (Zg6 #[Value.agg #[vi (17 : Int), vq, vq, vq]]    N c6  11 rfl (by decide) (by decide))) <| Zb (Zc (ZuE #[Value.agg #[vi (14 : Int), vq, vi a2, vi (2 : Int)]] (a2)   N c5  10 rfl (by decide) (by decide))) <| Zb (Zc (Zns #[Value.agg #[vi (14 : Int), vq, vi a1, vi (3 : Int)]] (a1)   N c4  9 rfl (by decide) (by decide))) <| Zb (Zc (Zde #[Value.agg #[vi (13 : Int), vi (2 : Int), vq, vi a0]] (a0)   N c3  8 rfl (by decide) (by decide))) <| Zb (Zc (Zbb #[Value.agg #[vi (15 : Int), vq, vq, vq]]    N c2  7 rfl (by decide) (by decide))) <| Zb (Zc (Zg8 #[Value.agg #[vi (2 : Int), vi (3 : Int), vq, vq]]    N c1  3 rfl (by decide) (by decide))) <| Zb (Zc (ZaX #[Value.agg #[vi (10 : Int), vq, vq, vq]]    N c0  2 rfl (by decide) (by decide))) Zf) rfl (by decide) (by rfl) rr ⟨⟨rfl, ⟨[], by rfl⟩, by rfl⟩, trivial⟩ (Zg _ rfl)
      | r1 =>
       exact Zh Zi (r := (.r1 : Zav)) (fu := 4000) (orc := (Zl [(49, false)] [] [] [] [(0, (ZaW     2)), (1, (Zg7     3)), (4, (Zba     7)), (5, (Zdd (a0)    8)), (6, (Znr (a1)    9)), (7, (ZuF (a2)    10))])) (live := [0]) (u := vi (120 : Int)) (bl := [some (.cells [vi (10 : Int), vq, vq, vq, vi (2 : Int), vi (3 : Int), vq, vq, vi (15 : Int), vq, vq, vq, vi (13 : Int), vi (2 : Int), vq, vi a0, vi (14 : Int), vq, vi a1, vi (3 : Int), vi (14 : Int), vq, vi a2, vi (2 : Int), vi (17 : Int), vq, vq, vq] 42)]) (ob := [((((14 : Int) == (15 : Int)) && (((0 : Int) == (0 : Int)) && ((a2 == (0 : Int)) && (((2 : Int) == (0 : Int)) && true)))), false), (dP (Znw #[Value.agg #[vi (14 : Int), vq, vi a2, vi (2 : Int)]] (a2)    10), true), (dP (Ziw #[Value.agg #[vi (14 : Int), vq, vi a1, vi (3 : Int)]] (a1)    9), true), (dP (Zcr #[Value.agg #[vi (13 : Int), vi (2 : Int), vq, vi a0]] (a0)    8), true), (dP (ZaE #[Value.agg #[vi (15 : Int), vq, vq, vq]]     7), true), (dP (Zfm #[Value.agg #[vi (2 : Int), vi (3 : Int), vq, vq]]     3), true), (dP (ZaD #[Value.agg #[vi (10 : Int), vq, vq, vq]]     2), true)]) (by kernel_rfl) (Zb (Bool.eq_false_iff.2 (by simp only [ne_eq, Bool.and_true, Bool.and_eq_true, beq_iff_eq]; first | omega | (intro hh; simp_all; done) | (intro hh; grind))) <| Zb (Zc (ZuG #[Value.agg #[vi (14 : Int), vq, vi a2, vi (2 : Int)]] (a2)   N c5  10 rfl (by decide) (by decide))) <| Zb (Zc (Zns #[Value.agg #[vi (14 : Int), vq, vi a1, vi (3 : Int)]] (a1)   N c4  9 rfl (by decide) (by decide))) <| Zb (Zc (Zde #[Value.agg #[vi (13 : Int), vi (2 : Int), vq, vi a0]] (a0)   N c3  8 rfl (by decide) (by decide))) <| Zb (Zc (Zbb #[Value.agg #[vi (15 : Int), vq, vq, vq]]    N c2  7 rfl (by decide) (by decide))) <| Zb (Zc (Zg8 #[Value.agg #[vi (2 : Int), vi (3 : Int), vq, vq]]    N c1  3 rfl (by decide) (by decide))) <| Zb (Zc (ZaX #[Value.agg #[vi (10 : Int), vq, vq, vq]]    N c0  2 rfl (by decide) (by decide))) Zf) rfl (by decide) (by rfl) rr ⟨⟨rfl, ⟨[], by rfl⟩, by rfl⟩, trivial⟩ (Zg _ rfl)
     | r1 =>
      exact Zh Zi (r := (.r1 : Zav)) (fu := 4000) (orc := (Zl [(41, false)] [] [] [] [(0, (ZaW     2)), (1, (Zg7     3)), (4, (Zba     7)), (5, (Zdd (a0)    8)), (6, (ZuB (a1)    9))])) (live := [0]) (u := vi (120 : Int)) (bl := [some (.cells [vi (10 : Int), vq, vq, vq, vi (2 : Int), vi (3 : Int), vq, vq, vi (15 : Int), vq, vq, vq, vi (13 : Int), vi (2 : Int), vq, vi a0, vi (14 : Int), vq, vi a1, vi (3 : Int), vi (14 : Int), vq, vi a2, vi (2 : Int), vi (17 : Int), vq, vq, vq] 42)]) (ob := [((((14 : Int) == (15 : Int)) && (((0 : Int) == (0 : Int)) && ((a1 == (0 : Int)) && (((3 : Int) == (0 : Int)) && true)))), false), (dP (Znt #[Value.agg #[vi (14 : Int), vq, vi a1, vi (3 : Int)]] (a1)    9), true), (dP (Zcr #[Value.agg #[vi (13 : Int), vi (2 : Int), vq, vi a0]] (a0)    8), true), (dP (ZaE #[Value.agg #[vi (15 : Int), vq, vq, vq]]     7), true), (dP (Zfm #[Value.agg #[vi (2 : Int), vi (3 : Int), vq, vq]]     3), true), (dP (ZaD #[Value.agg #[vi (10 : Int), vq, vq, vq]]     2), true)]) (by kernel_rfl) (Zb (Bool.eq_false_iff.2 (by simp only [ne_eq, Bool.and_true, Bool.and_eq_true, beq_iff_eq]; first | omega | (intro hh; simp_all; done) | (intro hh; grind))) <| Zb (Zc (ZuC #[Value.agg #[vi (14 : Int), vq, vi a1, vi (3 : Int)]] (a1)   N c4  9 rfl (by decide) (by decide))) <| Zb (Zc (Zde #[Value.agg #[vi (13 : Int), vi (2 : Int), vq, vi a0]] (a0)   N c3  8 rfl (by decide) (by decide))) <| Zb (Zc (Zbb #[Value.agg #[vi (15 : Int), vq, vq, vq]]    N c2  7 rfl (by decide) (by decide))) <| Zb (Zc (Zg8 #[Value.agg #[vi (2 : Int), vi (3 : Int), vq, vq]]    N c1  3 rfl (by decide) (by decide))) <| Zb (Zc (ZaX #[Value.agg #[vi (10 : Int), vq, vq, vq]]    N c0  2 rfl (by decide) (by decide))) Zf) rfl (by decide) (by rfl) rr ⟨⟨rfl, ⟨[], by rfl⟩, by rfl⟩, trivial⟩ (Zg _ rfl)
    | r1 =>
     exact Zh Zi (r := (.r1 : Zav)) (fu := 4000) (orc := (Zl [(33, false)] [] [] [] [(0, (ZaW     2)), (1, (Zg7     3)), (4, (Zba     7)), (5, (Zhb (a0)    8))])) (live := [0]) (u := vi (120 : Int)) (bl := [some (.cells [vi (10 : Int), vq, vq, vq, vi (2 : Int), vi (3 : Int), vq, vq, vi (15 : Int), vq, vq, vq, vi (13 : Int), vi (2 : Int), vq, vi a0, vi (14 : Int), vq, vi a1, vi (3 : Int), vi (14 : Int), vq, vi a2, vi (2 : Int), vi (17 : Int), vq, vq, vq] 42)]) (ob := [((((13 : Int) == (15 : Int)) && (((2 : Int) == (0 : Int)) && (((0 : Int) == (0 : Int)) && ((a0 == (0 : Int)) && true)))), false), (dP (ZfL #[Value.agg #[vi (13 : Int), vi (2 : Int), vq, vi a0]] (a0)    8), true), (dP (ZaE #[Value.agg #[vi (15 : Int), vq, vq, vq]]     7), true), (dP (Zfm #[Value.agg #[vi (2 : Int), vi (3 : Int), vq, vq]]     3), true), (dP (ZaD #[Value.agg #[vi (10 : Int), vq, vq, vq]]     2), true)]) (by kernel_rfl) (Zb (Bool.eq_false_iff.2 (by simp only [ne_eq, Bool.and_true, Bool.and_eq_true, beq_iff_eq]; first | omega | (intro hh; simp_all; done) | (intro hh; grind))) <| Zb (Zc (Zhc #[Value.agg #[vi (13 : Int), vi (2 : Int), vq, vi a0]] (a0)   N c3  8 rfl (by decide) (by decide))) <| Zb (Zc (Zbb #[Value.agg #[vi (15 : Int), vq, vq, vq]]    N c2  7 rfl (by decide) (by decide))) <| Zb (Zc (Zg8 #[Value.agg #[vi (2 : Int), vi (3 : Int), vq, vq]]    N c1  3 rfl (by decide) (by decide))) <| Zb (Zc (ZaX #[Value.agg #[vi (10 : Int), vq, vq, vq]]    N c0  2 rfl (by decide) (by decide))) Zf) rfl (by decide) (by rfl) rr ⟨⟨rfl, ⟨[], by rfl⟩, by rfl⟩, trivial⟩ (Zg _ rfl)

theorem ZpW (a0 a1 a2 : Int) (N : Nat) (r : Zav) (h : Zcf a0 a1 a2 N = some r) : LSpec Tryz.prog 13 #[vs 0 0 7 7] [.cells [vi (10 : Int), vq, vq, vq, vi (2 : Int), vi (3 : Int), vq, vq, vi (15 : Int), vq, vq, vq, vi (13 : Int), vi (2 : Int), vq, vi a0, vi (14 : Int), vq, vi a1, vi (3 : Int), vi (14 : Int), vq, vi a2, vi (2 : Int), vi (17 : Int), vq, vq, vq] 42] (Zl0 a0 a1 a2 r) (ZkU a0 a1 a2 r) :=
 (ZrI a0 a1 a2 N) r h

noncomputable def ZkV (a0 a1 a2 : Int) (k0 n : Nat) : Zx := .call [(k0, .cells [vi (10 : Int), vq, vq, vq, vi (2 : Int), vi (3 : Int), vq, vq, vi (15 : Int), vq, vq, vq, vi (13 : Int), vi (2 : Int), vq, vi a0, vi (14 : Int), vq, vi a1, vi (3 : Int), vi (14 : Int), vq, vi a2, vi (2 : Int), vi (17 : Int), vq, vq, vq] 42)] (vq) [] 0
def Zhn (A : Array Value) (a0 a1 a2 : Int) (k0 n : Nat) : Prop := Zj Tryz.prog 13 A [(k0, .cells [vi (10 : Int), vq, vq, vq, vi (2 : Int), vi (3 : Int), vq, vq, vi (15 : Int), vq, vq, vq, vi (13 : Int), vi (2 : Int), vq, vi a0, vi (14 : Int), vq, vi a1, vi (3 : Int), vi (14 : Int), vq, vi a2, vi (2 : Int), vi (17 : Int), vq, vq, vq] 42)] (vq) [] n 0

theorem ZkW (A : Array Value) (a0 a1 a2 : Int) (N : Nat) (h : Zcf a0 a1 a2 N = some (.r0)) (k0 n : Nat) (hA : A = #[vs k0 0 7 7]) (hnd : ([k0] : List Nat).Nodup) (hlt : ∀ k ∈ ([k0] : List Nat), k < n) : Zhn A a0 a1 a2 k0 n :=
 Zm hA (LSpec.callL (show LSpec Tryz.prog 13 #[vs 0 0 7 7] [.cells [vi (10 : Int), vq, vq, vq, vi (2 : Int), vi (3 : Int), vq, vq, vi (15 : Int), vq, vq, vq, vi (13 : Int), vi (2 : Int), vq, vi a0, vi (14 : Int), vq, vi a1, vi (3 : Int), vi (14 : Int), vq, vi a2, vi (2 : Int), vi (17 : Int), vq, vq, vq] 42] (vq) [some (.cells [vi (10 : Int), vq, vq, vq, vi (2 : Int), vi (3 : Int), vq, vq, vi (15 : Int), vq, vq, vq, vi (13 : Int), vi (2 : Int), vq, vi a0, vi (14 : Int), vq, vi a1, vi (3 : Int), vi (14 : Int), vq, vi a2, vi (2 : Int), vi (17 : Int), vq, vq, vq] 42)] from ZpW a0 a1 a2 N _ h) [k0] n [] rfl hnd hlt (show 1 ≤ 1 from by decide) (show ∀ j ∈ ([] : List Nat), j < 1 from by decide) (by rfl) ⟨rfl, trivial⟩ (by rfl) ⟨rfl, trivial⟩ ⟨.inr rfl, trivial⟩ rfl rfl rfl (Za (ZbX rfl rfl) rfl) rfl)

noncomputable def Znx  : Zea → Value
 | .r0 => vT
noncomputable def Zl1  : Zea → List (Option AObj)
 | .r0 => []

theorem ZsA  (N : Nat) : Gx Tryz.prog 12 [] #[vn, vn] (Znx ) (Zl1 ) (Zat  N) := by
 unfold Zat
 exact Zh Zi (r := (.r0 : Zea)) (fu := 4000) (orc := (Zl [] [] [] [] [])) (live := []) (u := vT) (bl := []) (ob := []) (by kernel_rfl) Zf rfl (by decide) (by rfl) rr trivial (Zg _ rfl)

theorem ZqU  (N : Nat) (r : Zea) (h : Zat  N = some r) : LSpec Tryz.prog 12 #[vn, vn] [] (Znx  r) (Zl1  r) :=
 (ZsA  N) r h

noncomputable def ZaQ  (n : Nat) : Zx := .call [] (vT) [] 0
def Za7 (A : Array Value)  (n : Nat) : Prop := Zj Tryz.prog 12 A [] (vT) [] n 0

theorem ZaR (A : Array Value)  (N : Nat) (h : Zat  N = some (.r0)) (n : Nat) (hA : A = #[vn, vn]) (hnd : ([] : List Nat).Nodup) (hlt : ∀ k ∈ ([] : List Nat), k < n) : Za7 A   n :=
 Zm hA (LSpec.callL (show LSpec Tryz.prog 12 #[vn, vn] [] (vT) [] from ZqU  N _ h) [] n [] rfl hnd hlt (show 0 ≤ 0 from by decide) (show ∀ j ∈ ([] : List Nat), j < 0 from by decide) (by rfl) trivial (by rfl) trivial trivial rfl rfl rfl rfl rfl)

noncomputable def ZhP (a0 a1 a2 : Int) : ZQ → Value
 | .r0 => vT
noncomputable def Zhv (a0 a1 a2 : Int) : ZQ → List (Option AObj)
 | .r0 => []

end Ev
end Go.Proofs.YtgpekgedjmhmeaaGreat
/- Calls do what the plain functions say. -/
namespace Go.Proofs.YtgpekgedjmhmeaaGreat
open Go.RowKit
namespace Ev
set_option linter.unusedVariables false
set_option maxRecDepth 100000
theorem Zny (a0 a1 a2 : Int) (N : Nat) : Gx Tryz.prog 3 [] #[vi a0, vi a1, vi a2] (ZhP a0 a1 a2) (Zhv a0 a1 a2) (ZcW a0 a1 a2 N) := by
 unfold ZcW
 refine Zd (fun z0 c0 => ?_)
 cases z0 with
 | r0 =>
  refine Zd (fun z1 c1 => ?_)
  cases z1 with
  | r0 =>
   refine Zd (fun z2 c2 => ?_)
   cases z2 with
   | r0 =>
    refine Zd (fun z3 c3 => ?_)
    cases z3 with
    | r0 =>
     refine Zd (fun z4 c4 => ?_)
     cases z4 with
     | r0 =>
      refine Zd (fun z5 c5 => ?_)
      cases z5 with
      | r0 =>
       refine Zd (fun z6 c6 => ?_)
       cases z6 with
       | r0 =>
        refine Zd (fun z7 c7 => ?_)
        cases z7 with
        | r0 =>
         refine Zd (fun z8 c8 => ?_)
         cases z8 with
         | r0 =>
          exact ZR
         | r1 =>
          refine Zd (fun z9 c9 => ?_)
          cases z9 with
          | r0 =>
           exact ZR
          | r1 =>
           refine Zd (fun z10 c10 => ?_)
           cases z10 with
           | r0 =>
            exact ZR
           | r1 =>
            refine Zd (fun z11 c11 => ?_)
            cases z11 with
            | r0 =>
             exact ZR
            | r1 =>
             refine Zd (fun z12 c12 => ?_)
             cases z12 with
             | r0 =>
              refine Zd (fun z13 c13 => ?_)
              cases z13 with
              | r0 =>
               refine Zd (fun z14 c14 => ?_)
               cases z14 with
               | r0 =>
                refine Zd (fun z15 c15 => ?_)
                cases z15 with
                | r0 =>
                 exact Zh Zi (r := (.r0 : ZQ)) (fu := 4000) (orc := (Zl [] [] [] [] [(0, (Zmf (a0) (a2)    0)), (1, (Zln (a0) (a2)    1)), (2, (ZpD (a0) (a2)    2)), (3, (ZnC (a0) (a2)    3)), (4, (ZgY (a0)    4)), (5, (Zg0 (a0)    5)), (6, (ZpI (a0) (a1)    6)), (7, (ZnI (a0) (a1)    7)), (8, (ZnL (a2) (a0) (a0) (a2) (a0) (a0)   0 1 8)), (9, (Zls (a2) (a0) (a2) (a0)   2 3 8)), (10, (ZfU (a0) (a0)   4 5 8)), (11, (Zlw (a0) (a0) (a1) (a0) (a0) (a1)   6 7 8)), (12, (ZmE (a2) (a0) (a0)   0 8)), (13, (ZkR (a2) (a0)   2 8)), (14, (ZfM (a0)   4 8)), (15, (ZkV (a0) (a0) (a1)   6 8))])) (live := []) (u := vT) (bl := []) (ob := [(dP (Zhn #[vs 6 0 7 7] (a0) (a0) (a1)   6 8), true), (dS [vi (10 : Int), vq, vq, vq, vi (2 : Int), vi (3 : Int), vq, vq, vi (15 : Int), vq, vq, vq, vi (13 : Int), vi (2 : Int), vq, vi a0, vi (14 : Int), vq, vi a0, vi (3 : Int), vi (14 : Int), vq, vi a1, vi (2 : Int), vi (17 : Int), vq, vq, vq], true), (dP (Zej #[vs 4 0 12 12] (a0)   4 8), true), (dS [vi (10 : Int), vq, vq, vq, vi (15 : Int), vq, vq, vq, vi (13 : Int), vi (2 : Int), vq, vi a0, vi (9 : Int), vi (2 : Int), vi (8 : Int), vq, vi (13 : Int), vi (3 : Int), vi (2 : Int), vq, vi (9 : Int), vi (3 : Int), vi (8 : Int), vq, vi (3 : Int), vi (2 : Int), vi (3 : Int), vq, vi (8 : Int), vi (4 : Int), vq, vq, vi (17 : Int), vq, vq, vq, vi (9 : Int), vi (2 : Int), vi (12 : Int), vq, vi (13 : Int), vi (7 : Int), vi (2 : Int), vi (2 : Int), vi (19 : Int), vi (7 : Int), vq, vq], true), (dP (Zhm #[vs 2 0 21 21] (a2) (a0)   2 8), true), (dS [vi (10 : Int), vq, vq, vq, vi (1 : Int), vi (1 : Int), vi a2, vq, vi (1 : Int), vi (7 : Int), vq, vq, vi (15 : Int), vq, vq, vq, vi (13 : Int), vi (2 : Int), vq, vi a0, vi (9 : Int), vi (2 : Int), vi (15 : Int), vq, vi (13 : Int), vi (3 : Int), vi (2 : Int), vi (2 : Int), vi (7 : Int), vi (7 : Int), vi (1 : Int), vi (3 : Int), vi (9 : Int), vi (7 : Int), vi (10 : Int), vq, vi (8 : Int), vi (15 : Int), vq, vq, vi (6 : Int), vi (4 : Int), vi (1 : Int), vi (3 : Int), vi (13 : Int), vi (5 : Int), vi (2 : Int), vi (1 : Int), vi (9 : Int), vi (4 : Int), vi (17 : Int), vq, vi (13 : Int), vi (5 : Int), vi (2 : Int), vq, vi (8 : Int), vi (17 : Int), vq, vq, vi (8 : Int), vi (19 : Int), vq, vq, vi (8 : Int), vi (19 : Int), vq, vq, vi (3 : Int), vi (2 : Int), vi (5 : Int), vq, vi (8 : Int), vi (5 : Int), vq, vq, vi (17 : Int), vq, vq, vq, vi (19 : Int), vi (7 : Int), vq, vq], true), (dP (Zis #[vs 0 0 31 31] (a2) (a0) (a0)   0 8), true), (dS [vi (10 : Int), vq, vq, vq, vi (1 : Int), vi (1 : Int), vi a2, vq, vi (15 : Int), vq, vq, vq, vi (13 : Int), vi (2 : Int), vq, vi a0, vi (9 : Int), vi (2 : Int), vi (27 : Int), vq, vi (13 : Int), vi (3 : Int), vi (2 : Int), vi (2 : Int), vi (7 : Int), vi (4 : Int), vi (1 : Int), vi (3 : Int), vi (9 : Int), vi (4 : Int), vi (9 : Int), vq, vi (8 : Int), vi (30 : Int), vq, vq, vi (6 : Int), vi (4 : Int), vi (1 : Int), vi (3 : Int), vi (9 : Int), vi (4 : Int), vi (19 : Int), vq, vi (13 : Int), vi (5 : Int), vi (2 : Int), vq, vi (9 : Int), vi (5 : Int), vi (15 : Int), vq, vi (3 : Int), vi (2 : Int), vi (5 : Int), vq, vi (8 : Int), vi (5 : Int), vq, vq, vi (11 : Int), vi (6 : Int), vi (3 : Int), vi (3 : Int), vi (14 : Int), vi (6 : Int), vi (2 : Int), vi (1 : Int), vi (14 : Int), vi (2 : Int), vq, vi (6 : Int), vi (8 : Int), vi (30 : Int), vq, vq, vi (13 : Int), vi (5 : Int), vi (2 : Int), vi (1 : Int), vi (9 : Int), vi (5 : Int), vi (23 : Int), vq, vi (3 : Int), vi (2 : Int), vi (5 : Int), vq, vi (8 : Int), vi (5 : Int), vq, vq, vi (11 : Int), vi (6 : Int), vi (3 : Int), vi (3 : Int), vi (14 : Int), vi (6 : Int), vi (2 : Int), vi (1 : Int), vi (14 : Int), vi (2 : Int), vi (1 : Int), vi (6 : Int), vi (8 : Int), vi (30 : Int), vq, vq, vi (11 : Int), vi (6 : Int), vi (3 : Int), vi (3 : Int), vi (14 : Int), vi (6 : Int), vi (2 : Int), vi (1 : Int), vi (14 : Int), vq, vi a0, vi (6 : Int), vi (17 : Int), vq, vq, vq], true), (dP (ZhE #[vs 6 0 7 7, vs 7 0 7 7] (a0) (a0) (a1) (a0) (a0) (a1)   6 7 8), true), (dS [vi (10 : Int), vq, vq, vq, vi (2 : Int), vi (3 : Int), vq, vq, vi (15 : Int), vq, vq, vq, vi (13 : Int), vi (2 : Int), vq, vi a0, vi (14 : Int), vq, vi a0, vi (3 : Int), vi (14 : Int), vq, vi a1, vi (2 : Int), vi (17 : Int), vq, vq, vq], true), (dS [vi (10 : Int), vq, vq, vq, vi (2 : Int), vi (3 : Int), vq, vq, vi (15 : Int), vq, vq, vq, vi (13 : Int), vi (2 : Int), vq, vi a0, vi (14 : Int), vq, vi a0, vi (3 : Int), vi (14 : Int), vq, vi a1, vi (2 : Int), vi (17 : Int), vq, vq, vq], true), (dP (ZeO #[vs 4 0 12 12, vs 5 0 12 12] (a0) (a0)   4 5 8), true), (dS [vi (10 : Int), vq, vq, vq, vi (15 : Int), vq, vq, vq, vi (13 : Int), vi (2 : Int), vq, vi a0, vi (9 : Int), vi (2 : Int), vi (8 : Int), vq, vi (13 : Int), vi (3 : Int), vi (2 : Int), vq, vi (9 : Int), vi (3 : Int), vi (8 : Int), vq, vi (3 : Int), vi (2 : Int), vi (3 : Int), vq, vi (8 : Int), vi (4 : Int), vq, vq, vi (17 : Int), vq, vq, vq, vi (9 : Int), vi (2 : Int), vi (12 : Int), vq, vi (13 : Int), vi (7 : Int), vi (2 : Int), vi (2 : Int), vi (19 : Int), vi (7 : Int), vq, vq], true), (dS [vi (10 : Int), vq, vq, vq, vi (15 : Int), vq, vq, vq, vi (13 : Int), vi (2 : Int), vq, vi a0, vi (9 : Int), vi (2 : Int), vi (8 : Int), vq, vi (13 : Int), vi (3 : Int), vi (2 : Int), vq, vi (9 : Int), vi (3 : Int), vi (8 : Int), vq, vi (3 : Int), vi (2 : Int), vi (3 : Int), vq, vi (8 : Int), vi (4 : Int), vq, vq, vi (17 : Int), vq, vq, vq, vi (9 : Int), vi (2 : Int), vi (12 : Int), vq, vi (13 : Int), vi (7 : Int), vi (2 : Int), vi (2 : Int), vi (19 : Int), vi (7 : Int), vq, vq], true), (dP (ZhD #[vs 2 0 21 21, vs 3 0 21 21] (a2) (a0) (a2) (a0)   2 3 8), true), (dS [vi (10 : Int), vq, vq, vq, vi (1 : Int), vi (1 : Int), vi a2, vq, vi (1 : Int), vi (7 : Int), vq, vq, vi (15 : Int), vq, vq, vq, vi (13 : Int), vi (2 : Int), vq, vi a0, vi (9 : Int), vi (2 : Int), vi (15 : Int), vq, vi (13 : Int), vi (3 : Int), vi (2 : Int), vi (2 : Int), vi (7 : Int), vi (7 : Int), vi (1 : Int), vi (3 : Int), vi (9 : Int), vi (7 : Int), vi (10 : Int), vq, vi (8 : Int), vi (15 : Int), vq, vq, vi (6 : Int), vi (4 : Int), vi (1 : Int), vi (3 : Int), vi (13 : Int), vi (5 : Int), vi (2 : Int), vi (1 : Int), vi (9 : Int), vi (4 : Int), vi (17 : Int), vq, vi (13 : Int), vi (5 : Int), vi (2 : Int), vq, vi (8 : Int), vi (17 : Int), vq, vq, vi (8 : Int), vi (19 : Int), vq, vq, vi (8 : Int), vi (19 : Int), vq, vq, vi (3 : Int), vi (2 : Int), vi (5 : Int), vq, vi (8 : Int), vi (5 : Int), vq, vq, vi (17 : Int), vq, vq, vq, vi (19 : Int), vi (7 : Int), vq, vq], true), (dS [vi (10 : Int), vq, vq, vq, vi (1 : Int), vi (1 : Int), vi a2, vq, vi (1 : Int), vi (7 : Int), vq, vq, vi (15 : Int), vq, vq, vq, vi (13 : Int), vi (2 : Int), vq, vi a0, vi (9 : Int), vi (2 : Int), vi (15 : Int), vq, vi (13 : Int), vi (3 : Int), vi (2 : Int), vi (2 : Int), vi (7 : Int), vi (7 : Int), vi (1 : Int), vi (3 : Int), vi (9 : Int), vi (7 : Int), vi (10 : Int), vq, vi (8 : Int), vi (15 : Int), vq, vq, vi (6 : Int), vi (4 : Int), vi (1 : Int), vi (3 : Int), vi (13 : Int), vi (5 : Int), vi (2 : Int), vi (1 : Int), vi (9 : Int), vi (4 : Int), vi (17 : Int), vq, vi (13 : Int), vi (5 : Int), vi (2 : Int), vq, vi (8 : Int), vi (17 : Int), vq, vq, vi (8 : Int), vi (19 : Int), vq, vq, vi (8 : Int), vi (19 : Int), vq, vq, vi (3 : Int), vi (2 : Int), vi (5 : Int), vq, vi (8 : Int), vi (5 : Int), vq, vq, vi (17 : Int), vq, vq, vq, vi (19 : Int), vi (7 : Int), vq, vq], true), (dP (ZiO #[vs 0 0 31 31, vs 1 0 31 31] (a2) (a0) (a0) (a2) (a0) (a0)   0 1 8), true), (dS [vi (10 : Int), vq, vq, vq, vi (1 : Int), vi (1 : Int), vi a2, vq, vi (15 : Int), vq, vq, vq, vi (13 : Int), vi (2 : Int), vq, vi a0, vi (9 : Int), vi (2 : Int), vi (27 : Int), vq, vi (13 : Int), vi (3 : Int), vi (2 : Int), vi (2 : Int), vi (7 : Int), vi (4 : Int), vi (1 : Int), vi (3 : Int), vi (9 : Int), vi (4 : Int), vi (9 : Int), vq, vi (8 : Int), vi (30 : Int), vq, vq, vi (6 : Int), vi (4 : Int), vi (1 : Int), vi (3 : Int), vi (9 : Int), vi (4 : Int), vi (19 : Int), vq, vi (13 : Int), vi (5 : Int), vi (2 : Int), vq, vi (9 : Int), vi (5 : Int), vi (15 : Int), vq, vi (3 : Int), vi (2 : Int), vi (5 : Int), vq, vi (8 : Int), vi (5 : Int), vq, vq, vi (11 : Int), vi (6 : Int), vi (3 : Int), vi (3 : Int), vi (14 : Int), vi (6 : Int), vi (2 : Int), vi (1 : Int), vi (14 : Int), vi (2 : Int), vq, vi (6 : Int), vi (8 : Int), vi (30 : Int), vq, vq, vi (13 : Int), vi (5 : Int), vi (2 : Int), vi (1 : Int), vi (9 : Int), vi (5 : Int), vi (23 : Int), vq, vi (3 : Int), vi (2 : Int), vi (5 : Int), vq, vi (8 : Int), vi (5 : Int), vq, vq, vi (11 : Int), vi (6 : Int), vi (3 : Int), vi (3 : Int), vi (14 : Int), vi (6 : Int), vi (2 : Int), vi (1 : Int), vi (14 : Int), vi (2 : Int), vi (1 : Int), vi (6 : Int), vi (8 : Int), vi (30 : Int), vq, vq, vi (11 : Int), vi (6 : Int), vi (3 : Int), vi (3 : Int), vi (14 : Int), vi (6 : Int), vi (2 : Int), vi (1 : Int), vi (14 : Int), vq, vi a0, vi (6 : Int), vi (17 : Int), vq, vq, vq], true), (dS [vi (10 : Int), vq, vq, vq, vi (1 : Int), vi (1 : Int), vi a2, vq, vi (15 : Int), vq, vq, vq, vi (13 : Int), vi (2 : Int), vq, vi a0, vi (9 : Int), vi (2 : Int), vi (27 : Int), vq, vi (13 : Int), vi (3 : Int), vi (2 : Int), vi (2 : Int), vi (7 : Int), vi (4 : Int), vi (1 : Int), vi (3 : Int), vi (9 : Int), vi (4 : Int), vi (9 : Int), vq, vi (8 : Int), vi (30 : Int), vq, vq, vi (6 : Int), vi (4 : Int), vi (1 : Int), vi (3 : Int), vi (9 : Int), vi (4 : Int), vi (19 : Int), vq, vi (13 : Int), vi (5 : Int), vi (2 : Int), vq, vi (9 : Int), vi (5 : Int), vi (15 : Int), vq, vi (3 : Int), vi (2 : Int), vi (5 : Int), vq, vi (8 : Int), vi (5 : Int), vq, vq, vi (11 : Int), vi (6 : Int), vi (3 : Int), vi (3 : Int), vi (14 : Int), vi (6 : Int), vi (2 : Int), vi (1 : Int), vi (14 : Int), vi (2 : Int), vq, vi (6 : Int), vi (8 : Int), vi (30 : Int), vq, vq, vi (13 : Int), vi (5 : Int), vi (2 : Int), vi (1 : Int), vi (9 : Int), vi (5 : Int), vi (23 : Int), vq, vi (3 : Int), vi (2 : Int), vi (5 : Int), vq, vi (8 : Int), vi (5 : Int), vq, vq, vi (11 : Int), vi (6 : Int), vi (3 : Int), vi (3 : Int), vi (14 : Int), vi (6 : Int), vi (2 : Int), vi (1 : Int), vi (14 : Int), vi (2 : Int), vi (1 : Int), vi (6 : Int), vi (8 : Int), vi (30 : Int), vq, vq, vi (11 : Int), vi (6 : Int), vi (3 : Int), vi (3 : Int), vi (14 : Int), vi (6 : Int), vi (2 : Int), vi (1 : Int), vi (14 : Int), vq, vi a0, vi (6 : Int), vi (17 : Int), vq, vq, vq], true), (dP (ZiL #[vi a0, vi a1] (a0) (a1)    7), true), (dP (ZjN #[vi a0, vi a1] (a0) (a1)    6), true), (dP (Zfg #[vi a0] (a0)    5), true), (dP (ZfI #[vi a0] (a0)    4), true), (dP (ZiI #[vi a0, vi a2] (a0) (a2)    3), true), (dP (ZjK #[vi a0, vi a2] (a0) (a2)    2), true), (dP (ZhA #[vi a0, vi a2] (a0) (a2)    1), true), (dP (Zie #[vi a0, vi a2] (a0) (a2)    0), true)]) (by kernel_rfl) (Zb (Zc (ZkW #[vs 6 0 7 7] (a0) (a0) (a1)   N c15 6 8 rfl (by decide) (by decide))) <| Zb (Zc (Za rfl (Za rfl (Za rfl (Za rfl (Za rfl (Za rfl (Za rfl (Za rfl (Za rfl (Za rfl (Za rfl (Za rfl (Za rfl (Za rfl (Za rfl (Za rfl (Za rfl (Za rfl (Za rfl (Za rfl (Za rfl (Za rfl (Za rfl (Za rfl (Za rfl (Za rfl (Za rfl (Za rfl rfl))))))))))))))))))))))))))))) <| Zb (Zc (ZfN #[vs 4 0 12 12] (a0)   N c14 4 8 rfl (by decide) (by decide))) <| Zb (Zc (Za rfl (Za rfl (Za rfl (Za rfl (Za rfl (Za rfl (Za rfl (Za rfl (Za rfl (Za rfl (Za rfl (Za rfl (Za rfl (Za rfl (Za rfl (Za rfl (Za rfl (Za rfl (Za rfl (Za rfl (Za rfl (Za rfl (Za rfl (Za rfl (Za rfl (Za rfl (Za rfl (Za rfl (Za rfl (Za rfl (Za rfl (Za rfl (Za rfl (Za rfl (Za rfl (Za rfl (Za rfl (Za rfl (Za rfl (Za rfl (Za rfl (Za rfl (Za rfl (Za rfl (Za rfl (Za rfl (Za rfl (Za rfl rfl))))))))))))))))))))))))))))))))))))))))))))))))) <| Zb (Zc (ZkS #[vs 2 0 21 21] (a2) (a0)   N c13 2 8 rfl (by decide) (by decide))) <| Zb (Zc (Za rfl (Za rfl (Za rfl (Za rfl (Za rfl (Za rfl (Za rfl (Za rfl (Za rfl (Za rfl (Za rfl (Za rfl (Za rfl (Za rfl (Za rfl (Za rfl (Za rfl (Za rfl (Za rfl (Za rfl (Za rfl (Za rfl (Za rfl (Za rfl (Za rfl (Za rfl (Za rfl (Za rfl (Za rfl (Za rfl (Za rfl (Za rfl (Za rfl (Za rfl (Za rfl (Za rfl (Za rfl (Za rfl (Za rfl (Za rfl (Za rfl (Za rfl (Za rfl (Za rfl (Za rfl (Za rfl (Za rfl (Za rfl (Za rfl (Za rfl (Za rfl (Za rfl (Za rfl (Za rfl (Za rfl (Za rfl (Za rfl (Za rfl (Za rfl (Za rfl (Za rfl (Za rfl (Za rfl (Za rfl (Za rfl (Za rfl (Za rfl (Za rfl (Za rfl (Za rfl (Za rfl (Za rfl (Za rfl (Za rfl (Za rfl (Za rfl (Za rfl (Za rfl (Za rfl (Za rfl (Za rfl (Za rfl (Za rfl (Za rfl rfl))))))))))))))))))))))))))))))))))))))))))))))))))))))))))))))))))))))))))))))))))))) <| Zb (Zc (ZmF #[vs 0 0 31 31] (a2) (a0) (a0)   N c12 0 8 rfl (by decide) (by decide))) <| Zb (Zc (Za rfl (Za rfl (Za rfl (Za rfl (Za rfl (Za rfl (Za rfl (Za rfl (Za rfl (Za rfl (Za rfl (Za rfl (Za rfl (Za rfl (Za rfl (Za rfl (Za rfl (Za rfl (Za rfl (Za rfl (Za rfl (Za rfl (Za rfl (Za rfl (Za rfl (Za rfl (Za rfl (Za rfl (Za rfl (Za rfl (Za rfl (Za rfl (Za rfl (Za rfl (Za rfl (Za rfl (Za rfl (Za rfl (Za rfl (Za rfl (Za rfl (Za rfl (Za rfl (Za rfl (Za rfl (Za rfl (Za rfl (Za rfl (Za rfl (Za rfl (Za rfl (Za rfl (Za rfl (Za rfl (Za rfl (Za rfl (Za rfl (Za rfl (Za rfl (Za rfl (Za rfl (Za rfl (Za rfl (Za rfl (Za rfl (Za rfl (Za rfl (Za rfl (Za rfl (Za rfl (Za rfl (Za rfl (Za rfl (Za rfl (Za rfl (Za rfl (Za rfl (Za rfl (Za rfl (Za rfl (Za rfl (Za rfl (Za rfl (Za rfl (Za rfl (Za rfl (Za rfl (Za rfl (Za rfl (Za rfl (Za rfl (Za rfl (Za rfl (Za rfl (Za rfl (Za rfl (Za rfl (Za rfl (Za rfl (Za rfl (Za rfl (Za rfl (Za rfl (Za rfl (Za rfl (Za rfl (Za rfl (Za rfl (Za rfl (Za rfl (Za rfl (Za rfl (Za rfl (Za rfl (Za rfl (Za rfl (Za rfl (Za rfl (Za rfl (Za rfl (Za rfl (Za rfl (Za rfl (Za rfl rfl))))))))))))))))))))))))))))))))))))))))))))))))))))))))))))))))))))))))))))))))))))))))))))))))))))))))))))))))))))))))))))) <| Zb (Zc (Zlx #[vs 6 0 7 7, vs 7 0 7 7] (a0) (a0) (a1) (a0) (a0) (a1)   N c11 6 7 8 rfl (by decide) (by decide))) <| Zb (Zc (Za rfl (Za rfl (Za rfl (Za rfl (Za rfl (Za rfl (Za rfl (Za rfl (Za rfl (Za rfl (Za rfl (Za rfl (Za rfl (Za rfl (Za rfl (Za rfl (Za rfl (Za rfl (Za rfl (Za rfl (Za rfl (Za rfl (Za rfl (Za rfl (Za rfl (Za rfl (Za rfl (Za rfl rfl))))))))))))))))))))))))))))) <| Zb (Zc (Za rfl (Za rfl (Za rfl (Za rfl (Za rfl (Za rfl (Za rfl (Za rfl (Za rfl (Za rfl (Za rfl (Za rfl (Za rfl (Za rfl (Za rfl (Za rfl (Za rfl (Za rfl (Za rfl (Za rfl (Za rfl (Za rfl (Za rfl (Za rfl (Za rfl (Za rfl (Za rfl (Za rfl rfl))))))))))))))))))))))))))))) <| Zb (Zc (ZfV #[vs 4 0 12 12, vs 5 0 12 12] (a0) (a0)   N c10 4 5 8 rfl (by decide) (by decide))) <| Zb (Zc (Za rfl (Za rfl (Za rfl (Za rfl (Za rfl (Za rfl (Za rfl (Za rfl (Za rfl (Za rfl (Za rfl (Za rfl (Za rfl (Za rfl (Za rfl (Za rfl (Za rfl (Za rfl (Za rfl (Za rfl (Za rfl (Za rfl (Za rfl (Za rfl (Za rfl (Za rfl (Za rfl (Za rfl (Za rfl (Za rfl (Za rfl (Za rfl (Za rfl (Za rfl (Za rfl (Za rfl (Za rfl (Za rfl (Za rfl (Za rfl (Za rfl (Za rfl (Za rfl (Za rfl (Za rfl (Za rfl (Za rfl (Za rfl rfl))))))))))))))))))))))))))))))))))))))))))))))))) <| Zb (Zc (Za rfl (Za rfl (Za rfl (Za rfl (Za rfl (Za rfl (Za rfl (Za rfl (Za rfl (Za rfl (Za rfl (Za rfl (Za rfl (Za rfl (Za rfl (Za rfl (Za rfl (Za rfl (Za rfl (Za rfl (Za rfl (Za rfl (Za rfl (Za rfl (Za rfl (Za rfl (Za rfl (Za rfl (Za rfl (Za rfl (Za rfl (Za rfl (Za rfl (Za rfl (Za rfl (Za rfl (Za rfl (Za rfl (Za rfl (Za rfl (Za rfl (Za rfl (Za rfl (Za rfl (Za rfl (Za rfl (Za rfl (Za rfl rfl))))))))))))))))))))))))))))))))))))))))))))))))) <| Zb (Zc (Zlt #[vs 2 0 21 21, vs 3 0 21 21] (a2) (a0) (a2) (a0)   N c9 2 3 8 rfl (by decide) (by decide))) <| Zb (Zc (Za rfl (Za rfl (Za rfl (Za rfl (Za rfl (Za rfl (Za rfl (Za rfl (Za rfl (Za rfl (Za rfl (Za rfl (Za rfl (Za rfl (Za rfl (Za rfl (Za rfl (Za rfl (Za rfl (Za rfl (Za rfl (Za rfl (Za rfl (Za rfl (Za rfl (Za rfl (Za rfl (Za rfl (Za rfl (Za rfl (Za rfl (Za rfl (Za rfl (Za rfl (Za rfl (Za rfl (Za rfl (Za rfl (Za rfl (Za rfl (Za rfl (Za rfl (Za rfl (Za rfl (Za rfl (Za rfl (Za rfl (Za rfl (Za rfl (Za rfl (Za rfl (Za rfl (Za rfl (Za rfl (Za rfl (Za rfl (Za rfl (Za rfl (Za rfl (Za rfl (Za rfl (Za rfl (Za rfl (Za rfl (Za rfl (Za rfl (Za rfl (Za rfl (Za rfl (Za rfl (Za rfl (Za rfl (Za rfl (Za rfl (Za rfl (Za rfl (Za rfl (Za rfl (Za rfl (Za rfl (Za rfl (Za rfl (Za rfl (Za rfl rfl))))))))))))))))))))))))))))))))))))))))))))))))))))))))))))))))))))))))))))))))))))) <| Zb (Zc (Za rfl (Za rfl (Za rfl (Za rfl (Za rfl (Za rfl (Za rfl (Za rfl (Za rfl (Za rfl (Za rfl (Za rfl (Za rfl (Za rfl (Za rfl (Za rfl (Za rfl (Za rfl (Za rfl (Za rfl (Za rfl (Za rfl (Za rfl (Za rfl (Za rfl (Za rfl (Za rfl (Za rfl (Za rfl (Za rfl (Za rfl (Za rfl (Za rfl (Za rfl (Za rfl (Za rfl (Za rfl (Za rfl (Za rfl (Za rfl (Za rfl (Za rfl (Za rfl (Za rfl (Za rfl (Za rfl (Za rfl (Za rfl (Za rfl (Za rfl (Za rfl (Za rfl (Za rfl (Za rfl (Za rfl (Za rfl (Za rfl (Za rfl (Za rfl (Za rfl (Za rfl (Za rfl (Za rfl (Za rfl (Za rfl (Za rfl (Za rfl (Za rfl (Za rfl (Za rfl (Za rfl (Za rfl (Za rfl (Za rfl (Za rfl (Za rfl (Za rfl (Za rfl (Za rfl (Za rfl (Za rfl (Za rfl (Za rfl (Za rfl rfl))))))))))))))))))))))))))))))))))))))))))))))))))))))))))))))))))))))))))))))))))))) <| Zb (Zc (ZnM #[vs 0 0 31 31, vs 1 0 31 31] (a2) (a0) (a0) (a2) (a0) (a0)   N c8 0 1 8 rfl (by decide) (by decide))) <| Zb (Zc (Za rfl (Za rfl (Za rfl (Za rfl (Za rfl (Za rfl (Za rfl (Za rfl (Za rfl (Za rfl (Za rfl (Za rfl (Za rfl (Za rfl (Za rfl (Za rfl (Za rfl (Za rfl (Za rfl (Za rfl (Za rfl (Za rfl (Za rfl (Za rfl (Za rfl (Za rfl (Za rfl (Za rfl (Za rfl (Za rfl (Za rfl (Za rfl (Za rfl (Za rfl (Za rfl (Za rfl (Za rfl (Za rfl (Za rfl (Za rfl (Za rfl (Za rfl (Za rfl (Za rfl (Za rfl (Za rfl (Za rfl (Za rfl (Za rfl (Za rfl (Za rfl (Za rfl (Za rfl (Za rfl (Za rfl (Za rfl (Za rfl (Za rfl (Za rfl (Za rfl (Za rfl (Za rfl (Za rfl (Za rfl (Za rfl (Za rfl (Za rfl (Za rfl (Za rfl (Za rfl (Za rfl (Za rfl (Za rfl (Za rfl (Za rfl (Za rfl (Za rfl (Za rfl (Za rfl (Za rfl (Za rfl (Za rfl (Za rfl (Za rfl (Za rfl (Za rfl (Za rfl (Za rfl (Za rfl (Za rfl (Za rfl (Za rfl (Za rfl (Za rfl (Za rfl (Za rfl (Za rfl (Za rfl (Za rfl (Za rfl (Za rfl (Za rfl (Za rfl (Za rfl (Za rfl (Za rfl (Za rfl (Za rfl (Za rfl (Za rfl (Za rfl (Za rfl (Za rfl (Za rfl (Za rfl (Za rfl (Za rfl (Za rfl (Za rfl (Za rfl (Za rfl (Za rfl (Za rfl (Za rfl rfl))))))))))))))))))))))))))))))))))))))))))))))))))))))))))))))))))))))))))))))))))))))))))))))))))))))))))))))))))))))))))))) <| Zb (Zc (Za rfl (Za rfl (Za rfl (Za rfl (Za rfl (Za rfl (Za rfl (Za rfl (Za rfl (Za rfl (Za rfl (Za rfl (Za rfl (Za rfl (Za rfl (Za rfl (Za rfl (Za rfl (Za rfl (Za rfl (Za rfl (Za rfl (Za rfl (Za rfl (Za rfl (Za rfl (Za rfl (Za rfl (Za rfl (Za rfl (Za rfl (Za rfl (Za rfl (Za rfl (Za rfl (Za rfl (Za rfl (Za rfl (Za rfl (Za rfl (Za rfl (Za rfl (Za rfl (Za rfl (Za rfl (Za rfl (Za rfl (Za rfl (Za rfl (Za rfl (Za rfl (Za rfl (Za rfl (Za rfl (Za rfl (Za rfl (Za rfl (Za rfl (Za rfl (Za rfl (Za rfl (Za rfl (Za rfl (Za rfl (Za rfl (Za rfl (Za rfl (Za rfl (Za rfl (Za rfl (Za rfl (Za rfl (Za rfl (Za rfl (Za rfl (Za rfl (Za rfl (Za rfl (Za rfl (Za rfl (Za rfl (Za rfl (Za rfl (Za rfl (Za rfl (Za rfl (Za rfl (Za rfl (Za rfl (Za rfl (Za rfl (Za rfl (Za rfl (Za rfl (Za rfl (Za rfl (Za rfl (Za rfl (Za rfl (Za rfl (Za rfl (Za rfl (Za rfl (Za rfl (Za rfl (Za rfl (Za rfl (Za rfl (Za rfl (Za rfl (Za rfl (Za rfl (Za rfl (Za rfl (Za rfl (Za rfl (Za rfl (Za rfl (Za rfl (Za rfl (Za rfl (Za rfl (Za rfl (Za rfl rfl))))))))))))))))))))))))))))))))))))))))))))))))))))))))))))))))))))))))))))))))))))))))))))))))))))))))))))))))))))))))))))) <| Zb (Zc (ZnJ #[vi a0, vi a1] (a0) (a1)   N c7  7 rfl (by decide) (by decide))) <| Zb (Zc (ZpJ #[vi a0, vi a1] (a0) (a1)   N c6  6 rfl (by decide) (by decide))) <| Zb (Zc (Zg1 #[vi a0] (a0)   N c5  5 rfl (by decide) (by decide))) <| Zb (Zc (ZgZ #[vi a0] (a0)   N c4  4 rfl (by decide) (by decide))) <| Zb (Zc (ZnD #[vi a0, vi a2] (a0) (a2)   N c3  3 rfl (by decide) (by decide))) <| Zb (Zc (ZpE #[vi a0, vi a2] (a0) (a2)   N c2  2 rfl (by decide) (by decide))) <| Zb (Zc (Zlo #[vi a0, vi a2] (a0) (a2)   N c1  1 rfl (by decide) (by decide))) <| Zb (Zc (Zmg #[vi a0, vi a2] (a0) (a2)   N c0  0 rfl (by decide) (by decide))) Zf) rfl (by decide) (by rfl) rr trivial (Zg _ rfl)
                | r1 =>
                 exact ZR
               | r1 =>
                exact ZR
              | r1 =>
               exact ZR
             | r1 =>
              exact ZR
        | r1 =>
         exact ZR
       | r1 =>
        exact ZR
       | r2 =>
        refine Zd (fun z7 c7 => ?_)
        cases z7 with
        | r0 =>
         exact ZR
        | r1 =>
         refine Zd (fun z8 c8 => ?_)
         cases z8 with
         | r0 =>
          exact ZR
         | r1 =>
          refine Zd (fun z9 c9 => ?_)
          cases z9 with
          | r0 =>
           exact ZR
          | r1 =>
           refine Zd (fun z10 c10 => ?_)
           cases z10 with
           | r0 =>
            exact ZR
           | r1 =>
            refine Zd (fun z11 c11 => ?_)
            cases z11 with
            | r0 =>
             refine Zd (fun z12 c12 => ?_)
             cases z12 with
             | r0 =>
              refine Zd (fun z13 c13 => ?_)
              cases z13 with
              | r0 =>
               refine Zd (fun z14 c14 => ?_)
               cases z14 with
               | r0 =>
                exact Zh Zi (r := (.r0 : ZQ)) (fu := 4000) (orc := (Zl [] [] [] [] [(0, (Zmf (a0) (a2)    0)), (1, (Zln (a0) (a2)    1)), (2, (ZpD (a0) (a2)    2)), (3, (ZnC (a0) (a2)    3)), (4, (ZgY (a0)    4)), (5, (Zg0 (a0)    5)), (6, (ZjO (a0) (a1)    6)), (7, (ZiM (a0) (a1)    6)), (8, (ZnL (a2) (a0) (a0) (a2) (a0) (a0)   0 1 6)), (9, (Zls (a2) (a0) (a2) (a0)   2 3 6)), (10, (ZfU (a0) (a0)   4 5 6)), (11, (ZaQ     6)), (12, (ZmE (a2) (a0) (a0)   0 6)), (13, (ZkR (a2) (a0)   2 6)), (14, (ZfM (a0)   4 6))])) (live := []) (u := vT) (bl := []) (ob := [(dP (Zej #[vs 4 0 12 12] (a0)   4 6), true), (dS [vi (10 : Int), vq, vq, vq, vi (15 : Int), vq, vq, vq, vi (13 : Int), vi (2 : Int), vq, vi a0, vi (9 : Int), vi (2 : Int), vi (8 : Int), vq, vi (13 : Int), vi (3 : Int), vi (2 : Int), vq, vi (9 : Int), vi (3 : Int), vi (8 : Int), vq, vi (3 : Int), vi (2 : Int), vi (3 : Int), vq, vi (8 : Int), vi (4 : Int), vq, vq, vi (17 : Int), vq, vq, vq, vi (9 : Int), vi (2 : Int), vi (12 : Int), vq, vi (13 : Int), vi (7 : Int), vi (2 : Int), vi (2 : Int), vi (19 : Int), vi (7 : Int), vq, vq], true), (dP (Zhm #[vs 2 0 21 21] (a2) (a0)   2 6), true), (dS [vi (10 : Int), vq, vq, vq, vi (1 : Int), vi (1 : Int), vi a2, vq, vi (1 : Int), vi (7 : Int), vq, vq, vi (15 : Int), vq, vq, vq, vi (13 : Int), vi (2 : Int), vq, vi a0, vi (9 : Int), vi (2 : Int), vi (15 : Int), vq, vi (13 : Int), vi (3 : Int), vi (2 : Int), vi (2 : Int), vi (7 : Int), vi (7 : Int), vi (1 : Int), vi (3 : Int), vi (9 : Int), vi (7 : Int), vi (10 : Int), vq, vi (8 : Int), vi (15 : Int), vq, vq, vi (6 : Int), vi (4 : Int), vi (1 : Int), vi (3 : Int), vi (13 : Int), vi (5 : Int), vi (2 : Int), vi (1 : Int), vi (9 : Int), vi (4 : Int), vi (17 : Int), vq, vi (13 : Int), vi (5 : Int), vi (2 : Int), vq, vi (8 : Int), vi (17 : Int), vq, vq, vi (8 : Int), vi (19 : Int), vq, vq, vi (8 : Int), vi (19 : Int), vq, vq, vi (3 : Int), vi (2 : Int), vi (5 : Int), vq, vi (8 : Int), vi (5 : Int), vq, vq, vi (17 : Int), vq, vq, vq, vi (19 : Int), vi (7 : Int), vq, vq], true), (dP (Zis #[vs 0 0 31 31] (a2) (a0) (a0)   0 6), true), (dS [vi (10 : Int), vq, vq, vq, vi (1 : Int), vi (1 : Int), vi a2, vq, vi (15 : Int), vq, vq, vq, vi (13 : Int), vi (2 : Int), vq, vi a0, vi (9 : Int), vi (2 : Int), vi (27 : Int), vq, vi (13 : Int), vi (3 : Int), vi (2 : Int), vi (2 : Int), vi (7 : Int), vi (4 : Int), vi (1 : Int), vi (3 : Int), vi (9 : Int), vi (4 : Int), vi (9 : Int), vq, vi (8 : Int), vi (30 : Int), vq, vq, vi (6 : Int), vi (4 : Int), vi (1 : Int), vi (3 : Int), vi (9 : Int), vi (4 : Int), vi (19 : Int), vq, vi (13 : Int), vi (5 : Int), vi (2 : Int), vq, vi (9 : Int), vi (5 : Int), vi (15 : Int), vq, vi (3 : Int), vi (2 : Int), vi (5 : Int), vq, vi (8 : Int), vi (5 : Int), vq, vq, vi (11 : Int), vi (6 : Int), vi (3 : Int), vi (3 : Int), vi (14 : Int), vi (6 : Int), vi (2 : Int), vi (1 : Int), vi (14 : Int), vi (2 : Int), vq, vi (6 : Int), vi (8 : Int), vi (30 : Int), vq, vq, vi (13 : Int), vi (5 : Int), vi (2 : Int), vi (1 : Int), vi (9 : Int), vi (5 : Int), vi (23 : Int), vq, vi (3 : Int), vi (2 : Int), vi (5 : Int), vq, vi (8 : Int), vi (5 : Int), vq, vq, vi (11 : Int), vi (6 : Int), vi (3 : Int), vi (3 : Int), vi (14 : Int), vi (6 : Int), vi (2 : Int), vi (1 : Int), vi (14 : Int), vi (2 : Int), vi (1 : Int), vi (6 : Int), vi (8 : Int), vi (30 : Int), vq, vq, vi (11 : Int), vi (6 : Int), vi (3 : Int), vi (3 : Int), vi (14 : Int), vi (6 : Int), vi (2 : Int), vi (1 : Int), vi (14 : Int), vq, vi a0, vi (6 : Int), vi (17 : Int), vq, vq, vq], true), (dP (Za7 #[vn, vn]     6), true), (dP (ZeO #[vs 4 0 12 12, vs 5 0 12 12] (a0) (a0)   4 5 6), true), (dS [vi (10 : Int), vq, vq, vq, vi (15 : Int), vq, vq, vq, vi (13 : Int), vi (2 : Int), vq, vi a0, vi (9 : Int), vi (2 : Int), vi (8 : Int), vq, vi (13 : Int), vi (3 : Int), vi (2 : Int), vq, vi (9 : Int), vi (3 : Int), vi (8 : Int), vq, vi (3 : Int), vi (2 : Int), vi (3 : Int), vq, vi (8 : Int), vi (4 : Int), vq, vq, vi (17 : Int), vq, vq, vq, vi (9 : Int), vi (2 : Int), vi (12 : Int), vq, vi (13 : Int), vi (7 : Int), vi (2 : Int), vi (2 : Int), vi (19 : Int), vi (7 : Int), vq, vq], true), (dS [vi (10 : Int), vq, vq, vq, vi (15 : Int), vq, vq, vq, vi (13 : Int), vi (2 : Int), vq, vi a0, vi (9 : Int), vi (2 : Int), vi (8 : Int), vq, vi (13 : Int), vi (3 : Int), vi (2 : Int), vq, vi (9 : Int), vi (3 : Int), vi (8 : Int), vq, vi (3 : Int), vi (2 : Int), vi (3 : Int), vq, vi (8 : Int), vi (4 : Int), vq, vq, vi (17 : Int), vq, vq, vq, vi (9 : Int), vi (2 : Int), vi (12 : Int), vq, vi (13 : Int), vi (7 : Int), vi (2 : Int), vi (2 : Int), vi (19 : Int), vi (7 : Int), vq, vq], true), (dP (ZhD #[vs 2 0 21 21, vs 3 0 21 21] (a2) (a0) (a2) (a0)   2 3 6), true), (dS [vi (10 : Int), vq, vq, vq, vi (1 : Int), vi (1 : Int), vi a2, vq, vi (1 : Int), vi (7 : Int), vq, vq, vi (15 : Int), vq, vq, vq, vi (13 : Int), vi (2 : Int), vq, vi a0, vi (9 : Int), vi (2 : Int), vi (15 : Int), vq, vi (13 : Int), vi (3 : Int), vi (2 : Int), vi (2 : Int), vi (7 : Int), vi (7 : Int), vi (1 : Int), vi (3 : Int), vi (9 : Int), vi (7 : Int), vi (10 : Int), vq, vi (8 : Int), vi (15 : Int), vq, vq, vi (6 : Int), vi (4 : Int), vi (1 : Int), vi (3 : Int), vi (13 : Int), vi (5 : Int), vi (2 : Int), vi (1 : Int), vi (9 : Int), vi (4 : Int), vi (17 : Int), vq, vi (13 : Int), vi (5 : Int), vi (2 : Int), vq, vi (8 : Int), vi (17 : Int), vq, vq, vi (8 : Int), vi (19 : Int), vq, vq, vi (8 : Int), vi (19 : Int), vq, vq, vi (3 : Int), vi (2 : Int), vi (5 : Int), vq, vi (8 : Int), vi (5 : Int), vq, vq, vi (17 : Int), vq, vq, vq, vi (19 : Int), vi (7 : Int), vq, vq], true), (dS [vi (10 : Int), vq, vq, vq, vi (1 : Int), vi (1 : Int), vi a2, vq, vi (1 : Int), vi (7 : Int), vq, vq, vi (15 : Int), vq, vq, vq, vi (13 : Int), vi (2 : Int), vq, vi a0, vi (9 : Int), vi (2 : Int), vi (15 : Int), vq, vi (13 : Int), vi (3 : Int), vi (2 : Int), vi (2 : Int), vi (7 : Int), vi (7 : Int), vi (1 : Int), vi (3 : Int), vi (9 : Int), vi (7 : Int), vi (10 : Int), vq, vi (8 : Int), vi (15 : Int), vq, vq, vi (6 : Int), vi (4 : Int), vi (1 : Int), vi (3 : Int), vi (13 : Int), vi (5 : Int), vi (2 : Int), vi (1 : Int), vi (9 : Int), vi (4 : Int), vi (17 : Int), vq, vi (13 : Int), vi (5 : Int), vi (2 : Int), vq, vi (8 : Int), vi (17 : Int), vq, vq, vi (8 : Int), vi (19 : Int), vq, vq, vi (8 : Int), vi (19 : Int), vq, vq, vi (3 : Int), vi (2 : Int), vi (5 : Int), vq, vi (8 : Int), vi (5 : Int), vq, vq, vi (17 : Int), vq, vq, vq, vi (19 : Int), vi (7 : Int), vq, vq], true), (dP (ZiO #[vs 0 0 31 31, vs 1 0 31 31] (a2) (a0) (a0) (a2) (a0) (a0)   0 1 6), true), (dS [vi (10 : Int), vq, vq, vq, vi (1 : Int), vi (1 : Int), vi a2, vq, vi (15 : Int), vq, vq, vq, vi (13 : Int), vi (2 : Int), vq, vi a0, vi (9 : Int), vi (2 : Int), vi (27 : Int), vq, vi (13 : Int), vi (3 : Int), vi (2 : Int), vi (2 : Int), vi (7 : Int), vi (4 : Int), vi (1 : Int), vi (3 : Int), vi (9 : Int), vi (4 : Int), vi (9 : Int), vq, vi (8 : Int), vi (30 : Int), vq, vq, vi (6 : Int), vi (4 : Int), vi (1 : Int), vi (3 : Int), vi (9 : Int), vi (4 : Int), vi (19 : Int), vq, vi (13 : Int), vi (5 : Int), vi (2 : Int), vq, vi (9 : Int), vi (5 : Int), vi (15 : Int), vq, vi (3 : Int), vi (2 : Int), vi (5 : Int), vq, vi (8 : Int), vi (5 : Int), vq, vq, vi (11 : Int), vi (6 : Int), vi (3 : Int), vi (3 : Int), vi (14 : Int), vi (6 : Int), vi (2 : Int), vi (1 : Int), vi (14 : Int), vi (2 : Int), vq, vi (6 : Int), vi (8 : Int), vi (30 : Int), vq, vq, vi (13 : Int), vi (5 : Int), vi (2 : Int), vi (1 : Int), vi (9 : Int), vi (5 : Int), vi (23 : Int), vq, vi (3 : Int), vi (2 : Int), vi (5 : Int), vq, vi (8 : Int), vi (5 : Int), vq, vq, vi (11 : Int), vi (6 : Int), vi (3 : Int), vi (3 : Int), vi (14 : Int), vi (6 : Int), vi (2 : Int), vi (1 : Int), vi (14 : Int), vi (2 : Int), vi (1 : Int), vi (6 : Int), vi (8 : Int), vi (30 : Int), vq, vq, vi (11 : Int), vi (6 : Int), vi (3 : Int), vi (3 : Int), vi (14 : Int), vi (6 : Int), vi (2 : Int), vi (1 : Int), vi (14 : Int), vq, vi a0, vi (6 : Int), vi (17 : Int), vq, vq, vq], true), (dS [vi (10 : Int), vq, vq, vq, vi (1 : Int), vi (1 : Int), vi a2, vq, vi (15 : Int), vq, vq, vq, vi (13 : Int), vi (2 : Int), vq, vi a0, vi (9 : Int), vi (2 : Int), vi (27 : Int), vq, vi (13 : Int), vi (3 : Int), vi (2 : Int), vi (2 : Int), vi (7 : Int), vi (4 : Int), vi (1 : Int), vi (3 : Int), vi (9 : Int), vi (4 : Int), vi (9 : Int), vq, vi (8 : Int), vi (30 : Int), vq, vq, vi (6 : Int), vi (4 : Int), vi (1 : Int), vi (3 : Int), vi (9 : Int), vi (4 : Int), vi (19 : Int), vq, vi (13 : Int), vi (5 : Int), vi (2 : Int), vq, vi (9 : Int), vi (5 : Int), vi (15 : Int), vq, vi (3 : Int), vi (2 : Int), vi (5 : Int), vq, vi (8 : Int), vi (5 : Int), vq, vq, vi (11 : Int), vi (6 : Int), vi (3 : Int), vi (3 : Int), vi (14 : Int), vi (6 : Int), vi (2 : Int), vi (1 : Int), vi (14 : Int), vi (2 : Int), vq, vi (6 : Int), vi (8 : Int), vi (30 : Int), vq, vq, vi (13 : Int), vi (5 : Int), vi (2 : Int), vi (1 : Int), vi (9 : Int), vi (5 : Int), vi (23 : Int), vq, vi (3 : Int), vi (2 : Int), vi (5 : Int), vq, vi (8 : Int), vi (5 : Int), vq, vq, vi (11 : Int), vi (6 : Int), vi (3 : Int), vi (3 : Int), vi (14 : Int), vi (6 : Int), vi (2 : Int), vi (1 : Int), vi (14 : Int), vi (2 : Int), vi (1 : Int), vi (6 : Int), vi (8 : Int), vi (30 : Int), vq, vq, vi (11 : Int), vi (6 : Int), vi (3 : Int), vi (3 : Int), vi (14 : Int), vi (6 : Int), vi (2 : Int), vi (1 : Int), vi (14 : Int), vq, vi a0, vi (6 : Int), vi (17 : Int), vq, vq, vq], true), (dP (Zha #[vi a0, vi a1] (a0) (a1)    6), true), (dP (Zhu #[vi a0, vi a1] (a0) (a1)    6), true), (dP (Zfg #[vi a0] (a0)    5), true), (dP (ZfI #[vi a0] (a0)    4), true), (dP (ZiI #[vi a0, vi a2] (a0) (a2)    3), true), (dP (ZjK #[vi a0, vi a2] (a0) (a2)    2), true), (dP (ZhA #[vi a0, vi a2] (a0) (a2)    1), true), (dP (Zie #[vi a0, vi a2] (a0) (a2)    0), true)]) (by kernel_rfl) (Zb (Zc (ZfN #[vs 4 0 12 12] (a0)   N c14 4 6 rfl (by decide) (by decide))) <| Zb (Zc (Za rfl (Za rfl (Za rfl (Za rfl (Za rfl (Za rfl (Za rfl (Za rfl (Za rfl (Za rfl (Za rfl (Za rfl (Za rfl (Za rfl (Za rfl (Za rfl (Za rfl (Za rfl (Za rfl (Za rfl (Za rfl (Za rfl (Za rfl (Za rfl (Za rfl (Za rfl (Za rfl (Za rfl (Za rfl (Za rfl (Za rfl (Za rfl (Za rfl (Za rfl (Za rfl (Za rfl (Za rfl (Za rfl (Za rfl (Za rfl (Za rfl (Za rfl (Za rfl (Za rfl (Za rfl (Za rfl (Za rfl (Za rfl rfl))))))))))))))))))))))))))))))))))))))))))))))))) <| Zb (Zc (ZkS #[vs 2 0 21 21] (a2) (a0)   N c13 2 6 rfl (by decide) (by decide))) <| Zb (Zc (Za rfl (Za rfl (Za rfl (Za rfl (Za rfl (Za rfl (Za rfl (Za rfl (Za rfl (Za rfl (Za rfl (Za rfl (Za rfl (Za rfl (Za rfl (Za rfl (Za rfl (Za rfl (Za rfl (Za rfl (Za rfl (Za rfl (Za rfl (Za rfl (Za rfl (Za rfl (Za rfl (Za rfl (Za rfl (Za rfl (Za rfl (Za rfl (Za rfl (Za rfl (Za rfl (Za rfl (Za rfl (Za rfl (Za rfl (Za rfl (Za rfl (Za rfl (Za rfl (Za rfl (Za rfl (Za rfl (Za rfl (Za rfl (Za rfl (Za rfl (Za rfl (Za rfl (Za rfl (Za rfl (Za rfl (Za rfl (Za rfl (Za rfl (Za rfl (Za rfl (Za rfl (Za rfl (Za rfl (Za rfl (Za rfl (Za rfl (Za rfl (Za rfl (Za rfl (Za rfl (Za rfl (Za rfl (Za rfl (Za rfl (Za rfl (Za rfl (Za rfl (Za rfl (Za rfl (Za rfl (Za rfl (Za rfl (Za rfl (Za rfl rfl))))))))))))))))))))))))))))))))))))))))))))))))))))))))))))))))))))))))))))))))))))) <| Zb (Zc (ZmF #[vs 0 0 31 31] (a2) (a0) (a0)   N c12 0 6 rfl (by decide) (by decide))) <| Zb (Zc (Za rfl (Za rfl (Za rfl (Za rfl (Za rfl (Za rfl (Za rfl (Za rfl (Za rfl (Za rfl (Za rfl (Za rfl (Za rfl (Za rfl (Za rfl (Za rfl (Za rfl (Za rfl (Za rfl (Za rfl (Za rfl (Za rfl (Za rfl (Za rfl (Za rfl (Za rfl (Za rfl (Za rfl (Za rfl (Za rfl (Za rfl (Za rfl (Za rfl (Za rfl (Za rfl (Za rfl (Za rfl (Za rfl (Za rfl (Za rfl (Za rfl (Za rfl (Za rfl (Za rfl (Za rfl (Za rfl (Za rfl (Za rfl (Za rfl (Za rfl (Za rfl (Za rfl (Za rfl (Za rfl (Za rfl (Za rfl (Za rfl (Za rfl (Za rfl (Za rfl (Za rfl (Za rfl (Za rfl (Za rfl (Za rfl (Za rfl (Za rfl (Za rfl (Za rfl (Za rfl (Za rfl (Za rfl (Za rfl (Za rfl (Za rfl (Za rfl (Za rfl (Za rfl (Za rfl (Za rfl (Za rfl (Za rfl (Za rfl (Za rfl (Za rfl (Za rfl (Za rfl (Za rfl (Za rfl (Za rfl (Za rfl (Za rfl (Za rfl (Za rfl (Za rfl (Za rfl (Za rfl (Za rfl (Za rfl (Za rfl (Za rfl (Za rfl (Za rfl (Za rfl (Za rfl (Za rfl (Za rfl (Za rfl (Za rfl (Za rfl (Za rfl (Za rfl (Za rfl (Za rfl (Za rfl (Za rfl (Za rfl (Za rfl (Za rfl (Za rfl (Za rfl (Za rfl (Za rfl (Za rfl rfl))))))))))))))))))))))))))))))))))))))))))))))))))))))))))))))))))))))))))))))))))))))))))))))))))))))))))))))))))))))))))))) <| Zb (Zc (ZaR #[vn, vn]    N c11  6 rfl (by decide) (by decide))) <| Zb (Zc (ZfV #[vs 4 0 12 12, vs 5 0 12 12] (a0) (a0)   N c10 4 5 6 rfl (by decide) (by decide))) <| Zb (Zc (Za rfl (Za rfl (Za rfl (Za rfl (Za rfl (Za rfl (Za rfl (Za rfl (Za rfl (Za rfl (Za rfl (Za rfl (Za rfl (Za rfl (Za rfl (Za rfl (Za rfl (Za rfl (Za rfl (Za rfl (Za rfl (Za rfl (Za rfl (Za rfl (Za rfl (Za rfl (Za rfl (Za rfl (Za rfl (Za rfl (Za rfl (Za rfl (Za rfl (Za rfl (Za rfl (Za rfl (Za rfl (Za rfl (Za rfl (Za rfl (Za rfl (Za rfl (Za rfl (Za rfl (Za rfl (Za rfl (Za rfl (Za rfl rfl))))))))))))))))))))))))))))))))))))))))))))))))) <| Zb (Zc (Za rfl (Za rfl (Za rfl (Za rfl (Za rfl (Za rfl (Za rfl (Za rfl (Za rfl (Za rfl (Za rfl (Za rfl (Za rfl (Za rfl (Za rfl (Za rfl (Za rfl (Za rfl (Za rfl (Za rfl (Za rfl (Za rfl (Za rfl (Za rfl (Za rfl (Za rfl (Za rfl (Za rfl (Za rfl (Za rfl (Za rfl (Za rfl (Za rfl (Za rfl (Za rfl (Za rfl (Za rfl (Za rfl (Za rfl (Za rfl (Za rfl (Za rfl (Za rfl (Za rfl (Za rfl (Za rfl (Za rfl (Za rfl rfl))))))))))))))))))))))))))))))))))))))))))))))))) <| Zb (Zc (Zlt #[vs 2 0 21 21, vs 3 0 21 21] (a2) (a0) (a2) (a0)   N c9 2 3 6 rfl (by decide) (by decide))) <| Zb (Zc (Za rfl (Za rfl (Za rfl (Za rfl (Za rfl (Za rfl (Za rfl (Za rfl (Za rfl (Za rfl (Za rfl (Za rfl (Za rfl (Za rfl (Za rfl (Za rfl (Za rfl (Za rfl (Za rfl (Za rfl (Za rfl (Za rfl (Za rfl (Za rfl (Za rfl (Za rfl (Za rfl (Za rfl (Za rfl (Za rfl (Za rfl (Za rfl (Za rfl (Za rfl (Za rfl (Za rfl (Za rfl (Za rfl (Za rfl (Za rfl (Za rfl (Za rfl (Za rfl (Za rfl (Za rfl (Za rfl (Za rfl (Za rfl (Za rfl (Za rfl (Za rfl (Za rfl (Za rfl (Za rfl (Za rfl (Za rfl (Za rfl (Za rfl (Za rfl (Za rfl (Za rfl (Za rfl (Za rfl (Za rfl (Za rfl (Za rfl (Za rfl (Za rfl (Za rfl (Za rfl (Za rfl (Za rfl (Za rfl (Za rfl (Za rfl (Za rfl (Za rfl (Za rfl (Za rfl (Za rfl (Za rfl (Za rfl (Za rfl (Za rfl rfl))))))))))))))))))))))))))))))))))))))))))))))))))))))))))))))))))))))))))))))))))))) <| Zb (Zc (Za rfl (Za rfl (Za rfl (Za rfl (Za rfl (Za rfl (Za rfl (Za rfl (Za rfl (Za rfl (Za rfl (Za rfl (Za rfl (Za rfl (Za rfl (Za rfl (Za rfl (Za rfl (Za rfl (Za rfl (Za rfl (Za rfl (Za rfl (Za rfl (Za rfl (Za rfl (Za rfl (Za rfl (Za rfl (Za rfl (Za rfl (Za rfl (Za rfl (Za rfl (Za rfl (Za rfl (Za rfl (Za rfl (Za rfl (Za rfl (Za rfl (Za rfl (Za rfl (Za rfl (Za rfl (Za rfl (Za rfl (Za rfl (Za rfl (Za rfl (Za rfl (Za rfl (Za rfl (Za rfl (Za rfl (Za rfl (Za rfl (Za rfl (Za rfl (Za rfl (Za rfl (Za rfl (Za rfl (Za rfl (Za rfl (Za rfl (Za rfl (Za rfl (Za rfl (Za rfl (Za rfl (Za rfl (Za rfl (Za rfl (Za rfl (Za rfl (Za rfl (Za rfl (Za rfl (Za rfl (Za rfl (Za rfl (Za rfl (Za rfl rfl))))))))))))))))))))))))))))))))))))))))))))))))))))))))))))))))))))))))))))))))))))) <| Zb (Zc (ZnM #[vs 0 0 31 31, vs 1 0 31 31] (a2) (a0) (a0) (a2) (a0) (a0)   N c8 0 1 6 rfl (by decide) (by decide))) <| Zb (Zc (Za rfl (Za rfl (Za rfl (Za rfl (Za rfl (Za rfl (Za rfl (Za rfl (Za rfl (Za rfl (Za rfl (Za rfl (Za rfl (Za rfl (Za rfl (Za rfl (Za rfl (Za rfl (Za rfl (Za rfl (Za rfl (Za rfl (Za rfl (Za rfl (Za rfl (Za rfl (Za rfl (Za rfl (Za rfl (Za rfl (Za rfl (Za rfl (Za rfl (Za rfl (Za rfl (Za rfl (Za rfl (Za rfl (Za rfl (Za rfl (Za rfl (Za rfl (Za rfl (Za rfl (Za rfl (Za rfl (Za rfl (Za rfl (Za rfl (Za rfl (Za rfl (Za rfl (Za rfl (Za rfl (Za rfl (Za rfl (Za rfl (Za rfl (Za rfl (Za rfl (Za rfl (Za rfl (Za rfl (Za rfl (Za rfl (Za rfl (Za rfl (Za rfl (Za rfl (Za rfl (Za rfl (Za rfl (Za rfl (Za rfl (Za rfl (Za rfl (Za rfl (Za rfl (Za rfl (Za rfl (Za rfl (Za rfl (Za rfl (Za rfl (Za rfl (Za rfl (Za rfl (Za rfl (Za rfl (Za rfl (Za rfl (Za rfl (Za rfl (Za rfl (Za rfl (Za rfl (Za rfl (Za rfl (Za rfl (Za rfl (Za rfl (Za rfl (Za rfl (Za rfl (Za rfl (Za rfl (Za rfl (Za rfl (Za rfl (Za rfl (Za rfl (Za rfl (Za rfl (Za rfl (Za rfl (Za rfl (Za rfl (Za rfl (Za rfl (Za rfl (Za rfl (Za rfl (Za rfl (Za rfl rfl))))))))))))))))))))))))))))))))))))))))))))))))))))))))))))))))))))))))))))))))))))))))))))))))))))))))))))))))))))))))))))) <| Zb (Zc (Za rfl (Za rfl (Za rfl (Za rfl (Za rfl (Za rfl (Za rfl (Za rfl (Za rfl (Za rfl (Za rfl (Za rfl (Za rfl (Za rfl (Za rfl (Za rfl (Za rfl (Za rfl (Za rfl (Za rfl (Za rfl (Za rfl (Za rfl (Za rfl (Za rfl (Za rfl (Za rfl (Za rfl (Za rfl (Za rfl (Za rfl (Za rfl (Za rfl (Za rfl (Za rfl (Za rfl (Za rfl (Za rfl (Za rfl (Za rfl (Za rfl (Za rfl (Za rfl (Za rfl (Za rfl (Za rfl (Za rfl (Za rfl (Za rfl (Za rfl (Za rfl (Za rfl (Za rfl (Za rfl (Za rfl (Za rfl (Za rfl (Za rfl (Za rfl (Za rfl (Za rfl (Za rfl (Za rfl (Za rfl (Za rfl (Za rfl (Za rfl (Za rfl (Za rfl (Za rfl (Za rfl (Za rfl (Za rfl (Za rfl (Za rfl (Za rfl (Za rfl (Za rfl (Za rfl (Za rfl (Za rfl (Za rfl (Za rfl (Za rfl (Za rfl (Za rfl (Za rfl (Za rfl (Za rfl (Za rfl (Za rfl (Za rfl (Za rfl (Za rfl (Za rfl (Za rfl (Za rfl (Za rfl (Za rfl (Za rfl (Za rfl (Za rfl (Za rfl (Za rfl (Za rfl (Za rfl (Za rfl (Za rfl (Za rfl (Za rfl (Za rfl (Za rfl (Za rfl (Za rfl (Za rfl (Za rfl (Za rfl (Za rfl (Za rfl (Za rfl (Za rfl (Za rfl (Za rfl (Za rfl rfl))))))))))))))))))))))))))))))))))))))))))))))))))))))))))))))))))))))))))))))))))))))))))))))))))))))))))))))))))))))))))))) <| Zb (Zc (ZiN #[vi a0, vi a1] (a0) (a1)   N c7  6 rfl (by decide) (by decide))) <| Zb (Zc (ZjP #[vi a0, vi a1] (a0) (a1)   N c6  6 rfl (by decide) (by decide))) <| Zb (Zc (Zg1 #[vi a0] (a0)   N c5  5 rfl (by decide) (by decide))) <| Zb (Zc (ZgZ #[vi a0] (a0)   N c4  4 rfl (by decide) (by decide))) <| Zb (Zc (ZnD #[vi a0, vi a2] (a0) (a2)   N c3  3 rfl (by decide) (by decide))) <| Zb (Zc (ZpE #[vi a0, vi a2] (a0) (a2)   N c2  2 rfl (by decide) (by decide))) <| Zb (Zc (Zlo #[vi a0, vi a2] (a0) (a2)   N c1  1 rfl (by decide) (by decide))) <| Zb (Zc (Zmg #[vi a0, vi a2] (a0) (a2)   N c0  0 rfl (by decide) (by decide))) Zf) rfl (by decide) (by rfl) rr trivial (Zg _ rfl)
               | r1 =>
                exact ZR
              | r1 =>
               exact ZR
             | r1 =>
              exact ZR
      | r1 =>
       exact ZR
     | r1 =>
      exact ZR
     | r2 =>
      exact ZR
    | r1 =>
     exact ZR
   | r1 =>
    exact ZR
   | r2 =>
    exact ZR
  | r1 =>
   exact ZR
 | r1 =>
  exact ZR
 | r2 =>
  refine Zd (fun z1 c1 => ?_)
  cases z1 with
  | r0 =>
   exact ZR
  | r1 =>
   refine Zd (fun z2 c2 => ?_)
   cases z2 with
   | r0 =>
    exact ZR
   | r1 =>
    exact ZR
   | r2 =>
    refine Zd (fun z3 c3 => ?_)
    cases z3 with
    | r0 =>
     exact ZR
    | r1 =>
     refine Zd (fun z4 c4 => ?_)
     cases z4 with
     | r0 =>
      refine Zd (fun z5 c5 => ?_)
      cases z5 with
      | r0 =>
       refine Zd (fun z6 c6 => ?_)
       cases z6 with
       | r0 =>
        refine Zd (fun z7 c7 => ?_)
        cases z7 with
        | r0 =>
         refine Zd (fun z8 c8 => ?_)
         cases z8 with
         | r0 =>
          refine Zd (fun z9 c9 => ?_)
          cases z9 with
          | r0 =>
           refine Zd (fun z10 c10 => ?_)
           cases z10 with
           | r0 =>
            exact ZR
           | r1 =>
            refine Zd (fun z11 c11 => ?_)
            cases z11 with
            | r0 =>
             exact ZR
            | r1 =>
             refine Zd (fun z12 c12 => ?_)
             cases z12 with
             | r0 =>
              refine Zd (fun z13 c13 => ?_)
              cases z13 with
              | r0 =>
               exact Zh Zi (r := (.r0 : ZQ)) (fu := 4000) (orc := (Zl [] [] [] [] [(0, (Zif (a0) (a2)    0)), (1, (ZhB (a0) (a2)    0)), (2, (ZjL (a0) (a2)    0)), (3, (ZiJ (a0) (a2)    0)), (4, (ZgY (a0)    0)), (5, (Zg0 (a0)    1)), (6, (ZpI (a0) (a1)    2)), (7, (ZnI (a0) (a1)    3)), (8, (ZaQ     4)), (9, (ZaQ     4)), (10, (ZfU (a0) (a0)   0 1 4)), (11, (Zlw (a0) (a0) (a1) (a0) (a0) (a1)   2 3 4)), (12, (ZfM (a0)   0 4)), (13, (ZkV (a0) (a0) (a1)   2 4))])) (live := []) (u := vT) (bl := []) (ob := [(dP (Zhn #[vs 2 0 7 7] (a0) (a0) (a1)   2 4), true), (dS [vi (10 : Int), vq, vq, vq, vi (2 : Int), vi (3 : Int), vq, vq, vi (15 : Int), vq, vq, vq, vi (13 : Int), vi (2 : Int), vq, vi a0, vi (14 : Int), vq, vi a0, vi (3 : Int), vi (14 : Int), vq, vi a1, vi (2 : Int), vi (17 : Int), vq, vq, vq], true), (dP (Zej #[vs 0 0 12 12] (a0)   0 4), true), (dS [vi (10 : Int), vq, vq, vq, vi (15 : Int), vq, vq, vq, vi (13 : Int), vi (2 : Int), vq, vi a0, vi (9 : Int), vi (2 : Int), vi (8 : Int), vq, vi (13 : Int), vi (3 : Int), vi (2 : Int), vq, vi (9 : Int), vi (3 : Int), vi (8 : Int), vq, vi (3 : Int), vi (2 : Int), vi (3 : Int), vq, vi (8 : Int), vi (4 : Int), vq, vq, vi (17 : Int), vq, vq, vq, vi (9 : Int), vi (2 : Int), vi (12 : Int), vq, vi (13 : Int), vi (7 : Int), vi (2 : Int), vi (2 : Int), vi (19 : Int), vi (7 : Int), vq, vq], true), (dP (ZhE #[vs 2 0 7 7, vs 3 0 7 7] (a0) (a0) (a1) (a0) (a0) (a1)   2 3 4), true), (dS [vi (10 : Int), vq, vq, vq, vi (2 : Int), vi (3 : Int), vq, vq, vi (15 : Int), vq, vq, vq, vi (13 : Int), vi (2 : Int), vq, vi a0, vi (14 : Int), vq, vi a0, vi (3 : Int), vi (14 : Int), vq, vi a1, vi (2 : Int), vi (17 : Int), vq, vq, vq], true), (dS [vi (10 : Int), vq, vq, vq, vi (2 : Int), vi (3 : Int), vq, vq, vi (15 : Int), vq, vq, vq, vi (13 : Int), vi (2 : Int), vq, vi a0, vi (14 : Int), vq, vi a0, vi (3 : Int), vi (14 : Int), vq, vi a1, vi (2 : Int), vi (17 : Int), vq, vq, vq], true), (dP (ZeO #[vs 0 0 12 12, vs 1 0 12 12] (a0) (a0)   0 1 4), true), (dS [vi (10 : Int), vq, vq, vq, vi (15 : Int), vq, vq, vq, vi (13 : Int), vi (2 : Int), vq, vi a0, vi (9 : Int), vi (2 : Int), vi (8 : Int), vq, vi (13 : Int), vi (3 : Int), vi (2 : Int), vq, vi (9 : Int), vi (3 : Int), vi (8 : Int), vq, vi (3 : Int), vi (2 : Int), vi (3 : Int), vq, vi (8 : Int), vi (4 : Int), vq, vq, vi (17 : Int), vq, vq, vq, vi (9 : Int), vi (2 : Int), vi (12 : Int), vq, vi (13 : Int), vi (7 : Int), vi (2 : Int), vi (2 : Int), vi (19 : Int), vi (7 : Int), vq, vq], true), (dS [vi (10 : Int), vq, vq, vq, vi (15 : Int), vq, vq, vq, vi (13 : Int), vi (2 : Int), vq, vi a0, vi (9 : Int), vi (2 : Int), vi (8 : Int), vq, vi (13 : Int), vi (3 : Int), vi (2 : Int), vq, vi (9 : Int), vi (3 : Int), vi (8 : Int), vq, vi (3 : Int), vi (2 : Int), vi (3 : Int), vq, vi (8 : Int), vi (4 : Int), vq, vq, vi (17 : Int), vq, vq, vq, vi (9 : Int), vi (2 : Int), vi (12 : Int), vq, vi (13 : Int), vi (7 : Int), vi (2 : Int), vi (2 : Int), vi (19 : Int), vi (7 : Int), vq, vq], true), (dP (Za7 #[vn, vn]     4), true), (dP (Za7 #[vn, vn]     4), true), (dP (ZiL #[vi a0, vi a1] (a0) (a1)    3), true), (dP (ZjN #[vi a0, vi a1] (a0) (a1)    2), true), (dP (Zfg #[vi a0] (a0)    1), true), (dP (ZfI #[vi a0] (a0)    0), true), (dP (ZgX #[vi a0, vi a2] (a0) (a2)    0), true), (dP (Zht #[vi a0, vi a2] (a0) (a2)    0), true), (dP (ZfT #[vi a0, vi a2] (a0) (a2)    0), true), (dP (Zgz #[vi a0, vi a2] (a0) (a2)    0), true)]) (by kernel_rfl) (Zb (Zc (ZkW #[vs 2 0 7 7] (a0) (a0) (a1)   N c13 2 4 rfl (by decide) (by decide))) <| Zb (Zc (Za rfl (Za rfl (Za rfl (Za rfl (Za rfl (Za rfl (Za rfl (Za rfl (Za rfl (Za rfl (Za rfl (Za rfl (Za rfl (Za rfl (Za rfl (Za rfl (Za rfl (Za rfl (Za rfl (Za rfl (Za rfl (Za rfl (Za rfl (Za rfl (Za rfl (Za rfl (Za rfl (Za rfl rfl))))))))))))))))))))))))))))) <| Zb (Zc (ZfN #[vs 0 0 12 12] (a0)   N c12 0 4 rfl (by decide) (by decide))) <| Zb (Zc (Za rfl (Za rfl (Za rfl (Za rfl (Za rfl (Za rfl (Za rfl (Za rfl (Za rfl (Za rfl (Za rfl (Za rfl (Za rfl (Za rfl (Za rfl (Za rfl (Za rfl (Za rfl (Za rfl (Za rfl (Za rfl (Za rfl (Za rfl (Za rfl (Za rfl (Za rfl (Za rfl (Za rfl (Za rfl (Za rfl (Za rfl (Za rfl (Za rfl (Za rfl (Za rfl (Za rfl (Za rfl (Za rfl (Za rfl (Za rfl (Za rfl (Za rfl (Za rfl (Za rfl (Za rfl (Za rfl (Za rfl (Za rfl rfl))))))))))))))))))))))))))))))))))))))))))))))))) <| Zb (Zc (Zlx #[vs 2 0 7 7, vs 3 0 7 7] (a0) (a0) (a1) (a0) (a0) (a1)   N c11 2 3 4 rfl (by decide) (by decide))) <| Zb (Zc (Za rfl (Za rfl (Za rfl (Za rfl (Za rfl (Za rfl (Za rfl (Za rfl (Za rfl (Za rfl (Za rfl (Za rfl (Za rfl (Za rfl (Za rfl (Za rfl (Za rfl (Za rfl (Za rfl (Za rfl (Za rfl (Za rfl (Za rfl (Za rfl (Za rfl (Za rfl (Za rfl (Za rfl rfl))))))))))))))))))))))))))))) <| Zb (Zc (Za rfl (Za rfl (Za rfl (Za rfl (Za rfl (Za rfl (Za rfl (Za rfl (Za rfl (Za rfl (Za rfl (Za rfl (Za rfl (Za rfl (Za rfl (Za rfl (Za rfl (Za rfl (Za rfl (Za rfl (Za rfl (Za rfl (Za rfl (Za rfl (Za rfl (Za rfl (Za rfl (Za rfl rfl))))))))))))))))))))))))))))) <| Zb (Zc (ZfV #[vs 0 0 12 12, vs 1 0 12 12] (a0) (a0)   N c10 0 1 4 rfl (by decide) (by decide))) <| Zb (Zc (Za rfl (Za rfl (Za rfl (Za rfl (Za rfl (Za rfl (Za rfl (Za rfl (Za rfl (Za rfl (Za rfl (Za rfl (Za rfl (Za rfl (Za rfl (Za rfl (Za rfl (Za rfl (Za rfl (Za rfl (Za rfl (Za rfl (Za rfl (Za rfl (Za rfl (Za rfl (Za rfl (Za rfl (Za rfl (Za rfl (Za rfl (Za rfl (Za rfl (Za rfl (Za rfl (Za rfl (Za rfl (Za rfl (Za rfl (Za rfl (Za rfl (Za rfl (Za rfl (Za rfl (Za rfl (Za rfl (Za rfl (Za rfl rfl))))))))))))))))))))))))))))))))))))))))))))))))) <| Zb (Zc (Za rfl (Za rfl (Za rfl (Za rfl (Za rfl (Za rfl (Za rfl (Za rfl (Za rfl (Za rfl (Za rfl (Za rfl (Za rfl (Za rfl (Za rfl (Za rfl (Za rfl (Za rfl (Za rfl (Za rfl (Za rfl (Za rfl (Za rfl (Za rfl (Za rfl (Za rfl (Za rfl (Za rfl (Za rfl (Za rfl (Za rfl (Za rfl (Za rfl (Za rfl (Za rfl (Za rfl (Za rfl (Za rfl (Za rfl (Za rfl (Za rfl (Za rfl (Za rfl (Za rfl (Za rfl (Za rfl (Za rfl (Za rfl rfl))))))))))))))))))))))))))))))))))))))))))))))))) <| Zb (Zc (ZaR #[vn, vn]    N c9  4 rfl (by decide) (by decide))) <| Zb (Zc (ZaR #[vn, vn]    N c8  4 rfl (by decide) (by decide))) <| Zb (Zc (ZnJ #[vi a0, vi a1] (a0) (a1)   N c7  3 rfl (by decide) (by decide))) <| Zb (Zc (ZpJ #[vi a0, vi a1] (a0) (a1)   N c6  2 rfl (by decide) (by decide))) <| Zb (Zc (Zg1 #[vi a0] (a0)   N c5  1 rfl (by decide) (by decide))) <| Zb (Zc (ZgZ #[vi a0] (a0)   N c4  0 rfl (by decide) (by decide))) <| Zb (Zc (ZiK #[vi a0, vi a2] (a0) (a2)   N c3  0 rfl (by decide) (by decide))) <| Zb (Zc (ZjM #[vi a0, vi a2] (a0) (a2)   N c2  0 rfl (by decide) (by decide))) <| Zb (Zc (ZhC #[vi a0, vi a2] (a0) (a2)   N c1  0 rfl (by decide) (by decide))) <| Zb (Zc (Zig #[vi a0, vi a2] (a0) (a2)   N c0  0 rfl (by decide) (by decide))) Zf) rfl (by decide) (by rfl) rr trivial (Zg _ rfl)
              | r1 =>
               exact ZR
             | r1 =>
              exact ZR
        | r1 =>
         exact ZR
       | r1 =>
        exact ZR
       | r2 =>
        refine Zd (fun z7 c7 => ?_)
        cases z7 with
        | r0 =>
         exact ZR
        | r1 =>
         refine Zd (fun z8 c8 => ?_)
         cases z8 with
         | r0 =>
          refine Zd (fun z9 c9 => ?_)
          cases z9 with
          | r0 =>
           refine Zd (fun z10 c10 => ?_)
           cases z10 with
           | r0 =>
            exact ZR
           | r1 =>
            refine Zd (fun z11 c11 => ?_)
            cases z11 with
            | r0 =>
             refine Zd (fun z12 c12 => ?_)
             cases z12 with
             | r0 =>
              exact Zh Zi (r := (.r0 : ZQ)) (fu := 4000) (orc := (Zl [] [] [] [] [(0, (Zif (a0) (a2)    0)), (1, (ZhB (a0) (a2)    0)), (2, (ZjL (a0) (a2)    0)), (3, (ZiJ (a0) (a2)    0)), (4, (ZgY (a0)    0)), (5, (Zg0 (a0)    1)), (6, (ZjO (a0) (a1)    2)), (7, (ZiM (a0) (a1)    2)), (8, (ZaQ     2)), (9, (ZaQ     2)), (10, (ZfU (a0) (a0)   0 1 2)), (11, (ZaQ     2)), (12, (ZfM (a0)   0 2))])) (live := []) (u := vT) (bl := []) (ob := [(dP (Zej #[vs 0 0 12 12] (a0)   0 2), true), (dS [vi (10 : Int), vq, vq, vq, vi (15 : Int), vq, vq, vq, vi (13 : Int), vi (2 : Int), vq, vi a0, vi (9 : Int), vi (2 : Int), vi (8 : Int), vq, vi (13 : Int), vi (3 : Int), vi (2 : Int), vq, vi (9 : Int), vi (3 : Int), vi (8 : Int), vq, vi (3 : Int), vi (2 : Int), vi (3 : Int), vq, vi (8 : Int), vi (4 : Int), vq, vq, vi (17 : Int), vq, vq, vq, vi (9 : Int), vi (2 : Int), vi (12 : Int), vq, vi (13 : Int), vi (7 : Int), vi (2 : Int), vi (2 : Int), vi (19 : Int), vi (7 : Int), vq, vq], true), (dP (Za7 #[vn, vn]     2), true), (dP (ZeO #[vs 0 0 12 12, vs 1 0 12 12] (a0) (a0)   0 1 2), true), (dS [vi (10 : Int), vq, vq, vq, vi (15 : Int), vq, vq, vq, vi (13 : Int), vi (2 : Int), vq, vi a0, vi (9 : Int), vi (2 : Int), vi (8 : Int), vq, vi (13 : Int), vi (3 : Int), vi (2 : Int), vq, vi (9 : Int), vi (3 : Int), vi (8 : Int), vq, vi (3 : Int), vi (2 : Int), vi (3 : Int), vq, vi (8 : Int), vi (4 : Int), vq, vq, vi (17 : Int), vq, vq, vq, vi (9 : Int), vi (2 : Int), vi (12 : Int), vq, vi (13 : Int), vi (7 : Int), vi (2 : Int), vi (2 : Int), vi (19 : Int), vi (7 : Int), vq, vq], true), (dS [vi (10 : Int), vq, vq, vq, vi (15 : Int), vq, vq, vq, vi (13 : Int), vi (2 : Int), vq, vi a0, vi (9 : Int), vi (2 : Int), vi (8 : Int), vq, vi (13 : Int), vi (3 : Int), vi (2 : Int), vq, vi (9 : Int), vi (3 : Int), vi (8 : Int), vq, vi (3 : Int), vi (2 : Int), vi (3 : Int), vq, vi (8 : Int), vi (4 : Int), vq, vq, vi (17 : Int), vq, vq, vq, vi (9 : Int), vi (2 : Int), vi (12 : Int), vq, vi (13 : Int), vi (7 : Int), vi (2 : Int), vi (2 : Int), vi (19 : Int), vi (7 : Int), vq, vq], true), (dP (Za7 #[vn, vn]     2), true), (dP (Za7 #[vn, vn]     2), true), (dP (Zha #[vi a0, vi a1] (a0) (a1)    2), true), (dP (Zhu #[vi a0, vi a1] (a0) (a1)    2), true), (dP (Zfg #[vi a0] (a0)    1), true), (dP (ZfI #[vi a0] (a0)    0), true), (dP (ZgX #[vi a0, vi a2] (a0) (a2)    0), true), (dP (Zht #[vi a0, vi a2] (a0) (a2)    0), true), (dP (ZfT #[vi a0, vi a2] (a0) (a2)    0), true), (dP (Zgz #[vi a0, vi a2] (a0) (a2)    0), true)]) (by kernel_rfl) (Zb (Zc (ZfN #[vs 0 0 12 12] (a0)   N c12 0 2 rfl (by decide) (by decide))) <| Zb (Zc (Za rfl (Za rfl (Za rfl (Za rfl (Za rfl (Za rfl (Za rfl (Za rfl (Za rfl (Za rfl (Za rfl (Za rfl (Za rfl (Za rfl (Za rfl (Za rfl (Za rfl (Za rfl (Za rfl (Za rfl (Za rfl (Za rfl (Za rfl (Za rfl (Za rfl (Za rfl (Za rfl (Za rfl (Za rfl (Za rfl (Za rfl (Za rfl (Za rfl (Za rfl (Za rfl (Za rfl (Za rfl (Za rfl (Za rfl (Za rfl (Za rfl (Za rfl (Za rfl (Za rfl (Za rfl (Za rfl (Za rfl (Za rfl rfl))))))))))))))))))))))))))))))))))))))))))))))))) <| Zb (Zc (ZaR #[vn, vn]    N c11  2 rfl (by decide) (by decide))) <| Zb (Zc (ZfV #[vs 0 0 12 12, vs 1 0 12 12] (a0) (a0)   N c10 0 1 2 rfl (by decide) (by decide))) <| Zb (Zc (Za rfl (Za rfl (Za rfl (Za rfl (Za rfl (Za rfl (Za rfl (Za rfl (Za rfl (Za rfl (Za rfl (Za rfl (Za rfl (Za rfl (Za rfl (Za rfl (Za rfl (Za rfl (Za rfl (Za rfl (Za rfl (Za rfl (Za rfl (Za rfl (Za rfl (Za rfl (Za rfl (Za rfl (Za rfl (Za rfl (Za rfl (Za rfl (Za rfl (Za rfl (Za rfl (Za rfl (Za rfl (Za rfl (Za rfl (Za rfl (Za rfl (Za rfl (Za rfl (Za rfl (Za rfl (Za rfl (Za rfl (Za rfl rfl))))))))))))))))))))))))))))))))))))))))))))))))) <| Zb (Zc (Za rfl (Za rfl (Za rfl (Za rfl (Za rfl (Za rfl (Za rfl (Za rfl (Za rfl (Za rfl (Za rfl (Za rfl (Za rfl (Za rfl (Za rfl (Za rfl (Za rfl (Za rfl (Za rfl (Za rfl (Za rfl (Za rfl (Za rfl (Za rfl (Za rfl (Za rfl (Za rfl (Za rfl (Za rfl (Za rfl (Za rfl (Za rfl (Za rfl (Za rfl (Za rfl (Za rfl (Za rfl (Za rfl (Za rfl (Za rfl (Za rfl (Za rfl (Za rfl (Za rfl (Za rfl (Za rfl (Za rfl (Za rfl rfl))))))))))))))))))))))))))))))))))))))))))))))))) <| Zb (Zc (ZaR #[vn, vn]    N c9  2 rfl (by decide) (by decide))) <| Zb (Zc (ZaR #[vn, vn]    N c8  2 rfl (by decide) (by decide))) <| Zb (Zc (ZiN #[vi a0, vi a1] (a0) (a1)   N c7  2 rfl (by decide) (by decide))) <| Zb (Zc (ZjP #[vi a0, vi a1] (a0) (a1)   N c6  2 rfl (by decide) (by decide))) <| Zb (Zc (Zg1 #[vi a0] (a0)   N c5  1 rfl (by decide) (by decide))) <| Zb (Zc (ZgZ #[vi a0] (a0)   N c4  0 rfl (by decide) (by decide))) <| Zb (Zc (ZiK #[vi a0, vi a2] (a0) (a2)   N c3  0 rfl (by decide) (by decide))) <| Zb (Zc (ZjM #[vi a0, vi a2] (a0) (a2)   N c2  0 rfl (by decide) (by decide))) <| Zb (Zc (ZhC #[vi a0, vi a2] (a0) (a2)   N c1  0 rfl (by decide) (by decide))) <| Zb (Zc (Zig #[vi a0, vi a2] (a0) (a2)   N c0  0 rfl (by decide) (by decide))) Zf) rfl (by decide) (by rfl) rr trivial (Zg _ rfl)
             | r1 =>
              exact ZR
      | r1 =>
       exact ZR
     | r1 =>
      exact ZR
     | r2 =>
      refine Zd (fun z5 c5 => ?_)
      cases z5 with
      | r0 =>
       exact ZR
      | r1 =>
       refine Zd (fun z6 c6 => ?_)
       cases z6 with
       | r0 =>
        exact ZR
       | r1 =>
        exact ZR
       | r2 =>
        refine Zd (fun z7 c7 => ?_)
        cases z7 with
        | r0 =>
         exact ZR
        | r1 =>
         refine Zd (fun z8 c8 => ?_)
         cases z8 with
         | r0 =>
          refine Zd (fun z9 c9 => ?_)
          cases z9 with
          | r0 =>
           refine Zd (fun z10 c10 => ?_)
           cases z10 with
           | r0 =>
            refine Zd (fun z11 c11 => ?_)
            cases z11 with
            | r0 =>
             exact Zh Zi (r := (.r0 : ZQ)) (fu := 4000) (orc := (Zl [] [] [] [] [(0, (Zif (a0) (a2)    0)), (1, (ZhB (a0) (a2)    0)), (2, (ZjL (a0) (a2)    0)), (3, (ZiJ (a0) (a2)    0)), (4, (Zvd (a0)    0)), (5, (ZtU (a0)    0)), (6, (ZjO (a0) (a1)    0)), (7, (ZiM (a0) (a1)    0)), (8, (ZaQ     0)), (9, (ZaQ     0)), (10, (ZaQ     0)), (11, (ZaQ     0))])) (live := []) (u := vT) (bl := []) (ob := [(dP (Za7 #[vn, vn]     0), true), (dP (Za7 #[vn, vn]     0), true), (dP (Za7 #[vn, vn]     0), true), (dP (Za7 #[vn, vn]     0), true), (dP (Zha #[vi a0, vi a1] (a0) (a1)    0), true), (dP (Zhu #[vi a0, vi a1] (a0) (a1)    0), true), (dP (Zmj #[vi a0] (a0)    0), true), (dP (ZnF #[vi a0] (a0)    0), true), (dP (ZgX #[vi a0, vi a2] (a0) (a2)    0), true), (dP (Zht #[vi a0, vi a2] (a0) (a2)    0), true), (dP (ZfT #[vi a0, vi a2] (a0) (a2)    0), true), (dP (Zgz #[vi a0, vi a2] (a0) (a2)    0), true)]) (by kernel_rfl) (Zb (Zc (ZaR #[vn, vn]    N c11  0 rfl (by decide) (by decide))) <| Zb (Zc (ZaR #[vn, vn]    N c10  0 rfl (by decide) (by decide))) <| Zb (Zc (ZaR #[vn, vn]    N c9  0 rfl (by decide) (by decide))) <| Zb (Zc (ZaR #[vn, vn]    N c8  0 rfl (by decide) (by decide))) <| Zb (Zc (ZiN #[vi a0, vi a1] (a0) (a1)   N c7  0 rfl (by decide) (by decide))) <| Zb (Zc (ZjP #[vi a0, vi a1] (a0) (a1)   N c6  0 rfl (by decide) (by decide))) <| Zb (Zc (ZtV #[vi a0] (a0)   N c5  0 rfl (by decide) (by decide))) <| Zb (Zc (Zve #[vi a0] (a0)   N c4  0 rfl (by decide) (by decide))) <| Zb (Zc (ZiK #[vi a0, vi a2] (a0) (a2)   N c3  0 rfl (by decide) (by decide))) <| Zb (Zc (ZjM #[vi a0, vi a2] (a0) (a2)   N c2  0 rfl (by decide) (by decide))) <| Zb (Zc (ZhC #[vi a0, vi a2] (a0) (a2)   N c1  0 rfl (by decide) (by decide))) <| Zb (Zc (Zig #[vi a0, vi a2] (a0) (a2)   N c0  0 rfl (by decide) (by decide))) Zf) rfl (by decide) (by rfl) rr trivial (Zg _ rfl)

theorem Zld (a0 a1 a2 : Int) (N : Nat) (r : ZQ) (h : ZcW a0 a1 a2 N = some r) : LSpec Tryz.prog 3 #[vi a0, vi a1, vi a2] [] (ZhP a0 a1 a2 r) (Zhv a0 a1 a2 r) :=
 (Zny a0 a1 a2 N) r h

end Ev
end Go.Proofs.YtgpekgedjmhmeaaGreat
/- Plain lemmas: machines step by step, lists by their places. -/
namespace Go.Proofs.YtgpekgedjmhmeaaGreat
open Go.RowKit
namespace Ev
section
variable {X R : Type} {step : X → Option (X ⊕ R)} {n : Nat} {x y : X} {r : R}
end
section
variable {α : Type}
end
theorem Zp {α : Type} {c : Prop} [Decidable c] {a b r : α} (h : c) (e : a = r) : (if c then a else b) = r := by rw [if_pos h]; exact e
theorem Zas {α : Type} {c : Prop} [Decidable c] {a b r : α} (h : ¬ c) (e : b = r) : (if c then a else b) = r := by rw [if_neg h]; exact e
theorem Zw {α β : Type} {o : Option α} {a : α} {k : α → Option β} {r : Option β} (h : o = some a) (e : k a = r) : o.bind k = r := by rw [h]; exact e
end Ev
end Go.Proofs.YtgpekgedjmhmeaaGreat
/- TreePrograms: the plain law is true. -/
namespace Go.Proofs.YtgpekgedjmhmeaaGreat
open Go.RowKit
namespace Ev
set_option linter.unusedVariables false
set_option maxRecDepth 100000
namespace Tg
variable {t u v : Int} {N : Nat}
def ok (k : Int) : Prop := -1099511627776 ≤ k ∧ k ≤ 1099511627776
def sl (k : Int) : Prop := 0 ≤ k ∧ k ≤ 7
theorem i2 {k : Int} (h : ok k) : Zbc k N = some .r0 := Zp h.1 <| Zp h.2 rfl
theorem i4 {k : Int} (h : sl k) : Zaf k N = some .r0 := Zp (by have := h.1; omega) <| Zp (by have := h.2; omega) rfl
theorem i22 {k : Int} (h : sl k) : ZbA k N = some .r0 := Zp (by have := h.1; omega) <| Zp (by have := h.2; omega) rfl
theorem i41 {k : Int} (h : sl k) : ZbD k N = some .r0 := Zp (by have := h.1; omega) <| Zp (by have := h.2; omega) rfl
theorem i42 {k : Int} (h : sl k) : ZbE k N = some .r0 := Zp (by have := h.1; omega) <| Zp (by have := h.2; omega) rfl
theorem r2 {k : Int} (h : ok k) : ZdA k N = some .r0 := Zp h.1 <| Zp h.2 rfl
theorem r4 {k : Int} (h : sl k) : Zcn k N = some .r0 := Zp (by have := h.1; omega) <| Zp (by have := h.2; omega) rfl
theorem r22 {k : Int} (h : sl k) : ZdX k N = some .r0 := Zp (by have := h.1; omega) <| Zp (by have := h.2; omega) rfl
theorem r41 {k : Int} (h : sl k) : ZdY k N = some .r0 := Zp (by have := h.1; omega) <| Zp (by have := h.2; omega) rfl
theorem r42 {k : Int} (h : sl k) : ZdZ k N = some .r0 := Zp (by have := h.1; omega) <| Zp (by have := h.2; omega) rfl
theorem Zzg (ht : sl t) (hv : ok v) : Zb4 t v N = some .r0 := by
 have x4t := i4 (N := N) ht
 have x22t := i22 (N := N) ht
 have x41t := i41 (N := N) ht
 have x42t := i42 (N := N) ht
 have x2v := i2 (N := N) hv
 unfold Zb4
 refine Zp ht.1 <| Zp ht.2 <| Zp hv.1 <| Zp hv.2 ?_
 repeat (first | exact rfl | (refine Zw (by first | exact x4t | exact x22t | exact x41t | exact x42t | exact x2v | exact rfl) ?_))
theorem Zzh (ht : sl t) (hv : ok v) : Zcc t v N = some .r0 := by
 have x4t := i4 (N := N) ht
 have x22t := i22 (N := N) ht
 have x41t := i41 (N := N) ht
 have x42t := i42 (N := N) ht
 have x2v := i2 (N := N) hv
 unfold Zcc
 refine Zp ht.1 <| Zp ht.2 <| Zp hv.1 <| Zp hv.2 ?_
 repeat (first | exact rfl | (refine Zw (by first | exact x4t | exact x22t | exact x41t | exact x42t | exact x2v | exact rfl) ?_))
theorem Zvg (ht : sl t) : Zb1 t N = some .r0 := by
 have x4t := i4 (N := N) ht
 have x22t := i22 (N := N) ht
 have x41t := i41 (N := N) ht
 have x42t := i42 (N := N) ht
 unfold Zb1
 refine Zp ht.1 <| Zp ht.2 ?_
 repeat (first | exact rfl | (refine Zw (by first | exact x4t | exact x22t | exact x41t | exact x42t | exact rfl) ?_))
theorem Zzi (ht : sl t) (hu : sl u) : Zb2 t u N = some .r0 := by
 have x4t := i4 (N := N) ht
 have x22t := i22 (N := N) ht
 have x41t := i41 (N := N) ht
 have x42t := i42 (N := N) ht
 have x4u := i4 (N := N) hu
 have x22u := i22 (N := N) hu
 have x41u := i41 (N := N) hu
 have x42u := i42 (N := N) hu
 unfold Zb2
 refine Zp ht.1 <| Zp ht.2 <| Zp hu.1 <| Zp hu.2 ?_
 repeat (first | exact rfl | (refine Zw (by first | exact x4t | exact x22t | exact x41t | exact x42t | exact x4u | exact x22u | exact x41u | exact x42u | exact rfl) ?_))
theorem chk1 (ht : sl t) (hv : ok v) : ZcV v t t N = some .r0 := by
 have x4t := r4 (N := N) ht
 have x22t := r22 (N := N) ht
 have x41t := r41 (N := N) ht
 have x42t := r42 (N := N) ht
 have x2v := r2 (N := N) hv
 unfold ZcV
 repeat (first | exact rfl | (refine Zw (by first | exact x4t | exact x22t | exact x41t | exact x42t | exact x2v | exact rfl) ?_))
theorem chk2 (ht : sl t) (hv : ok v) : Zce v t N = some .r0 := by
 have x4t := r4 (N := N) ht
 have x22t := r22 (N := N) ht
 have x41t := r41 (N := N) ht
 have x42t := r42 (N := N) ht
 have x2v := r2 (N := N) hv
 unfold Zce
 repeat (first | exact rfl | (refine Zw (by first | exact x4t | exact x22t | exact x41t | exact x42t | exact x2v | exact rfl) ?_))
theorem Zyz (ht : sl t) : Zbf t N = some .r0 := by
 have x4t := r4 (N := N) ht
 have x22t := r22 (N := N) ht
 have x41t := r41 (N := N) ht
 have x42t := r42 (N := N) ht
 unfold Zbf
 repeat (first | exact rfl | (refine Zw (by first | exact x4t | exact x22t | exact x41t | exact x42t | exact rfl) ?_))
theorem chk4 (ht : sl t) (hu : sl u) : Zcf t t u N = some .r0 := by
 have x4t := r4 (N := N) ht
 have x22t := r22 (N := N) ht
 have x41t := r41 (N := N) ht
 have x42t := r42 (N := N) ht
 have x4u := r4 (N := N) hu
 have x22u := r22 (N := N) hu
 have x41u := r41 (N := N) hu
 have x42u := r42 (N := N) hu
 unfold Zcf
 repeat (first | exact rfl | (refine Zw (by first | exact x4t | exact x22t | exact x41t | exact x42t | exact x4u | exact x22u | exact x41u | exact x42u | exact rfl) ?_))
theorem ZxG (ht : sl t) (hv : ok v) : Zbq t v N = some .r0 := Zp ht.1 <| Zp ht.2 <| Zp hv.1 <| Zp hv.2 rfl
theorem ZxH (ht : sl t) (hv : ok v) : Zcm t v N = some .r0 := Zp ht.1 <| Zp ht.2 <| Zp hv.1 <| Zp hv.2 rfl
theorem ZsM (ht : sl t) : Zbp t N = some .r0 := Zp ht.1 <| Zp ht.2 rfl
theorem ZxI (ht : sl t) (hu : sl u) : ZaU t u N = some .r0 := Zp ht.1 <| Zp ht.2 <| Zp hu.1 <| Zp hu.2 rfl
theorem ZwY (h : ¬ ((sl t) ∧ (ok v))) : Zb4 t v N = some .r2 := by
 unfold Zb4
 by_cases g0 : (0 : Int) ≤ t
 ·skip
  by_cases g1 : t ≤ (7 : Int)
  ·skip
   by_cases g2 : (-1099511627776 : Int) ≤ v
   ·skip
    by_cases g3 : v ≤ (1099511627776 : Int)
    ·exact (h ⟨⟨g0, g1⟩, ⟨g2, g3⟩⟩).elim
    ·exact Zp g0 <| Zp g1 <| Zp g2 <| Zas g3 rfl
   ·exact Zp g0 <| Zp g1 <| Zas g2 rfl
  ·exact Zp g0 <| Zas g1 rfl
 ·exact Zas g0 rfl
theorem Zv4 (h : ¬ ((sl t) ∧ (ok v))) : Zbq t v N = some .r1 := by
 unfold Zbq
 by_cases g0 : (0 : Int) ≤ t
 ·skip
  by_cases g1 : t ≤ (7 : Int)
  ·skip
   by_cases g2 : (-1099511627776 : Int) ≤ v
   ·skip
    by_cases g3 : v ≤ (1099511627776 : Int)
    ·exact (h ⟨⟨g0, g1⟩, ⟨g2, g3⟩⟩).elim
    ·exact Zp g0 <| Zp g1 <| Zp g2 <| Zas g3 rfl
   ·exact Zp g0 <| Zp g1 <| Zas g2 rfl
  ·exact Zp g0 <| Zas g1 rfl
 ·exact Zas g0 rfl
theorem ZwZ (h : ¬ ((sl t) ∧ (ok v))) : Zcc t v N = some .r2 := by
 unfold Zcc
 by_cases g0 : (0 : Int) ≤ t
 ·skip
  by_cases g1 : t ≤ (7 : Int)
  ·skip
   by_cases g2 : (-1099511627776 : Int) ≤ v
   ·skip
    by_cases g3 : v ≤ (1099511627776 : Int)
    ·exact (h ⟨⟨g0, g1⟩, ⟨g2, g3⟩⟩).elim
    ·exact Zp g0 <| Zp g1 <| Zp g2 <| Zas g3 rfl
   ·exact Zp g0 <| Zp g1 <| Zas g2 rfl
  ·exact Zp g0 <| Zas g1 rfl
 ·exact Zas g0 rfl
theorem Zv5 (h : ¬ ((sl t) ∧ (ok v))) : Zcm t v N = some .r1 := by
 unfold Zcm
 by_cases g0 : (0 : Int) ≤ t
 ·skip
  by_cases g1 : t ≤ (7 : Int)
  ·skip
   by_cases g2 : (-1099511627776 : Int) ≤ v
   ·skip
    by_cases g3 : v ≤ (1099511627776 : Int)
    ·exact (h ⟨⟨g0, g1⟩, ⟨g2, g3⟩⟩).elim
    ·exact Zp g0 <| Zp g1 <| Zp g2 <| Zas g3 rfl
   ·exact Zp g0 <| Zp g1 <| Zas g2 rfl
  ·exact Zp g0 <| Zas g1 rfl
 ·exact Zas g0 rfl
theorem Z0t (h : ¬ ((sl t))) : Zb1 t N = some .r2 := by
 unfold Zb1
 by_cases g0 : (0 : Int) ≤ t
 ·skip
  by_cases g1 : t ≤ (7 : Int)
  ·exact (h ⟨g0, g1⟩).elim
  ·exact Zp g0 <| Zas g1 rfl
 ·exact Zas g0 rfl
theorem Z0e (h : ¬ ((sl t))) : Zbp t N = some .r1 := by
 unfold Zbp
 by_cases g0 : (0 : Int) ≤ t
 ·skip
  by_cases g1 : t ≤ (7 : Int)
  ·exact (h ⟨g0, g1⟩).elim
  ·exact Zp g0 <| Zas g1 rfl
 ·exact Zas g0 rfl
theorem Zxa (h : ¬ ((sl t) ∧ (sl u))) : Zb2 t u N = some .r2 := by
 unfold Zb2
 by_cases g0 : (0 : Int) ≤ t
 ·skip
  by_cases g1 : t ≤ (7 : Int)
  ·skip
   by_cases g2 : (0 : Int) ≤ u
   ·skip
    by_cases g3 : u ≤ (7 : Int)
    ·exact (h ⟨⟨g0, g1⟩, ⟨g2, g3⟩⟩).elim
    ·exact Zp g0 <| Zp g1 <| Zp g2 <| Zas g3 rfl
   ·exact Zp g0 <| Zp g1 <| Zas g2 rfl
  ·exact Zp g0 <| Zas g1 rfl
 ·exact Zas g0 rfl
theorem Zv6 (h : ¬ ((sl t) ∧ (sl u))) : ZaU t u N = some .r1 := by
 unfold ZaU
 by_cases g0 : (0 : Int) ≤ t
 ·skip
  by_cases g1 : t ≤ (7 : Int)
  ·skip
   by_cases g2 : (0 : Int) ≤ u
   ·skip
    by_cases g3 : u ≤ (7 : Int)
    ·exact (h ⟨⟨g0, g1⟩, ⟨g2, g3⟩⟩).elim
    ·exact Zp g0 <| Zp g1 <| Zp g2 <| Zas g3 rfl
   ·exact Zp g0 <| Zp g1 <| Zas g2 rfl
  ·exact Zp g0 <| Zas g1 rfl
 ·exact Zas g0 rfl
theorem ZzO {a b c : Int} : ZeK a b c a b c N = some .r1 := Zas (by omega) <| Zas (by omega) <| Zas (by omega) rfl
theorem ZzP {a b : Int} : Zdb a b a b N = some .r1 := Zas (by omega) <| Zas (by omega) rfl
theorem Zwh {a : Int} : ZbW a a N = some .r1 := Zas (by omega) rfl
theorem ZzQ {a b c : Int} : Zdc a b c a b c N = some .r1 := Zas (by omega) <| Zas (by omega) <| Zas (by omega) rfl
theorem runs (t u v : Int) (N : Nat) : ZcW t u v N = some .r0 := by
 unfold ZcW
 by_cases ht : sl t
 ·by_cases hv : ok v
  ·by_cases hu : sl u
   ·exact Zw (Zzg ht hv) <| Zw (ZxG ht hv) <| Zw (Zzh ht hv) <| Zw (ZxH ht hv) <| Zw (Zvg ht) <| Zw (ZsM ht) <| Zw (Zzi ht hu) <| Zw (ZxI ht hu) <| Zw ZzO <| Zw ZzP <| Zw Zwh <| Zw ZzQ <| Zw (chk1 ht hv) <| Zw (chk2 ht hv) <| Zw (Zyz ht) <| Zw (chk4 ht hu) rfl
   ·have m : ¬ (sl t ∧ sl u) := fun h => hu h.2
    exact Zw (Zzg ht hv) <| Zw (ZxG ht hv) <| Zw (Zzh ht hv) <| Zw (ZxH ht hv) <| Zw (Zvg ht) <| Zw (ZsM ht) <| Zw (Zxa m) <| Zw (Zv6 m) <| Zw ZzO <| Zw ZzP <| Zw Zwh <| Zw (a := .r0) rfl <| Zw (chk1 ht hv) <| Zw (chk2 ht hv) <| Zw (Zyz ht) rfl
  ·have n : ¬ (sl t ∧ ok v) := fun h => hv h.2
   by_cases hu : sl u
   ·exact Zw (ZwY n) <| Zw (Zv4 n) <| Zw (ZwZ n) <| Zw (Zv5 n) <| Zw (Zvg ht) <| Zw (ZsM ht) <| Zw (Zzi ht hu) <| Zw (ZxI ht hu) <| Zw (a := .r0) rfl <| Zw (a := .r0) rfl <| Zw Zwh <| Zw ZzQ <| Zw (Zyz ht) <| Zw (chk4 ht hu) rfl
   ·have m : ¬ (sl t ∧ sl u) := fun h => hu h.2
    exact Zw (ZwY n) <| Zw (Zv4 n) <| Zw (ZwZ n) <| Zw (Zv5 n) <| Zw (Zvg ht) <| Zw (ZsM ht) <| Zw (Zxa m) <| Zw (Zv6 m) <| Zw (a := .r0) rfl <| Zw (a := .r0) rfl <| Zw Zwh <| Zw (a := .r0) rfl <| Zw (Zyz ht) rfl
 ·have n : ¬ (sl t ∧ ok v) := fun h => ht h.1
  have m : ¬ (sl t ∧ sl u) := fun h => ht h.1
  refine Zw (ZwY n) <| Zw (Zv4 n) <| Zw (ZwZ n) <| Zw (Zv5 n) <| Zw (Z0t ht) <| Zw (Z0e ht) <| Zw (Zxa m) <| Zw (Zv6 m) ?_
  repeat (first | exact rfl | (refine Zw (a := .r0) rfl ?_))
end Tg
end Ev
end Go.Proofs.YtgpekgedjmhmeaaGreat
/- A region that draws its order, whose first operations only read (and make memory in calls), and whose last ones, in a forced order among themselves, make and write new memory: but these may come up early. -/
namespace Go.Proofs.YtgpekgedjmhmeaaGreat
open Go.RowKit

section
variable {P : Program}

def Calm (P : Program) (W : World) (o : Oper) (a : Act) (v : Value) : Prop :=
 ∀ w, Below W.heap.size W w → o.quietAt P a (fun w' => Below w.heap.size w w') w v

def YieldsC (P : Program) (ops : Array Oper) (W : World) (o : Oper) (v : Value) (a : Act) : Prop :=
 (Region.wanted o (yielded ops a.tmps) = true ∧ Calm P W o a v) ∨ (Region.wanted o (yielded ops a.tmps) = false ∧ v = undef)
theorem ZvQ {a b c : World} (h : Below a.heap.size a b) (k : Below b.heap.size b c) : Below a.heap.size a c := h.trans (k.mono h.size)

def Closed (md : Region.Mode) (ops : Array Oper) (listed : Array Bool) : Prop :=
 ∀ j oj, ops[j]? = some oj → listed.getD j false = true → ∀ e ∈ oj.after, Region.binds md e = true → listed.getD e.on false = true
def Zxb (md : Region.Mode) (ops : Array Oper) : Nat → Nat → Nat → Bool
 | 0, _, _ => false
 | f + 1, t, i => Region.waitsFor md ops t i || (List.range ops.size).any fun k => Region.waitsFor md ops t k && Zxb md ops f k i
theorem Closed.waits {md : Region.Mode} {ops : Array Oper} {listed : Array Bool} (h : Closed md ops listed) : ∀ (f t i : Nat), listed.getD t false = true → Zxb md ops f t i = true → listed.getD i false = true
 | 0, _, _, _, hw => by cases hw
 | f + 1, t, i, ht, hw => by
  simp only [Zxb, Bool.or_eq_true, List.any_eq_true, Bool.and_eq_true] at hw
  rcases hw with hw | ⟨k, _, hw, hr⟩
  ·obtain ⟨o, ho, e, he, hb, rfl⟩ := Region.waitsFor_spec hw
   exact h t o ho ht e he hb
  ·obtain ⟨o, ho, e, he, hb, rfl⟩ := Region.waitsFor_spec hw
   exact h.waits f e.on i (h t o ho ht e he hb) hr

theorem YieldsC.wpOp {ops : Array Oper} {W : World} {i : Nat} {o : Oper} {v : Value} {a : Act} {w : World} (hi : ops[i]? = some o) (hy : YieldsC P ops W o v a) (hb : Below W.heap.size W w)
  {K : Act → World → Prop} {Q : Exit → Act → World → Prop} (h : ∀ w', Below w.heap.size w w' → K (a.put o.dst v) w') : wpOp P ops Q i K a w := by
 unfold Go.wpOp
 simp only [hi]
 rcases hy with ⟨hw, hv⟩ | ⟨hw, rfl⟩
 ·simp only [hw, if_true]
  exact .inl (Oper.wp_of_quiet (C := fun w' => Below w.heap.size w w') (K := fun a' => a' = a.put o.dst v) (Below.refl _ _) (fun a' w' hw' ha => by subst ha; exact h w' hw')
   ⟨v, fun w1 hw1 => by
    have h1 := hv w1 (ZvQ hb hw1)
    unfold Oper.quietAt at h1 ⊢
    generalize (execOp a.eval o).run P w1 = r at *
    cases r with
    | ok n w' =>
     cases n <;> simp only [Oper.quietUpon] at h1 ⊢
     case value u => exact h1
     case skip => exact h1
     case enter f args => exact ⟨h1.1, h1.2.mono fun e w2 ⟨he, hb2⟩ => ⟨he, ZvQ hw1 hb2⟩⟩
    | halt x w' => simp only [Oper.quietUpon] at h1, rfl⟩)
 ·simp only [hw, Bool.false_eq_true, if_false]
  exact h w (Below.refl _ _)

end
end Go.Proofs.YtgpekgedjmhmeaaGreat
/- The law TreePrograms, for every input. -/
namespace Go.Proofs.YtgpekgedjmhmeaaGreat
open Go.ChangeShapes Go.WideShapes Go.ChangeAt Go.RowKit
namespace Ev
namespace TreePrograms
set_option linter.unusedVariables false
theorem own : ownKnob Tryz.prog.godebug = none := by kernel_rfl
set_option maxRecDepth 100000 in
theorem lifted (os : Os) (started : os.Started) (H : Type) (enc : TypeId × Value → H) :
  ReturnsInHanded {} Tryz.checked os 3 .any (Rows.treeProgramsSpec.pre6 enc Tryz.prog Tryz.f3 Rows.treeProgramsRow.domain false) (Rows.treeProgramsSpec.post enc Tryz.prog Tryz.f3 false true false false) := by
 refine ZyL (C := Tryz.checked) own started (by kernel_rfl) Tryz.func3 rfl rfl Tryz.underlying4 ?_ (by kernel_rfl) (by kernel_rfl)
  (ChangeSpec.witness6 (enc := enc) (C := Tryz.checked) false ⟨#[], #[.int .i64 0, .int .i64 0, .int .i64 0], []⟩ 8 (by kernel_rfl) (by kernel_rfl) (by kernel_rfl) (by kernel_rfl)) ?_
 ·intro ds hlen
  have hlen : ds.length = 3 := hlen.trans (by kernel_rfl)
  match ds, hlen with
  | [_, _, _], _ => rfl
 intro W base args ds p hval hA hlt hsz
 rw [Tryz.params3] at hA hval
 obtain ⟨v0, vs0, d0, ds0, p0, q0, hargs, rfl, rfl, h0, r0⟩ := trodAll_cons hA
 obtain ⟨v1, vs1, d1, ds1, p1, q1, rfl, rfl, rfl, h1, r1⟩ := trodAll_cons r0
 obtain ⟨v2, vs2, d2, ds2, p2, q2, rfl, rfl, rfl, h2, r2⟩ := trodAll_cons r1
 obtain ⟨rfl, rfl, rfl⟩ := trodAll_nil r2
 obtain rfl : args = #[v0, v1, v2] := by cases args; simp_all
 obtain ⟨z0, rfl, w0⟩ := Zqo (k := .i64) (by kernel_rfl) (Zqp (by kernel_rfl) (hval 0 3 v0 rfl rfl))
 obtain ⟨z1, rfl, w1⟩ := Zqo (k := .i64) (by kernel_rfl) (Zqp (by kernel_rfl) (hval 1 3 v1 rfl rfl))
 obtain ⟨z2, rfl, w2⟩ := Zqo (k := .i64) (by kernel_rfl) (Zqp (by kernel_rfl) (hval 2 3 v2 rfl rfl))
 exact ZyO (Zld z0 z1 z2  100000 _ (Tg.runs z0 z1 z2 _)) [] rfl ZxF (ZtL (.atom rfl) (ZtL (.atom rfl) (ZtL (.atom rfl) Zx9))) rfl
theorem over : Rows.treeProgramsRow.holds Tryz.pinned (OpenSpec.ofChange Rows.treeProgramsSpec) :=
 OpenClaim.holds_of_wide 3 Tryz.f3 rfl rfl rfl rfl rfl rfl rfl ⟨rfl, rfl, rfl, rfl, rfl⟩ rfl rfl rfl rfl rfl (by kernel_rfl) Tryz.func3 ZyP
  (of_decide_eq_true (by kernel_rfl)) (by unfold Func.isWrapper; first | (rw [if_pos (by decide +kernel)]; kernel_rfl) | (rw [if_neg (by decide +kernel)]; exact ⟨rfl, rfl⟩))
  (fun os started H enc _ => lifted os started H enc)
theorem proved : Rows.TreeProgramsSaid := over
#print axioms proved
end TreePrograms
end Ev
end Go.Proofs.YtgpekgedjmhmeaaGreat
