/- Calls do what the plain functions say. -/
import Derived.Test.YtjfmadhcbgdakaaPbq1
namespace Go.Proofs.Ytjfmadhcbgdakaa
open Go.RowKit
namespace Ev
set_option linter.unusedVariables false
set_option maxRecDepth 100000
theorem Zp4 (a0 a1 a2 a3 : Int) (N : Nat) : Fx Try.prog ZiQ Try.f16 [] #[Value.agg #[vi a0, vi a1, vi a2, vi a3]] (ZlP a0 a1 a2 a3) (Zky a0 a1 a2 a3) (Zm a0 a1 a2 a3 N) := by
 unfold Zm
 refine ZdC (fun z0 c0 => ?_)
 cases z0 with
 | r0 y0_0 =>
  refine Zl (fun g1 => ?_) (fun g1 => ?_)
  ·
   exact Zk (r := (.r0 : Z1)) (fu := 4000) (orc := (Zh [(0, true)] [] [] [] [(0, (ZaF (a0) (a1) (a2) (a3)  y0_0  1))])) (live := []) (u := Value.tuple #[vn, vi (100 : Int)]) (bl := []) (ob := [((!y0_0), true), (dP (ZaA #[Value.agg #[vi a0, vi a1, vi a2, vi a3]] (a0) (a1) (a2) (a3)  y0_0  1), true)]) (by kernel_rfl) (Za (Zkp (by first | assumption | simp_all)) <| Za (Zg (ZaG #[Value.agg #[vi a0, vi a1, vi a2, vi a3]] (a0) (a1) (a2) (a3)  y0_0 N c0  1 rfl (by decide) (by decide))) Zb) rfl (by decide) (by rfl) rr trivial
  ·
   refine Zl (fun g2 => ?_) (fun g2 => ?_)
   ·
    exact Zk (r := (.r1 (([a0, ((IntKind.u64.wrap a1) % (256 : Int)), (((((((((IntKind.u64.wrap a2) / (256 : Int)) / (256 : Int)) / (256 : Int)) / (256 : Int)) / (256 : Int)) / (256 : Int)) / (256 : Int)) % (256 : Int)), ((((((((IntKind.u64.wrap a2) / (256 : Int)) / (256 : Int)) / (256 : Int)) / (256 : Int)) / (256 : Int)) / (256 : Int)) % (256 : Int)), (((((((IntKind.u64.wrap a2) / (256 : Int)) / (256 : Int)) / (256 : Int)) / (256 : Int)) / (256 : Int)) % (256 : Int)), ((((((IntKind.u64.wrap a2) / (256 : Int)) / (256 : Int)) / (256 : Int)) / (256 : Int)) % (256 : Int)), (((((IntKind.u64.wrap a2) / (256 : Int)) / (256 : Int)) / (256 : Int)) % (256 : Int)), ((((IntKind.u64.wrap a2) / (256 : Int)) / (256 : Int)) % (256 : Int)), (((IntKind.u64.wrap a2) / (256 : Int)) % (256 : Int)), ((IntKind.u64.wrap a2) % (256 : Int))] : List Int)) : Z1)) (fu := 4000) (orc := (Zh [(0, false), (1, true)] [(0, a0), (3, ((IntKind.u64.wrap a1) % (256 : Int))), (4, ((IntKind.u64.wrap a1) % (256 : Int))), (5, ((IntKind.u64.wrap a1) / (256 : Int))), (9, ((IntKind.u64.wrap a2) % (256 : Int))), (10, ((IntKind.u64.wrap a2) % (256 : Int))), (11, ((IntKind.u64.wrap a2) / (256 : Int))), (13, (((IntKind.u64.wrap a2) / (256 : Int)) % (256 : Int))), (14, (((IntKind.u64.wrap a2) / (256 : Int)) % (256 : Int))), (15, (((IntKind.u64.wrap a2) / (256 : Int)) / (256 : Int))), (17, ((((IntKind.u64.wrap a2) / (256 : Int)) / (256 : Int)) % (256 : Int))), (18, ((((IntKind.u64.wrap a2) / (256 : Int)) / (256 : Int)) % (256 : Int))), (19, ((((IntKind.u64.wrap a2) / (256 : Int)) / (256 : Int)) / (256 : Int))), (21, (((((IntKind.u64.wrap a2) / (256 : Int)) / (256 : Int)) / (256 : Int)) % (256 : Int))), (22, (((((IntKind.u64.wrap a2) / (256 : Int)) / (256 : Int)) / (256 : Int)) % (256 : Int))), (23, (((((IntKind.u64.wrap a2) / (256 : Int)) / (256 : Int)) / (256 : Int)) / (256 : Int))), (25, ((((((IntKind.u64.wrap a2) / (256 : Int)) / (256 : Int)) / (256 : Int)) / (256 : Int)) % (256 : Int))), (26, ((((((IntKind.u64.wrap a2) / (256 : Int)) / (256 : Int)) / (256 : Int)) / (256 : Int)) % (256 : Int))), (27, ((((((IntKind.u64.wrap a2) / (256 : Int)) / (256 : Int)) / (256 : Int)) / (256 : Int)) / (256 : Int))), (29, (((((((IntKind.u64.wrap a2) / (256 : Int)) / (256 : Int)) / (256 : Int)) / (256 : Int)) / (256 : Int)) % (256 : Int))), (30, (((((((IntKind.u64.wrap a2) / (256 : Int)) / (256 : Int)) / (256 : Int)) / (256 : Int)) / (256 : Int)) % (256 : Int))), (31, (((((((IntKind.u64.wrap a2) / (256 : Int)) / (256 : Int)) / (256 : Int)) / (256 : Int)) / (256 : Int)) / (256 : Int))), (33, ((((((((IntKind.u64.wrap a2) / (256 : Int)) / (256 : Int)) / (256 : Int)) / (256 : Int)) / (256 : Int)) / (256 : Int)) % (256 : Int))), (34, ((((((((IntKind.u64.wrap a2) / (256 : Int)) / (256 : Int)) / (256 : Int)) / (256 : Int)) / (256 : Int)) / (256 : Int)) % (256 : Int))), (35, ((((((((IntKind.u64.wrap a2) / (256 : Int)) / (256 : Int)) / (256 : Int)) / (256 : Int)) / (256 : Int)) / (256 : Int)) / (256 : Int))), (37, (((((((((IntKind.u64.wrap a2) / (256 : Int)) / (256 : Int)) / (256 : Int)) / (256 : Int)) / (256 : Int)) / (256 : Int)) / (256 : Int)) % (256 : Int))), (38, (((((((((IntKind.u64.wrap a2) / (256 : Int)) / (256 : Int)) / (256 : Int)) / (256 : Int)) / (256 : Int)) / (256 : Int)) / (256 : Int)) % (256 : Int))), (39, (((((((((IntKind.u64.wrap a2) / (256 : Int)) / (256 : Int)) / (256 : Int)) / (256 : Int)) / (256 : Int)) / (256 : Int)) / (256 : Int)) / (256 : Int)))] [] [] [(0, (ZaF (a0) (a1) (a2) (a3)  y0_0  1))])) (live := [7]) (u := Value.tuple #[vs 7 0 10 10, vq]) (bl := [some (.cells [Value.int .u8 a0, Value.int .u8 ((IntKind.u64.wrap a1) % (256 : Int)), Value.int .u8 (((((((((IntKind.u64.wrap a2) / (256 : Int)) / (256 : Int)) / (256 : Int)) / (256 : Int)) / (256 : Int)) / (256 : Int)) / (256 : Int)) % (256 : Int)), Value.int .u8 ((((((((IntKind.u64.wrap a2) / (256 : Int)) / (256 : Int)) / (256 : Int)) / (256 : Int)) / (256 : Int)) / (256 : Int)) % (256 : Int)), Value.int .u8 (((((((IntKind.u64.wrap a2) / (256 : Int)) / (256 : Int)) / (256 : Int)) / (256 : Int)) / (256 : Int)) % (256 : Int)), Value.int .u8 ((((((IntKind.u64.wrap a2) / (256 : Int)) / (256 : Int)) / (256 : Int)) / (256 : Int)) % (256 : Int)), Value.int .u8 (((((IntKind.u64.wrap a2) / (256 : Int)) / (256 : Int)) / (256 : Int)) % (256 : Int)), Value.int .u8 ((((IntKind.u64.wrap a2) / (256 : Int)) / (256 : Int)) % (256 : Int)), Value.int .u8 (((IntKind.u64.wrap a2) / (256 : Int)) % (256 : Int)), Value.int .u8 ((IntKind.u64.wrap a2) % (256 : Int))] 5)]) (ob := [((IntKind.u64.wrap (Int.tdiv ((((((((IntKind.u64.wrap a2) / (256 : Int)) / (256 : Int)) / (256 : Int)) / (256 : Int)) / (256 : Int)) / (256 : Int)) / (256 : Int)) (256 : Int))) == (((((((((IntKind.u64.wrap a2) / (256 : Int)) / (256 : Int)) / (256 : Int)) / (256 : Int)) / (256 : Int)) / (256 : Int)) / (256 : Int)) / (256 : Int)), true), ((IntKind.u8.wrap (((((((((IntKind.u64.wrap a2) / (256 : Int)) / (256 : Int)) / (256 : Int)) / (256 : Int)) / (256 : Int)) / (256 : Int)) / (256 : Int)) % (256 : Int))) == (((((((((IntKind.u64.wrap a2) / (256 : Int)) / (256 : Int)) / (256 : Int)) / (256 : Int)) / (256 : Int)) / (256 : Int)) / (256 : Int)) % (256 : Int)), true), ((Int.tmod ((((((((IntKind.u64.wrap a2) / (256 : Int)) / (256 : Int)) / (256 : Int)) / (256 : Int)) / (256 : Int)) / (256 : Int)) / (256 : Int)) (256 : Int)) == (((((((((IntKind.u64.wrap a2) / (256 : Int)) / (256 : Int)) / (256 : Int)) / (256 : Int)) / (256 : Int)) / (256 : Int)) / (256 : Int)) % (256 : Int)), true), ((IntKind.u64.wrap (Int.tdiv (((((((IntKind.u64.wrap a2) / (256 : Int)) / (256 : Int)) / (256 : Int)) / (256 : Int)) / (256 : Int)) / (256 : Int)) (256 : Int))) == ((((((((IntKind.u64.wrap a2) / (256 : Int)) / (256 : Int)) / (256 : Int)) / (256 : Int)) / (256 : Int)) / (256 : Int)) / (256 : Int)), true), ((IntKind.u8.wrap ((((((((IntKind.u64.wrap a2) / (256 : Int)) / (256 : Int)) / (256 : Int)) / (256 : Int)) / (256 : Int)) / (256 : Int)) % (256 : Int))) == ((((((((IntKind.u64.wrap a2) / (256 : Int)) / (256 : Int)) / (256 : Int)) / (256 : Int)) / (256 : Int)) / (256 : Int)) % (256 : Int)), true), ((Int.tmod (((((((IntKind.u64.wrap a2) / (256 : Int)) / (256 : Int)) / (256 : Int)) / (256 : Int)) / (256 : Int)) / (256 : Int)) (256 : Int)) == ((((((((IntKind.u64.wrap a2) / (256 : Int)) / (256 : Int)) / (256 : Int)) / (256 : Int)) / (256 : Int)) / (256 : Int)) % (256 : Int)), true), ((IntKind.u64.wrap (Int.tdiv ((((((IntKind.u64.wrap a2) / (256 : Int)) / (256 : Int)) / (256 : Int)) / (256 : Int)) / (256 : Int)) (256 : Int))) == (((((((IntKind.u64.wrap a2) / (256 : Int)) / (256 : Int)) / (256 : Int)) / (256 : Int)) / (256 : Int)) / (256 : Int)), true), ((IntKind.u8.wrap (((((((IntKind.u64.wrap a2) / (256 : Int)) / (256 : Int)) / (256 : Int)) / (256 : Int)) / (256 : Int)) % (256 : Int))) == (((((((IntKind.u64.wrap a2) / (256 : Int)) / (256 : Int)) / (256 : Int)) / (256 : Int)) / (256 : Int)) % (256 : Int)), true), ((Int.tmod ((((((IntKind.u64.wrap a2) / (256 : Int)) / (256 : Int)) / (256 : Int)) / (256 : Int)) / (256 : Int)) (256 : Int)) == (((((((IntKind.u64.wrap a2) / (256 : Int)) / (256 : Int)) / (256 : Int)) / (256 : Int)) / (256 : Int)) % (256 : Int)), true), ((IntKind.u64.wrap (Int.tdiv (((((IntKind.u64.wrap a2) / (256 : Int)) / (256 : Int)) / (256 : Int)) / (256 : Int)) (256 : Int))) == ((((((IntKind.u64.wrap a2) / (256 : Int)) / (256 : Int)) / (256 : Int)) / (256 : Int)) / (256 : Int)), true), ((IntKind.u8.wrap ((((((IntKind.u64.wrap a2) / (256 : Int)) / (256 : Int)) / (256 : Int)) / (256 : Int)) % (256 : Int))) == ((((((IntKind.u64.wrap a2) / (256 : Int)) / (256 : Int)) / (256 : Int)) / (256 : Int)) % (256 : Int)), true), ((Int.tmod (((((IntKind.u64.wrap a2) / (256 : Int)) / (256 : Int)) / (256 : Int)) / (256 : Int)) (256 : Int)) == ((((((IntKind.u64.wrap a2) / (256 : Int)) / (256 : Int)) / (256 : Int)) / (256 : Int)) % (256 : Int)), true), ((IntKind.u64.wrap (Int.tdiv ((((IntKind.u64.wrap a2) / (256 : Int)) / (256 : Int)) / (256 : Int)) (256 : Int))) == (((((IntKind.u64.wrap a2) / (256 : Int)) / (256 : Int)) / (256 : Int)) / (256 : Int)), true), ((IntKind.u8.wrap (((((IntKind.u64.wrap a2) / (256 : Int)) / (256 : Int)) / (256 : Int)) % (256 : Int))) == (((((IntKind.u64.wrap a2) / (256 : Int)) / (256 : Int)) / (256 : Int)) % (256 : Int)), true), ((Int.tmod ((((IntKind.u64.wrap a2) / (256 : Int)) / (256 : Int)) / (256 : Int)) (256 : Int)) == (((((IntKind.u64.wrap a2) / (256 : Int)) / (256 : Int)) / (256 : Int)) % (256 : Int)), true), ((IntKind.u64.wrap (Int.tdiv (((IntKind.u64.wrap a2) / (256 : Int)) / (256 : Int)) (256 : Int))) == ((((IntKind.u64.wrap a2) / (256 : Int)) / (256 : Int)) / (256 : Int)), true), ((IntKind.u8.wrap ((((IntKind.u64.wrap a2) / (256 : Int)) / (256 : Int)) % (256 : Int))) == ((((IntKind.u64.wrap a2) / (256 : Int)) / (256 : Int)) % (256 : Int)), true), ((Int.tmod (((IntKind.u64.wrap a2) / (256 : Int)) / (256 : Int)) (256 : Int)) == ((((IntKind.u64.wrap a2) / (256 : Int)) / (256 : Int)) % (256 : Int)), true), ((IntKind.u64.wrap (Int.tdiv ((IntKind.u64.wrap a2) / (256 : Int)) (256 : Int))) == (((IntKind.u64.wrap a2) / (256 : Int)) / (256 : Int)), true), ((IntKind.u8.wrap (((IntKind.u64.wrap a2) / (256 : Int)) % (256 : Int))) == (((IntKind.u64.wrap a2) / (256 : Int)) % (256 : Int)), true), ((Int.tmod ((IntKind.u64.wrap a2) / (256 : Int)) (256 : Int)) == (((IntKind.u64.wrap a2) / (256 : Int)) % (256 : Int)), true), ((IntKind.u64.wrap (Int.tdiv (IntKind.u64.wrap a2) (256 : Int))) == ((IntKind.u64.wrap a2) / (256 : Int)), true), ((IntKind.u8.wrap ((IntKind.u64.wrap a2) % (256 : Int))) == ((IntKind.u64.wrap a2) % (256 : Int)), true), ((Int.tmod (IntKind.u64.wrap a2) (256 : Int)) == ((IntKind.u64.wrap a2) % (256 : Int)), true), ((IntKind.u64.wrap (Int.tdiv (IntKind.u64.wrap a1) (256 : Int))) == ((IntKind.u64.wrap a1) / (256 : Int)), true), ((IntKind.u8.wrap ((IntKind.u64.wrap a1) % (256 : Int))) == ((IntKind.u64.wrap a1) % (256 : Int)), true), ((Int.tmod (IntKind.u64.wrap a1) (256 : Int)) == ((IntKind.u64.wrap a1) % (256 : Int)), true), ((IntKind.u8.wrap a0) == a0, true), ((a0 == (1 : Int)), true), ((!y0_0), false), (dP (ZaA #[Value.agg #[vi a0, vi a1, vi a2, vi a3]] (a0) (a1) (a2) (a3)  y0_0  1), true)]) (by kernel_rfl) (Za (beq_iff_eq.2 (by have hu0 := uu a2; rw [Zah (by omega)]; exact Zaa (by omega))) <| Za (beq_iff_eq.2 (ZK ltA)) <| Za (beq_iff_eq.2 (Zag (by have hu0 := uu a2; omega))) <| Za (beq_iff_eq.2 (by have hu0 := uu a2; rw [Zah (by omega)]; exact Zaa (by omega))) <| Za (beq_iff_eq.2 (ZK ltA)) <| Za (beq_iff_eq.2 (Zag (by have hu0 := uu a2; omega))) <| Za (beq_iff_eq.2 (by have hu0 := uu a2; rw [Zah (by omega)]; exact Zaa (by omega))) <| Za (beq_iff_eq.2 (ZK ltA)) <| Za (beq_iff_eq.2 (Zag (by have hu0 := uu a2; omega))) <| Za (beq_iff_eq.2 (by have hu0 := uu a2; rw [Zah (by omega)]; exact Zaa (by omega))) <| Za (beq_iff_eq.2 (ZK ltA)) <| Za (beq_iff_eq.2 (Zag (by have hu0 := uu a2; omega))) <| Za (beq_iff_eq.2 (by have hu0 := uu a2; rw [Zah (by omega)]; exact Zaa (by omega))) <| Za (beq_iff_eq.2 (ZK ltA)) <| Za (beq_iff_eq.2 (Zag (by have hu0 := uu a2; omega))) <| Za (beq_iff_eq.2 (by have hu0 := uu a2; rw [Zah (by omega)]; exact Zaa (by omega))) <| Za (beq_iff_eq.2 (ZK ltA)) <| Za (beq_iff_eq.2 (Zag (by have hu0 := uu a2; omega))) <| Za (beq_iff_eq.2 (by have hu0 := uu a2; rw [Zah (by omega)]; exact Zaa (by omega))) <| Za (beq_iff_eq.2 (ZK ltA)) <| Za (beq_iff_eq.2 (Zag (by have hu0 := uu a2; omega))) <| Za (beq_iff_eq.2 (by have hu0 := uu a2; rw [Zah (by omega)]; exact Zaa (by omega))) <| Za (beq_iff_eq.2 (ZK ltA)) <| Za (beq_iff_eq.2 (Zag (by have hu0 := uu a2; omega))) <| Za (beq_iff_eq.2 (by have hu0 := uu a1; rw [Zah (by omega)]; exact Zaa (by omega))) <| Za (beq_iff_eq.2 (ZK ltA)) <| Za (beq_iff_eq.2 (Zag (by have hu0 := uu a1; omega))) <| Za (beq_iff_eq.2 (ZK ltA)) <| oT <| Za (Zb8 (by first | assumption | exact Decidable.not_not.1 (by assumption) | simp_all)) <| Za (Zg (ZaG #[Value.agg #[vi a0, vi a1, vi a2, vi a3]] (a0) (a1) (a2) (a3)  y0_0 N c0  1 rfl (by decide) (by decide))) Zb) rfl (by decide) (by rfl) ⟨Eq.trans (show (Value.tuple #[vs 0 0 ([a0, ((IntKind.u64.wrap a1) % (256 : Int)), (((((((((IntKind.u64.wrap a2) / (256 : Int)) / (256 : Int)) / (256 : Int)) / (256 : Int)) / (256 : Int)) / (256 : Int)) / (256 : Int)) % (256 : Int)), ((((((((IntKind.u64.wrap a2) / (256 : Int)) / (256 : Int)) / (256 : Int)) / (256 : Int)) / (256 : Int)) / (256 : Int)) % (256 : Int)), (((((((IntKind.u64.wrap a2) / (256 : Int)) / (256 : Int)) / (256 : Int)) / (256 : Int)) / (256 : Int)) % (256 : Int)), ((((((IntKind.u64.wrap a2) / (256 : Int)) / (256 : Int)) / (256 : Int)) / (256 : Int)) % (256 : Int)), (((((IntKind.u64.wrap a2) / (256 : Int)) / (256 : Int)) / (256 : Int)) % (256 : Int)), ((((IntKind.u64.wrap a2) / (256 : Int)) / (256 : Int)) % (256 : Int)), (((IntKind.u64.wrap a2) / (256 : Int)) % (256 : Int)), ((IntKind.u64.wrap a2) % (256 : Int))] : List Int).length ([a0, ((IntKind.u64.wrap a1) % (256 : Int)), (((((((((IntKind.u64.wrap a2) / (256 : Int)) / (256 : Int)) / (256 : Int)) / (256 : Int)) / (256 : Int)) / (256 : Int)) / (256 : Int)) % (256 : Int)), ((((((((IntKind.u64.wrap a2) / (256 : Int)) / (256 : Int)) / (256 : Int)) / (256 : Int)) / (256 : Int)) / (256 : Int)) % (256 : Int)), (((((((IntKind.u64.wrap a2) / (256 : Int)) / (256 : Int)) / (256 : Int)) / (256 : Int)) / (256 : Int)) % (256 : Int)), ((((((IntKind.u64.wrap a2) / (256 : Int)) / (256 : Int)) / (256 : Int)) / (256 : Int)) % (256 : Int)), (((((IntKind.u64.wrap a2) / (256 : Int)) / (256 : Int)) / (256 : Int)) % (256 : Int)), ((((IntKind.u64.wrap a2) / (256 : Int)) / (256 : Int)) % (256 : Int)), (((IntKind.u64.wrap a2) / (256 : Int)) % (256 : Int)), ((IntKind.u64.wrap a2) % (256 : Int))] : List Int).length, vq] : Value) = Value.tuple #[vs 0 0 10 10, vq] from (ZaD (Zf (Z2 rfl eqA eqA) (Zf rfl rfl)))) (by rfl), by rfl⟩ ⟨(Zaq (E := (Ze .u8)) _ (L := ([a0, ((IntKind.u64.wrap a1) % (256 : Int)), (((((((((IntKind.u64.wrap a2) / (256 : Int)) / (256 : Int)) / (256 : Int)) / (256 : Int)) / (256 : Int)) / (256 : Int)) / (256 : Int)) % (256 : Int)), ((((((((IntKind.u64.wrap a2) / (256 : Int)) / (256 : Int)) / (256 : Int)) / (256 : Int)) / (256 : Int)) / (256 : Int)) % (256 : Int)), (((((((IntKind.u64.wrap a2) / (256 : Int)) / (256 : Int)) / (256 : Int)) / (256 : Int)) / (256 : Int)) % (256 : Int)), ((((((IntKind.u64.wrap a2) / (256 : Int)) / (256 : Int)) / (256 : Int)) / (256 : Int)) % (256 : Int)), (((((IntKind.u64.wrap a2) / (256 : Int)) / (256 : Int)) / (256 : Int)) % (256 : Int)), ((((IntKind.u64.wrap a2) / (256 : Int)) / (256 : Int)) % (256 : Int)), (((IntKind.u64.wrap a2) / (256 : Int)) % (256 : Int)), ((IntKind.u64.wrap a2) % (256 : Int))] : List Int)) _ (show ([Value.int .u8 a0, Value.int .u8 ((IntKind.u64.wrap a1) % (256 : Int)), Value.int .u8 (((((((((IntKind.u64.wrap a2) / (256 : Int)) / (256 : Int)) / (256 : Int)) / (256 : Int)) / (256 : Int)) / (256 : Int)) / (256 : Int)) % (256 : Int)), Value.int .u8 ((((((((IntKind.u64.wrap a2) / (256 : Int)) / (256 : Int)) / (256 : Int)) / (256 : Int)) / (256 : Int)) / (256 : Int)) % (256 : Int)), Value.int .u8 (((((((IntKind.u64.wrap a2) / (256 : Int)) / (256 : Int)) / (256 : Int)) / (256 : Int)) / (256 : Int)) % (256 : Int)), Value.int .u8 ((((((IntKind.u64.wrap a2) / (256 : Int)) / (256 : Int)) / (256 : Int)) / (256 : Int)) % (256 : Int)), Value.int .u8 (((((IntKind.u64.wrap a2) / (256 : Int)) / (256 : Int)) / (256 : Int)) % (256 : Int)), Value.int .u8 ((((IntKind.u64.wrap a2) / (256 : Int)) / (256 : Int)) % (256 : Int)), Value.int .u8 (((IntKind.u64.wrap a2) / (256 : Int)) % (256 : Int)), Value.int .u8 ((IntKind.u64.wrap a2) % (256 : Int))] : List Value) = Zc (Ze .u8) ([a0, ((IntKind.u64.wrap a1) % (256 : Int)), (((((((((IntKind.u64.wrap a2) / (256 : Int)) / (256 : Int)) / (256 : Int)) / (256 : Int)) / (256 : Int)) / (256 : Int)) / (256 : Int)) % (256 : Int)), ((((((((IntKind.u64.wrap a2) / (256 : Int)) / (256 : Int)) / (256 : Int)) / (256 : Int)) / (256 : Int)) / (256 : Int)) % (256 : Int)), (((((((IntKind.u64.wrap a2) / (256 : Int)) / (256 : Int)) / (256 : Int)) / (256 : Int)) / (256 : Int)) % (256 : Int)), ((((((IntKind.u64.wrap a2) / (256 : Int)) / (256 : Int)) / (256 : Int)) / (256 : Int)) % (256 : Int)), (((((IntKind.u64.wrap a2) / (256 : Int)) / (256 : Int)) / (256 : Int)) % (256 : Int)), ((((IntKind.u64.wrap a2) / (256 : Int)) / (256 : Int)) % (256 : Int)), (((IntKind.u64.wrap a2) / (256 : Int)) % (256 : Int)), ((IntKind.u64.wrap a2) % (256 : Int))] : List Int) from rfl)), trivial⟩
   ·
    refine Zl (fun g3 => ?_) (fun g3 => ?_)
    ·
     exact Zk (r := (.r1 (([a0, ((IntKind.u64.wrap a1) % (256 : Int))] : List Int)) : Z1)) (fu := 4000) (orc := (Zh [(0, false), (1, false), (2, true)] [(0, a0), (3, ((IntKind.u64.wrap a1) % (256 : Int))), (4, ((IntKind.u64.wrap a1) % (256 : Int))), (5, ((IntKind.u64.wrap a1) / (256 : Int)))] [] [] [(0, (ZaF (a0) (a1) (a2) (a3)  y0_0  1))])) (live := [5]) (u := Value.tuple #[vs 5 0 2 2, vq]) (bl := [some (.cells [Value.int .u8 a0, Value.int .u8 ((IntKind.u64.wrap a1) % (256 : Int))] 5)]) (ob := [((IntKind.u64.wrap (Int.tdiv (IntKind.u64.wrap a1) (256 : Int))) == ((IntKind.u64.wrap a1) / (256 : Int)), true), ((IntKind.u8.wrap ((IntKind.u64.wrap a1) % (256 : Int))) == ((IntKind.u64.wrap a1) % (256 : Int)), true), ((Int.tmod (IntKind.u64.wrap a1) (256 : Int)) == ((IntKind.u64.wrap a1) % (256 : Int)), true), ((IntKind.u8.wrap a0) == a0, true), ((a0 == (2 : Int)), true), ((a0 == (1 : Int)), false), ((!y0_0), false), (dP (ZaA #[Value.agg #[vi a0, vi a1, vi a2, vi a3]] (a0) (a1) (a2) (a3)  y0_0  1), true)]) (by kernel_rfl) (Za (beq_iff_eq.2 (by have hu0 := uu a1; rw [Zah (by omega)]; exact Zaa (by omega))) <| Za (beq_iff_eq.2 (ZK ltA)) <| Za (beq_iff_eq.2 (Zag (by have hu0 := uu a1; omega))) <| Za (beq_iff_eq.2 (ZK ltA)) <| oT <| oF <| Za (Zb8 (by first | assumption | exact Decidable.not_not.1 (by assumption) | simp_all)) <| Za (Zg (ZaG #[Value.agg #[vi a0, vi a1, vi a2, vi a3]] (a0) (a1) (a2) (a3)  y0_0 N c0  1 rfl (by decide) (by decide))) Zb) rfl (by decide) (by rfl) ⟨Eq.trans (show (Value.tuple #[vs 0 0 ([a0, ((IntKind.u64.wrap a1) % (256 : Int))] : List Int).length ([a0, ((IntKind.u64.wrap a1) % (256 : Int))] : List Int).length, vq] : Value) = Value.tuple #[vs 0 0 2 2, vq] from (ZaD (Zf (Z2 rfl eqA eqA) (Zf rfl rfl)))) (by rfl), by rfl⟩ ⟨(Zaq (E := (Ze .u8)) _ (L := ([a0, ((IntKind.u64.wrap a1) % (256 : Int))] : List Int)) _ (show ([Value.int .u8 a0, Value.int .u8 ((IntKind.u64.wrap a1) % (256 : Int))] : List Value) = Zc (Ze .u8) ([a0, ((IntKind.u64.wrap a1) % (256 : Int))] : List Int) from rfl)), trivial⟩
    ·
     refine Zl (fun g4 => ?_) (fun g4 => ?_)
     ·
      exact Zk (r := (.r1 (([a0, ((IntKind.u64.wrap a1) % (256 : Int))] : List Int)) : Z1)) (fu := 4000) (orc := (Zh [(0, false), (1, false), (2, false), (3, true)] [(0, a0), (3, ((IntKind.u64.wrap a1) % (256 : Int))), (4, ((IntKind.u64.wrap a1) % (256 : Int))), (5, ((IntKind.u64.wrap a1) / (256 : Int)))] [] [] [(0, (ZaF (a0) (a1) (a2) (a3)  y0_0  1))])) (live := [5]) (u := Value.tuple #[vs 5 0 2 2, vq]) (bl := [some (.cells [Value.int .u8 a0, Value.int .u8 ((IntKind.u64.wrap a1) % (256 : Int))] 5)]) (ob := [((IntKind.u64.wrap (Int.tdiv (IntKind.u64.wrap a1) (256 : Int))) == ((IntKind.u64.wrap a1) / (256 : Int)), true), ((IntKind.u8.wrap ((IntKind.u64.wrap a1) % (256 : Int))) == ((IntKind.u64.wrap a1) % (256 : Int)), true), ((Int.tmod (IntKind.u64.wrap a1) (256 : Int)) == ((IntKind.u64.wrap a1) % (256 : Int)), true), ((IntKind.u8.wrap a0) == a0, true), ((a0 == (10 : Int)), true), ((a0 == (2 : Int)), false), ((a0 == (1 : Int)), false), ((!y0_0), false), (dP (ZaA #[Value.agg #[vi a0, vi a1, vi a2, vi a3]] (a0) (a1) (a2) (a3)  y0_0  1), true)]) (by kernel_rfl) (Za (beq_iff_eq.2 (by have hu0 := uu a1; rw [Zah (by omega)]; exact Zaa (by omega))) <| Za (beq_iff_eq.2 (ZK ltA)) <| Za (beq_iff_eq.2 (Zag (by have hu0 := uu a1; omega))) <| Za (beq_iff_eq.2 (ZK ltA)) <| oT <| oF <| oF <| Za (Zb8 (by first | assumption | exact Decidable.not_not.1 (by assumption) | simp_all)) <| Za (Zg (ZaG #[Value.agg #[vi a0, vi a1, vi a2, vi a3]] (a0) (a1) (a2) (a3)  y0_0 N c0  1 rfl (by decide) (by decide))) Zb) rfl (by decide) (by rfl) ⟨Eq.trans (show (Value.tuple #[vs 0 0 ([a0, ((IntKind.u64.wrap a1) % (256 : Int))] : List Int).length ([a0, ((IntKind.u64.wrap a1) % (256 : Int))] : List Int).length, vq] : Value) = Value.tuple #[vs 0 0 2 2, vq] from (ZaD (Zf (Z2 rfl eqA eqA) (Zf rfl rfl)))) (by rfl), by rfl⟩ ⟨(Zaq (E := (Ze .u8)) _ (L := ([a0, ((IntKind.u64.wrap a1) % (256 : Int))] : List Int)) _ (show ([Value.int .u8 a0, Value.int .u8 ((IntKind.u64.wrap a1) % (256 : Int))] : List Value) = Zc (Ze .u8) ([a0, ((IntKind.u64.wrap a1) % (256 : Int))] : List Int) from rfl)), trivial⟩
     ·
      refine Zl (fun g5 => ?_) (fun g5 => ?_)
      ·
       exact Zk (r := (.r1 (([a0, ((IntKind.u64.wrap a1) % (256 : Int))] : List Int)) : Z1)) (fu := 4000) (orc := (Zh [(0, false), (1, false), (2, false), (3, false), (4, true)] [(0, a0), (3, ((IntKind.u64.wrap a1) % (256 : Int))), (4, ((IntKind.u64.wrap a1) % (256 : Int))), (5, ((IntKind.u64.wrap a1) / (256 : Int)))] [] [] [(0, (ZaF (a0) (a1) (a2) (a3)  y0_0  1))])) (live := [5]) (u := Value.tuple #[vs 5 0 2 2, vq]) (bl := [some (.cells [Value.int .u8 a0, Value.int .u8 ((IntKind.u64.wrap a1) % (256 : Int))] 5)]) (ob := [((IntKind.u64.wrap (Int.tdiv (IntKind.u64.wrap a1) (256 : Int))) == ((IntKind.u64.wrap a1) / (256 : Int)), true), ((IntKind.u8.wrap ((IntKind.u64.wrap a1) % (256 : Int))) == ((IntKind.u64.wrap a1) % (256 : Int)), true), ((Int.tmod (IntKind.u64.wrap a1) (256 : Int)) == ((IntKind.u64.wrap a1) % (256 : Int)), true), ((IntKind.u8.wrap a0) == a0, true), ((a0 == (12 : Int)), true), ((a0 == (10 : Int)), false), ((a0 == (2 : Int)), false), ((a0 == (1 : Int)), false), ((!y0_0), false), (dP (ZaA #[Value.agg #[vi a0, vi a1, vi a2, vi a3]] (a0) (a1) (a2) (a3)  y0_0  1), true)]) (by kernel_rfl) (Za (beq_iff_eq.2 (by have hu0 := uu a1; rw [Zah (by omega)]; exact Zaa (by omega))) <| Za (beq_iff_eq.2 (ZK ltA)) <| Za (beq_iff_eq.2 (Zag (by have hu0 := uu a1; omega))) <| Za (beq_iff_eq.2 (ZK ltA)) <| oT <| oF <| oF <| oF <| Za (Zb8 (by first | assumption | exact Decidable.not_not.1 (by assumption) | simp_all)) <| Za (Zg (ZaG #[Value.agg #[vi a0, vi a1, vi a2, vi a3]] (a0) (a1) (a2) (a3)  y0_0 N c0  1 rfl (by decide) (by decide))) Zb) rfl (by decide) (by rfl) ⟨Eq.trans (show (Value.tuple #[vs 0 0 ([a0, ((IntKind.u64.wrap a1) % (256 : Int))] : List Int).length ([a0, ((IntKind.u64.wrap a1) % (256 : Int))] : List Int).length, vq] : Value) = Value.tuple #[vs 0 0 2 2, vq] from (ZaD (Zf (Z2 rfl eqA eqA) (Zf rfl rfl)))) (by rfl), by rfl⟩ ⟨(Zaq (E := (Ze .u8)) _ (L := ([a0, ((IntKind.u64.wrap a1) % (256 : Int))] : List Int)) _ (show ([Value.int .u8 a0, Value.int .u8 ((IntKind.u64.wrap a1) % (256 : Int))] : List Value) = Zc (Ze .u8) ([a0, ((IntKind.u64.wrap a1) % (256 : Int))] : List Int) from rfl)), trivial⟩
      ·
       refine Zl (fun g6 => ?_) (fun g6 => ?_)
       ·
        exact Zk (r := (.r1 (([a0, ((IntKind.u64.wrap a1) % (256 : Int))] : List Int)) : Z1)) (fu := 4000) (orc := (Zh [(0, false), (1, false), (2, false), (3, false), (4, false), (5, true)] [(0, a0), (3, ((IntKind.u64.wrap a1) % (256 : Int))), (4, ((IntKind.u64.wrap a1) % (256 : Int))), (5, ((IntKind.u64.wrap a1) / (256 : Int)))] [] [] [(0, (ZaF (a0) (a1) (a2) (a3)  y0_0  1))])) (live := [5]) (u := Value.tuple #[vs 5 0 2 2, vq]) (bl := [some (.cells [Value.int .u8 a0, Value.int .u8 ((IntKind.u64.wrap a1) % (256 : Int))] 5)]) (ob := [((IntKind.u64.wrap (Int.tdiv (IntKind.u64.wrap a1) (256 : Int))) == ((IntKind.u64.wrap a1) / (256 : Int)), true), ((IntKind.u8.wrap ((IntKind.u64.wrap a1) % (256 : Int))) == ((IntKind.u64.wrap a1) % (256 : Int)), true), ((Int.tmod (IntKind.u64.wrap a1) (256 : Int)) == ((IntKind.u64.wrap a1) % (256 : Int)), true), ((IntKind.u8.wrap a0) == a0, true), ((a0 == (19 : Int)), true), ((a0 == (12 : Int)), false), ((a0 == (10 : Int)), false), ((a0 == (2 : Int)), false), ((a0 == (1 : Int)), false), ((!y0_0), false), (dP (ZaA #[Value.agg #[vi a0, vi a1, vi a2, vi a3]] (a0) (a1) (a2) (a3)  y0_0  1), true)]) (by kernel_rfl) (Za (beq_iff_eq.2 (by have hu0 := uu a1; rw [Zah (by omega)]; exact Zaa (by omega))) <| Za (beq_iff_eq.2 (ZK ltA)) <| Za (beq_iff_eq.2 (Zag (by have hu0 := uu a1; omega))) <| Za (beq_iff_eq.2 (ZK ltA)) <| oT <| oF <| oF <| oF <| oF <| Za (Zb8 (by first | assumption | exact Decidable.not_not.1 (by assumption) | simp_all)) <| Za (Zg (ZaG #[Value.agg #[vi a0, vi a1, vi a2, vi a3]] (a0) (a1) (a2) (a3)  y0_0 N c0  1 rfl (by decide) (by decide))) Zb) rfl (by decide) (by rfl) ⟨Eq.trans (show (Value.tuple #[vs 0 0 ([a0, ((IntKind.u64.wrap a1) % (256 : Int))] : List Int).length ([a0, ((IntKind.u64.wrap a1) % (256 : Int))] : List Int).length, vq] : Value) = Value.tuple #[vs 0 0 2 2, vq] from (ZaD (Zf (Z2 rfl eqA eqA) (Zf rfl rfl)))) (by rfl), by rfl⟩ ⟨(Zaq (E := (Ze .u8)) _ (L := ([a0, ((IntKind.u64.wrap a1) % (256 : Int))] : List Int)) _ (show ([Value.int .u8 a0, Value.int .u8 ((IntKind.u64.wrap a1) % (256 : Int))] : List Value) = Zc (Ze .u8) ([a0, ((IntKind.u64.wrap a1) % (256 : Int))] : List Int) from rfl)), trivial⟩
       ·
        refine Zl (fun g7 => ?_) (fun g7 => ?_)
        ·
         exact Zk (r := (.r1 (([a0, ((IntKind.u64.wrap a1) % (256 : Int)), ((IntKind.u64.wrap a2) % (256 : Int))] : List Int)) : Z1)) (fu := 4000) (orc := (Zh [(0, false), (1, false), (2, false), (3, false), (4, false), (5, false), (6, true)] [(0, a0), (3, ((IntKind.u64.wrap a1) % (256 : Int))), (4, ((IntKind.u64.wrap a1) % (256 : Int))), (5, ((IntKind.u64.wrap a1) / (256 : Int))), (9, ((IntKind.u64.wrap a2) % (256 : Int))), (10, ((IntKind.u64.wrap a2) % (256 : Int))), (11, ((IntKind.u64.wrap a2) / (256 : Int)))] [] [] [(0, (ZaF (a0) (a1) (a2) (a3)  y0_0  1))])) (live := [7]) (u := Value.tuple #[vs 7 0 3 3, vq]) (bl := [some (.cells [Value.int .u8 a0, Value.int .u8 ((IntKind.u64.wrap a1) % (256 : Int)), Value.int .u8 ((IntKind.u64.wrap a2) % (256 : Int))] 5)]) (ob := [((IntKind.u64.wrap (Int.tdiv (IntKind.u64.wrap a2) (256 : Int))) == ((IntKind.u64.wrap a2) / (256 : Int)), true), ((IntKind.u8.wrap ((IntKind.u64.wrap a2) % (256 : Int))) == ((IntKind.u64.wrap a2) % (256 : Int)), true), ((Int.tmod (IntKind.u64.wrap a2) (256 : Int)) == ((IntKind.u64.wrap a2) % (256 : Int)), true), ((IntKind.u64.wrap (Int.tdiv (IntKind.u64.wrap a1) (256 : Int))) == ((IntKind.u64.wrap a1) / (256 : Int)), true), ((IntKind.u8.wrap ((IntKind.u64.wrap a1) % (256 : Int))) == ((IntKind.u64.wrap a1) % (256 : Int)), true), ((Int.tmod (IntKind.u64.wrap a1) (256 : Int)) == ((IntKind.u64.wrap a1) % (256 : Int)), true), ((IntKind.u8.wrap a0) == a0, true), ((a0 == (3 : Int)), true), ((a0 == (19 : Int)), false), ((a0 == (12 : Int)), false), ((a0 == (10 : Int)), false), ((a0 == (2 : Int)), false), ((a0 == (1 : Int)), false), ((!y0_0), false), (dP (ZaA #[Value.agg #[vi a0, vi a1, vi a2, vi a3]] (a0) (a1) (a2) (a3)  y0_0  1), true)]) (by kernel_rfl) (Za (beq_iff_eq.2 (by have hu0 := uu a2; rw [Zah (by omega)]; exact Zaa (by omega))) <| Za (beq_iff_eq.2 (ZK ltA)) <| Za (beq_iff_eq.2 (Zag (by have hu0 := uu a2; omega))) <| Za (beq_iff_eq.2 (by have hu0 := uu a1; rw [Zah (by omega)]; exact Zaa (by omega))) <| Za (beq_iff_eq.2 (ZK ltA)) <| Za (beq_iff_eq.2 (Zag (by have hu0 := uu a1; omega))) <| Za (beq_iff_eq.2 (ZK ltA)) <| oT <| oF <| oF <| oF <| oF <| oF <| Za (Zb8 (by first | assumption | exact Decidable.not_not.1 (by assumption) | simp_all)) <| Za (Zg (ZaG #[Value.agg #[vi a0, vi a1, vi a2, vi a3]] (a0) (a1) (a2) (a3)  y0_0 N c0  1 rfl (by decide) (by decide))) Zb) rfl (by decide) (by rfl) ⟨Eq.trans (show (Value.tuple #[vs 0 0 ([a0, ((IntKind.u64.wrap a1) % (256 : Int)), ((IntKind.u64.wrap a2) % (256 : Int))] : List Int).length ([a0, ((IntKind.u64.wrap a1) % (256 : Int)), ((IntKind.u64.wrap a2) % (256 : Int))] : List Int).length, vq] : Value) = Value.tuple #[vs 0 0 3 3, vq] from (ZaD (Zf (Z2 rfl eqA eqA) (Zf rfl rfl)))) (by rfl), by rfl⟩ ⟨(Zaq (E := (Ze .u8)) _ (L := ([a0, ((IntKind.u64.wrap a1) % (256 : Int)), ((IntKind.u64.wrap a2) % (256 : Int))] : List Int)) _ (show ([Value.int .u8 a0, Value.int .u8 ((IntKind.u64.wrap a1) % (256 : Int)), Value.int .u8 ((IntKind.u64.wrap a2) % (256 : Int))] : List Value) = Zc (Ze .u8) ([a0, ((IntKind.u64.wrap a1) % (256 : Int)), ((IntKind.u64.wrap a2) % (256 : Int))] : List Int) from rfl)), trivial⟩
        ·
         refine Zl (fun g8 => ?_) (fun g8 => ?_)
         ·
          exact Zk (r := (.r1 (([a0, ((IntKind.u64.wrap a1) % (256 : Int)), ((IntKind.u64.wrap a2) % (256 : Int)), ((IntKind.u64.wrap a3) % (256 : Int))] : List Int)) : Z1)) (fu := 4000) (orc := (Zh [(0, false), (1, false), (2, false), (3, false), (4, false), (5, false), (6, false), (7, true)] [(0, a0), (3, ((IntKind.u64.wrap a1) % (256 : Int))), (4, ((IntKind.u64.wrap a1) % (256 : Int))), (5, ((IntKind.u64.wrap a1) / (256 : Int))), (9, ((IntKind.u64.wrap a2) % (256 : Int))), (10, ((IntKind.u64.wrap a2) % (256 : Int))), (11, ((IntKind.u64.wrap a2) / (256 : Int))), (15, ((IntKind.u64.wrap a3) % (256 : Int))), (16, ((IntKind.u64.wrap a3) % (256 : Int))), (17, ((IntKind.u64.wrap a3) / (256 : Int)))] [] [] [(0, (ZaF (a0) (a1) (a2) (a3)  y0_0  1))])) (live := [9]) (u := Value.tuple #[vs 9 0 4 4, vq]) (bl := [some (.cells [Value.int .u8 a0, Value.int .u8 ((IntKind.u64.wrap a1) % (256 : Int)), Value.int .u8 ((IntKind.u64.wrap a2) % (256 : Int)), Value.int .u8 ((IntKind.u64.wrap a3) % (256 : Int))] 5)]) (ob := [((IntKind.u64.wrap (Int.tdiv (IntKind.u64.wrap a3) (256 : Int))) == ((IntKind.u64.wrap a3) / (256 : Int)), true), ((IntKind.u8.wrap ((IntKind.u64.wrap a3) % (256 : Int))) == ((IntKind.u64.wrap a3) % (256 : Int)), true), ((Int.tmod (IntKind.u64.wrap a3) (256 : Int)) == ((IntKind.u64.wrap a3) % (256 : Int)), true), ((IntKind.u64.wrap (Int.tdiv (IntKind.u64.wrap a2) (256 : Int))) == ((IntKind.u64.wrap a2) / (256 : Int)), true), ((IntKind.u8.wrap ((IntKind.u64.wrap a2) % (256 : Int))) == ((IntKind.u64.wrap a2) % (256 : Int)), true), ((Int.tmod (IntKind.u64.wrap a2) (256 : Int)) == ((IntKind.u64.wrap a2) % (256 : Int)), true), ((IntKind.u64.wrap (Int.tdiv (IntKind.u64.wrap a1) (256 : Int))) == ((IntKind.u64.wrap a1) / (256 : Int)), true), ((IntKind.u8.wrap ((IntKind.u64.wrap a1) % (256 : Int))) == ((IntKind.u64.wrap a1) % (256 : Int)), true), ((Int.tmod (IntKind.u64.wrap a1) (256 : Int)) == ((IntKind.u64.wrap a1) % (256 : Int)), true), ((IntKind.u8.wrap a0) == a0, true), ((a0 == (4 : Int)), true), ((a0 == (3 : Int)), false), ((a0 == (19 : Int)), false), ((a0 == (12 : Int)), false), ((a0 == (10 : Int)), false), ((a0 == (2 : Int)), false), ((a0 == (1 : Int)), false), ((!y0_0), false), (dP (ZaA #[Value.agg #[vi a0, vi a1, vi a2, vi a3]] (a0) (a1) (a2) (a3)  y0_0  1), true)]) (by kernel_rfl) (Za (beq_iff_eq.2 (by have hu0 := uu a3; rw [Zah (by omega)]; exact Zaa (by omega))) <| Za (beq_iff_eq.2 (ZK ltA)) <| Za (beq_iff_eq.2 (Zag (by have hu0 := uu a3; omega))) <| Za (beq_iff_eq.2 (by have hu0 := uu a2; rw [Zah (by omega)]; exact Zaa (by omega))) <| Za (beq_iff_eq.2 (ZK ltA)) <| Za (beq_iff_eq.2 (Zag (by have hu0 := uu a2; omega))) <| Za (beq_iff_eq.2 (by have hu0 := uu a1; rw [Zah (by omega)]; exact Zaa (by omega))) <| Za (beq_iff_eq.2 (ZK ltA)) <| Za (beq_iff_eq.2 (Zag (by have hu0 := uu a1; omega))) <| Za (beq_iff_eq.2 (ZK ltA)) <| oT <| oF <| oF <| oF <| oF <| oF <| oF <| Za (Zb8 (by first | assumption | exact Decidable.not_not.1 (by assumption) | simp_all)) <| Za (Zg (ZaG #[Value.agg #[vi a0, vi a1, vi a2, vi a3]] (a0) (a1) (a2) (a3)  y0_0 N c0  1 rfl (by decide) (by decide))) Zb) rfl (by decide) (by rfl) ⟨Eq.trans (show (Value.tuple #[vs 0 0 ([a0, ((IntKind.u64.wrap a1) % (256 : Int)), ((IntKind.u64.wrap a2) % (256 : Int)), ((IntKind.u64.wrap a3) % (256 : Int))] : List Int).length ([a0, ((IntKind.u64.wrap a1) % (256 : Int)), ((IntKind.u64.wrap a2) % (256 : Int)), ((IntKind.u64.wrap a3) % (256 : Int))] : List Int).length, vq] : Value) = Value.tuple #[vs 0 0 4 4, vq] from (ZaD (Zf (Z2 rfl eqA eqA) (Zf rfl rfl)))) (by rfl), by rfl⟩ ⟨(Zaq (E := (Ze .u8)) _ (L := ([a0, ((IntKind.u64.wrap a1) % (256 : Int)), ((IntKind.u64.wrap a2) % (256 : Int)), ((IntKind.u64.wrap a3) % (256 : Int))] : List Int)) _ (show ([Value.int .u8 a0, Value.int .u8 ((IntKind.u64.wrap a1) % (256 : Int)), Value.int .u8 ((IntKind.u64.wrap a2) % (256 : Int)), Value.int .u8 ((IntKind.u64.wrap a3) % (256 : Int))] : List Value) = Zc (Ze .u8) ([a0, ((IntKind.u64.wrap a1) % (256 : Int)), ((IntKind.u64.wrap a2) % (256 : Int)), ((IntKind.u64.wrap a3) % (256 : Int))] : List Int) from rfl)), trivial⟩
         ·
          refine Zl (fun g9 => ?_) (fun g9 => ?_)
          ·
           exact Zk (r := (.r1 (([a0, ((IntKind.u64.wrap a1) % (256 : Int)), ((IntKind.u64.wrap a2) % (256 : Int)), ((IntKind.u64.wrap a3) % (256 : Int))] : List Int)) : Z1)) (fu := 4000) (orc := (Zh [(0, false), (1, false), (2, false), (3, false), (4, false), (5, false), (6, false), (7, false), (8, true)] [(0, a0), (3, ((IntKind.u64.wrap a1) % (256 : Int))), (4, ((IntKind.u64.wrap a1) % (256 : Int))), (5, ((IntKind.u64.wrap a1) / (256 : Int))), (9, ((IntKind.u64.wrap a2) % (256 : Int))), (10, ((IntKind.u64.wrap a2) % (256 : Int))), (11, ((IntKind.u64.wrap a2) / (256 : Int))), (15, ((IntKind.u64.wrap a3) % (256 : Int))), (16, ((IntKind.u64.wrap a3) % (256 : Int))), (17, ((IntKind.u64.wrap a3) / (256 : Int)))] [] [] [(0, (ZaF (a0) (a1) (a2) (a3)  y0_0  1))])) (live := [9]) (u := Value.tuple #[vs 9 0 4 4, vq]) (bl := [some (.cells [Value.int .u8 a0, Value.int .u8 ((IntKind.u64.wrap a1) % (256 : Int)), Value.int .u8 ((IntKind.u64.wrap a2) % (256 : Int)), Value.int .u8 ((IntKind.u64.wrap a3) % (256 : Int))] 5)]) (ob := [((IntKind.u64.wrap (Int.tdiv (IntKind.u64.wrap a3) (256 : Int))) == ((IntKind.u64.wrap a3) / (256 : Int)), true), ((IntKind.u8.wrap ((IntKind.u64.wrap a3) % (256 : Int))) == ((IntKind.u64.wrap a3) % (256 : Int)), true), ((Int.tmod (IntKind.u64.wrap a3) (256 : Int)) == ((IntKind.u64.wrap a3) % (256 : Int)), true), ((IntKind.u64.wrap (Int.tdiv (IntKind.u64.wrap a2) (256 : Int))) == ((IntKind.u64.wrap a2) / (256 : Int)), true), ((IntKind.u8.wrap ((IntKind.u64.wrap a2) % (256 : Int))) == ((IntKind.u64.wrap a2) % (256 : Int)), true), ((Int.tmod (IntKind.u64.wrap a2) (256 : Int)) == ((IntKind.u64.wrap a2) % (256 : Int)), true), ((IntKind.u64.wrap (Int.tdiv (IntKind.u64.wrap a1) (256 : Int))) == ((IntKind.u64.wrap a1) / (256 : Int)), true), ((IntKind.u8.wrap ((IntKind.u64.wrap a1) % (256 : Int))) == ((IntKind.u64.wrap a1) % (256 : Int)), true), ((Int.tmod (IntKind.u64.wrap a1) (256 : Int)) == ((IntKind.u64.wrap a1) % (256 : Int)), true), ((IntKind.u8.wrap a0) == a0, true), ((a0 == (5 : Int)), true), ((a0 == (4 : Int)), false), ((a0 == (3 : Int)), false), ((a0 == (19 : Int)), false), ((a0 == (12 : Int)), false), ((a0 == (10 : Int)), false), ((a0 == (2 : Int)), false), ((a0 == (1 : Int)), false), ((!y0_0), false), (dP (ZaA #[Value.agg #[vi a0, vi a1, vi a2, vi a3]] (a0) (a1) (a2) (a3)  y0_0  1), true)]) (by kernel_rfl) (Za (beq_iff_eq.2 (by have hu0 := uu a3; rw [Zah (by omega)]; exact Zaa (by omega))) <| Za (beq_iff_eq.2 (ZK ltA)) <| Za (beq_iff_eq.2 (Zag (by have hu0 := uu a3; omega))) <| Za (beq_iff_eq.2 (by have hu0 := uu a2; rw [Zah (by omega)]; exact Zaa (by omega))) <| Za (beq_iff_eq.2 (ZK ltA)) <| Za (beq_iff_eq.2 (Zag (by have hu0 := uu a2; omega))) <| Za (beq_iff_eq.2 (by have hu0 := uu a1; rw [Zah (by omega)]; exact Zaa (by omega))) <| Za (beq_iff_eq.2 (ZK ltA)) <| Za (beq_iff_eq.2 (Zag (by have hu0 := uu a1; omega))) <| Za (beq_iff_eq.2 (ZK ltA)) <| oT <| oF <| oF <| oF <| oF <| oF <| oF <| oF <| Za (Zb8 (by first | assumption | exact Decidable.not_not.1 (by assumption) | simp_all)) <| Za (Zg (ZaG #[Value.agg #[vi a0, vi a1, vi a2, vi a3]] (a0) (a1) (a2) (a3)  y0_0 N c0  1 rfl (by decide) (by decide))) Zb) rfl (by decide) (by rfl) ⟨Eq.trans (show (Value.tuple #[vs 0 0 ([a0, ((IntKind.u64.wrap a1) % (256 : Int)), ((IntKind.u64.wrap a2) % (256 : Int)), ((IntKind.u64.wrap a3) % (256 : Int))] : List Int).length ([a0, ((IntKind.u64.wrap a1) % (256 : Int)), ((IntKind.u64.wrap a2) % (256 : Int)), ((IntKind.u64.wrap a3) % (256 : Int))] : List Int).length, vq] : Value) = Value.tuple #[vs 0 0 4 4, vq] from (ZaD (Zf (Z2 rfl eqA eqA) (Zf rfl rfl)))) (by rfl), by rfl⟩ ⟨(Zaq (E := (Ze .u8)) _ (L := ([a0, ((IntKind.u64.wrap a1) % (256 : Int)), ((IntKind.u64.wrap a2) % (256 : Int)), ((IntKind.u64.wrap a3) % (256 : Int))] : List Int)) _ (show ([Value.int .u8 a0, Value.int .u8 ((IntKind.u64.wrap a1) % (256 : Int)), Value.int .u8 ((IntKind.u64.wrap a2) % (256 : Int)), Value.int .u8 ((IntKind.u64.wrap a3) % (256 : Int))] : List Value) = Zc (Ze .u8) ([a0, ((IntKind.u64.wrap a1) % (256 : Int)), ((IntKind.u64.wrap a2) % (256 : Int)), ((IntKind.u64.wrap a3) % (256 : Int))] : List Int) from rfl)), trivial⟩
          ·
           refine Zl (fun g10 => ?_) (fun g10 => ?_)
           ·
            exact Zk (r := (.r1 (([a0, ((IntKind.u64.wrap a1) % (256 : Int)), ((IntKind.u64.wrap a2) % (256 : Int)), ((IntKind.u64.wrap a3) % (256 : Int))] : List Int)) : Z1)) (fu := 4000) (orc := (Zh [(0, false), (1, false), (2, false), (3, false), (4, false), (5, false), (6, false), (7, false), (8, false), (9, true)] [(0, a0), (3, ((IntKind.u64.wrap a1) % (256 : Int))), (4, ((IntKind.u64.wrap a1) % (256 : Int))), (5, ((IntKind.u64.wrap a1) / (256 : Int))), (9, ((IntKind.u64.wrap a2) % (256 : Int))), (10, ((IntKind.u64.wrap a2) % (256 : Int))), (11, ((IntKind.u64.wrap a2) / (256 : Int))), (15, ((IntKind.u64.wrap a3) % (256 : Int))), (16, ((IntKind.u64.wrap a3) % (256 : Int))), (17, ((IntKind.u64.wrap a3) / (256 : Int)))] [] [] [(0, (ZaF (a0) (a1) (a2) (a3)  y0_0  1))])) (live := [9]) (u := Value.tuple #[vs 9 0 4 4, vq]) (bl := [some (.cells [Value.int .u8 a0, Value.int .u8 ((IntKind.u64.wrap a1) % (256 : Int)), Value.int .u8 ((IntKind.u64.wrap a2) % (256 : Int)), Value.int .u8 ((IntKind.u64.wrap a3) % (256 : Int))] 5)]) (ob := [((IntKind.u64.wrap (Int.tdiv (IntKind.u64.wrap a3) (256 : Int))) == ((IntKind.u64.wrap a3) / (256 : Int)), true), ((IntKind.u8.wrap ((IntKind.u64.wrap a3) % (256 : Int))) == ((IntKind.u64.wrap a3) % (256 : Int)), true), ((Int.tmod (IntKind.u64.wrap a3) (256 : Int)) == ((IntKind.u64.wrap a3) % (256 : Int)), true), ((IntKind.u64.wrap (Int.tdiv (IntKind.u64.wrap a2) (256 : Int))) == ((IntKind.u64.wrap a2) / (256 : Int)), true), ((IntKind.u8.wrap ((IntKind.u64.wrap a2) % (256 : Int))) == ((IntKind.u64.wrap a2) % (256 : Int)), true), ((Int.tmod (IntKind.u64.wrap a2) (256 : Int)) == ((IntKind.u64.wrap a2) % (256 : Int)), true), ((IntKind.u64.wrap (Int.tdiv (IntKind.u64.wrap a1) (256 : Int))) == ((IntKind.u64.wrap a1) / (256 : Int)), true), ((IntKind.u8.wrap ((IntKind.u64.wrap a1) % (256 : Int))) == ((IntKind.u64.wrap a1) % (256 : Int)), true), ((Int.tmod (IntKind.u64.wrap a1) (256 : Int)) == ((IntKind.u64.wrap a1) % (256 : Int)), true), ((IntKind.u8.wrap a0) == a0, true), ((a0 == (6 : Int)), true), ((a0 == (5 : Int)), false), ((a0 == (4 : Int)), false), ((a0 == (3 : Int)), false), ((a0 == (19 : Int)), false), ((a0 == (12 : Int)), false), ((a0 == (10 : Int)), false), ((a0 == (2 : Int)), false), ((a0 == (1 : Int)), false), ((!y0_0), false), (dP (ZaA #[Value.agg #[vi a0, vi a1, vi a2, vi a3]] (a0) (a1) (a2) (a3)  y0_0  1), true)]) (by kernel_rfl) (Za (beq_iff_eq.2 (by have hu0 := uu a3; rw [Zah (by omega)]; exact Zaa (by omega))) <| Za (beq_iff_eq.2 (ZK ltA)) <| Za (beq_iff_eq.2 (Zag (by have hu0 := uu a3; omega))) <| Za (beq_iff_eq.2 (by have hu0 := uu a2; rw [Zah (by omega)]; exact Zaa (by omega))) <| Za (beq_iff_eq.2 (ZK ltA)) <| Za (beq_iff_eq.2 (Zag (by have hu0 := uu a2; omega))) <| Za (beq_iff_eq.2 (by have hu0 := uu a1; rw [Zah (by omega)]; exact Zaa (by omega))) <| Za (beq_iff_eq.2 (ZK ltA)) <| Za (beq_iff_eq.2 (Zag (by have hu0 := uu a1; omega))) <| Za (beq_iff_eq.2 (ZK ltA)) <| oT <| oF <| oF <| oF <| oF <| oF <| oF <| oF <| oF <| Za (Zb8 (by first | assumption | exact Decidable.not_not.1 (by assumption) | simp_all)) <| Za (Zg (ZaG #[Value.agg #[vi a0, vi a1, vi a2, vi a3]] (a0) (a1) (a2) (a3)  y0_0 N c0  1 rfl (by decide) (by decide))) Zb) rfl (by decide) (by rfl) ⟨Eq.trans (show (Value.tuple #[vs 0 0 ([a0, ((IntKind.u64.wrap a1) % (256 : Int)), ((IntKind.u64.wrap a2) % (256 : Int)), ((IntKind.u64.wrap a3) % (256 : Int))] : List Int).length ([a0, ((IntKind.u64.wrap a1) % (256 : Int)), ((IntKind.u64.wrap a2) % (256 : Int)), ((IntKind.u64.wrap a3) % (256 : Int))] : List Int).length, vq] : Value) = Value.tuple #[vs 0 0 4 4, vq] from (ZaD (Zf (Z2 rfl eqA eqA) (Zf rfl rfl)))) (by rfl), by rfl⟩ ⟨(Zaq (E := (Ze .u8)) _ (L := ([a0, ((IntKind.u64.wrap a1) % (256 : Int)), ((IntKind.u64.wrap a2) % (256 : Int)), ((IntKind.u64.wrap a3) % (256 : Int))] : List Int)) _ (show ([Value.int .u8 a0, Value.int .u8 ((IntKind.u64.wrap a1) % (256 : Int)), Value.int .u8 ((IntKind.u64.wrap a2) % (256 : Int)), Value.int .u8 ((IntKind.u64.wrap a3) % (256 : Int))] : List Value) = Zc (Ze .u8) ([a0, ((IntKind.u64.wrap a1) % (256 : Int)), ((IntKind.u64.wrap a2) % (256 : Int)), ((IntKind.u64.wrap a3) % (256 : Int))] : List Int) from rfl)), trivial⟩
           ·
            refine Zl (fun g11 => ?_) (fun g11 => ?_)
            ·
             exact Zk (r := (.r1 (([a0, ((IntKind.u64.wrap a1) % (256 : Int)), ((IntKind.u64.wrap a2) % (256 : Int)), ((IntKind.u64.wrap a3) % (256 : Int))] : List Int)) : Z1)) (fu := 4000) (orc := (Zh [(0, false), (1, false), (2, false), (3, false), (4, false), (5, false), (6, false), (7, false), (8, false), (9, false), (10, true)] [(0, a0), (3, ((IntKind.u64.wrap a1) % (256 : Int))), (4, ((IntKind.u64.wrap a1) % (256 : Int))), (5, ((IntKind.u64.wrap a1) / (256 : Int))), (9, ((IntKind.u64.wrap a2) % (256 : Int))), (10, ((IntKind.u64.wrap a2) % (256 : Int))), (11, ((IntKind.u64.wrap a2) / (256 : Int))), (15, ((IntKind.u64.wrap a3) % (256 : Int))), (16, ((IntKind.u64.wrap a3) % (256 : Int))), (17, ((IntKind.u64.wrap a3) / (256 : Int)))] [] [] [(0, (ZaF (a0) (a1) (a2) (a3)  y0_0  1))])) (live := [9]) (u := Value.tuple #[vs 9 0 4 4, vq]) (bl := [some (.cells [Value.int .u8 a0, Value.int .u8 ((IntKind.u64.wrap a1) % (256 : Int)), Value.int .u8 ((IntKind.u64.wrap a2) % (256 : Int)), Value.int .u8 ((IntKind.u64.wrap a3) % (256 : Int))] 5)]) (ob := [((IntKind.u64.wrap (Int.tdiv (IntKind.u64.wrap a3) (256 : Int))) == ((IntKind.u64.wrap a3) / (256 : Int)), true), ((IntKind.u8.wrap ((IntKind.u64.wrap a3) % (256 : Int))) == ((IntKind.u64.wrap a3) % (256 : Int)), true), ((Int.tmod (IntKind.u64.wrap a3) (256 : Int)) == ((IntKind.u64.wrap a3) % (256 : Int)), true), ((IntKind.u64.wrap (Int.tdiv (IntKind.u64.wrap a2) (256 : Int))) == ((IntKind.u64.wrap a2) / (256 : Int)), true), ((IntKind.u8.wrap ((IntKind.u64.wrap a2) % (256 : Int))) == ((IntKind.u64.wrap a2) % (256 : Int)), true), ((Int.tmod (IntKind.u64.wrap a2) (256 : Int)) == ((IntKind.u64.wrap a2) % (256 : Int)), true), ((IntKind.u64.wrap (Int.tdiv (IntKind.u64.wrap a1) (256 : Int))) == ((IntKind.u64.wrap a1) / (256 : Int)), true), ((IntKind.u8.wrap ((IntKind.u64.wrap a1) % (256 : Int))) == ((IntKind.u64.wrap a1) % (256 : Int)), true), ((Int.tmod (IntKind.u64.wrap a1) (256 : Int)) == ((IntKind.u64.wrap a1) % (256 : Int)), true), ((IntKind.u8.wrap a0) == a0, true), ((a0 == (7 : Int)), true), ((a0 == (6 : Int)), false), ((a0 == (5 : Int)), false), ((a0 == (4 : Int)), false), ((a0 == (3 : Int)), false), ((a0 == (19 : Int)), false), ((a0 == (12 : Int)), false), ((a0 == (10 : Int)), false), ((a0 == (2 : Int)), false), ((a0 == (1 : Int)), false), ((!y0_0), false), (dP (ZaA #[Value.agg #[vi a0, vi a1, vi a2, vi a3]] (a0) (a1) (a2) (a3)  y0_0  1), true)]) (by kernel_rfl) (Za (beq_iff_eq.2 (by have hu0 := uu a3; rw [Zah (by omega)]; exact Zaa (by omega))) <| Za (beq_iff_eq.2 (ZK ltA)) <| Za (beq_iff_eq.2 (Zag (by have hu0 := uu a3; omega))) <| Za (beq_iff_eq.2 (by have hu0 := uu a2; rw [Zah (by omega)]; exact Zaa (by omega))) <| Za (beq_iff_eq.2 (ZK ltA)) <| Za (beq_iff_eq.2 (Zag (by have hu0 := uu a2; omega))) <| Za (beq_iff_eq.2 (by have hu0 := uu a1; rw [Zah (by omega)]; exact Zaa (by omega))) <| Za (beq_iff_eq.2 (ZK ltA)) <| Za (beq_iff_eq.2 (Zag (by have hu0 := uu a1; omega))) <| Za (beq_iff_eq.2 (ZK ltA)) <| oT <| oF <| oF <| oF <| oF <| oF <| oF <| oF <| oF <| oF <| Za (Zb8 (by first | assumption | exact Decidable.not_not.1 (by assumption) | simp_all)) <| Za (Zg (ZaG #[Value.agg #[vi a0, vi a1, vi a2, vi a3]] (a0) (a1) (a2) (a3)  y0_0 N c0  1 rfl (by decide) (by decide))) Zb) rfl (by decide) (by rfl) ⟨Eq.trans (show (Value.tuple #[vs 0 0 ([a0, ((IntKind.u64.wrap a1) % (256 : Int)), ((IntKind.u64.wrap a2) % (256 : Int)), ((IntKind.u64.wrap a3) % (256 : Int))] : List Int).length ([a0, ((IntKind.u64.wrap a1) % (256 : Int)), ((IntKind.u64.wrap a2) % (256 : Int)), ((IntKind.u64.wrap a3) % (256 : Int))] : List Int).length, vq] : Value) = Value.tuple #[vs 0 0 4 4, vq] from (ZaD (Zf (Z2 rfl eqA eqA) (Zf rfl rfl)))) (by rfl), by rfl⟩ ⟨(Zaq (E := (Ze .u8)) _ (L := ([a0, ((IntKind.u64.wrap a1) % (256 : Int)), ((IntKind.u64.wrap a2) % (256 : Int)), ((IntKind.u64.wrap a3) % (256 : Int))] : List Int)) _ (show ([Value.int .u8 a0, Value.int .u8 ((IntKind.u64.wrap a1) % (256 : Int)), Value.int .u8 ((IntKind.u64.wrap a2) % (256 : Int)), Value.int .u8 ((IntKind.u64.wrap a3) % (256 : Int))] : List Value) = Zc (Ze .u8) ([a0, ((IntKind.u64.wrap a1) % (256 : Int)), ((IntKind.u64.wrap a2) % (256 : Int)), ((IntKind.u64.wrap a3) % (256 : Int))] : List Int) from rfl)), trivial⟩
            ·
             refine Zl (fun g12 => ?_) (fun g12 => ?_)
             ·
              exact Zk (r := (.r1 (([a0, (((IntKind.u64.wrap a1) / (256 : Int)) % (256 : Int)), ((IntKind.u64.wrap a1) % (256 : Int))] : List Int)) : Z1)) (fu := 4000) (orc := (Zh [(0, false), (1, false), (2, false), (3, false), (4, false), (5, false), (6, false), (7, false), (8, false), (9, false), (10, false), (11, true)] [(0, a0), (3, ((IntKind.u64.wrap a1) % (256 : Int))), (4, ((IntKind.u64.wrap a1) % (256 : Int))), (5, ((IntKind.u64.wrap a1) / (256 : Int))), (7, (((IntKind.u64.wrap a1) / (256 : Int)) % (256 : Int))), (8, (((IntKind.u64.wrap a1) / (256 : Int)) % (256 : Int))), (9, (((IntKind.u64.wrap a1) / (256 : Int)) / (256 : Int)))] [] [] [(0, (ZaF (a0) (a1) (a2) (a3)  y0_0  1))])) (live := [5]) (u := Value.tuple #[vs 5 0 3 3, vq]) (bl := [some (.cells [Value.int .u8 a0, Value.int .u8 (((IntKind.u64.wrap a1) / (256 : Int)) % (256 : Int)), Value.int .u8 ((IntKind.u64.wrap a1) % (256 : Int))] 5)]) (ob := [((IntKind.u64.wrap (Int.tdiv ((IntKind.u64.wrap a1) / (256 : Int)) (256 : Int))) == (((IntKind.u64.wrap a1) / (256 : Int)) / (256 : Int)), true), ((IntKind.u8.wrap (((IntKind.u64.wrap a1) / (256 : Int)) % (256 : Int))) == (((IntKind.u64.wrap a1) / (256 : Int)) % (256 : Int)), true), ((Int.tmod ((IntKind.u64.wrap a1) / (256 : Int)) (256 : Int)) == (((IntKind.u64.wrap a1) / (256 : Int)) % (256 : Int)), true), ((IntKind.u64.wrap (Int.tdiv (IntKind.u64.wrap a1) (256 : Int))) == ((IntKind.u64.wrap a1) / (256 : Int)), true), ((IntKind.u8.wrap ((IntKind.u64.wrap a1) % (256 : Int))) == ((IntKind.u64.wrap a1) % (256 : Int)), true), ((Int.tmod (IntKind.u64.wrap a1) (256 : Int)) == ((IntKind.u64.wrap a1) % (256 : Int)), true), ((IntKind.u8.wrap a0) == a0, true), ((a0 == (8 : Int)), true), ((a0 == (7 : Int)), false), ((a0 == (6 : Int)), false), ((a0 == (5 : Int)), false), ((a0 == (4 : Int)), false), ((a0 == (3 : Int)), false), ((a0 == (19 : Int)), false), ((a0 == (12 : Int)), false), ((a0 == (10 : Int)), false), ((a0 == (2 : Int)), false), ((a0 == (1 : Int)), false), ((!y0_0), false), (dP (ZaA #[Value.agg #[vi a0, vi a1, vi a2, vi a3]] (a0) (a1) (a2) (a3)  y0_0  1), true)]) (by kernel_rfl) (Za (beq_iff_eq.2 (by have hu0 := uu a1; rw [Zah (by omega)]; exact Zaa (by omega))) <| Za (beq_iff_eq.2 (ZK ltA)) <| Za (beq_iff_eq.2 (Zag (by have hu0 := uu a1; omega))) <| Za (beq_iff_eq.2 (by have hu0 := uu a1; rw [Zah (by omega)]; exact Zaa (by omega))) <| Za (beq_iff_eq.2 (ZK ltA)) <| Za (beq_iff_eq.2 (Zag (by have hu0 := uu a1; omega))) <| Za (beq_iff_eq.2 (ZK ltA)) <| oT <| oF <| oF <| oF <| oF <| oF <| oF <| oF <| oF <| oF <| oF <| Za (Zb8 (by first | assumption | exact Decidable.not_not.1 (by assumption) | simp_all)) <| Za (Zg (ZaG #[Value.agg #[vi a0, vi a1, vi a2, vi a3]] (a0) (a1) (a2) (a3)  y0_0 N c0  1 rfl (by decide) (by decide))) Zb) rfl (by decide) (by rfl) ⟨Eq.trans (show (Value.tuple #[vs 0 0 ([a0, (((IntKind.u64.wrap a1) / (256 : Int)) % (256 : Int)), ((IntKind.u64.wrap a1) % (256 : Int))] : List Int).length ([a0, (((IntKind.u64.wrap a1) / (256 : Int)) % (256 : Int)), ((IntKind.u64.wrap a1) % (256 : Int))] : List Int).length, vq] : Value) = Value.tuple #[vs 0 0 3 3, vq] from (ZaD (Zf (Z2 rfl eqA eqA) (Zf rfl rfl)))) (by rfl), by rfl⟩ ⟨(Zaq (E := (Ze .u8)) _ (L := ([a0, (((IntKind.u64.wrap a1) / (256 : Int)) % (256 : Int)), ((IntKind.u64.wrap a1) % (256 : Int))] : List Int)) _ (show ([Value.int .u8 a0, Value.int .u8 (((IntKind.u64.wrap a1) / (256 : Int)) % (256 : Int)), Value.int .u8 ((IntKind.u64.wrap a1) % (256 : Int))] : List Value) = Zc (Ze .u8) ([a0, (((IntKind.u64.wrap a1) / (256 : Int)) % (256 : Int)), ((IntKind.u64.wrap a1) % (256 : Int))] : List Int) from rfl)), trivial⟩
             ·
              refine Zl (fun g13 => ?_) (fun g13 => ?_)
              ·
               exact Zk (r := (.r1 (([a0, ((IntKind.u64.wrap a1) % (256 : Int)), (((IntKind.u64.wrap a2) / (256 : Int)) % (256 : Int)), ((IntKind.u64.wrap a2) % (256 : Int))] : List Int)) : Z1)) (fu := 4000) (orc := (Zh [(0, false), (1, false), (2, false), (3, false), (4, false), (5, false), (6, false), (7, false), (8, false), (9, false), (10, false), (11, false), (12, true)] [(0, a0), (3, ((IntKind.u64.wrap a1) % (256 : Int))), (4, ((IntKind.u64.wrap a1) % (256 : Int))), (5, ((IntKind.u64.wrap a1) / (256 : Int))), (9, ((IntKind.u64.wrap a2) % (256 : Int))), (10, ((IntKind.u64.wrap a2) % (256 : Int))), (11, ((IntKind.u64.wrap a2) / (256 : Int))), (13, (((IntKind.u64.wrap a2) / (256 : Int)) % (256 : Int))), (14, (((IntKind.u64.wrap a2) / (256 : Int)) % (256 : Int))), (15, (((IntKind.u64.wrap a2) / (256 : Int)) / (256 : Int)))] [] [] [(0, (ZaF (a0) (a1) (a2) (a3)  y0_0  1))])) (live := [7]) (u := Value.tuple #[vs 7 0 4 4, vq]) (bl := [some (.cells [Value.int .u8 a0, Value.int .u8 ((IntKind.u64.wrap a1) % (256 : Int)), Value.int .u8 (((IntKind.u64.wrap a2) / (256 : Int)) % (256 : Int)), Value.int .u8 ((IntKind.u64.wrap a2) % (256 : Int))] 5)]) (ob := [((IntKind.u64.wrap (Int.tdiv ((IntKind.u64.wrap a2) / (256 : Int)) (256 : Int))) == (((IntKind.u64.wrap a2) / (256 : Int)) / (256 : Int)), true), ((IntKind.u8.wrap (((IntKind.u64.wrap a2) / (256 : Int)) % (256 : Int))) == (((IntKind.u64.wrap a2) / (256 : Int)) % (256 : Int)), true), ((Int.tmod ((IntKind.u64.wrap a2) / (256 : Int)) (256 : Int)) == (((IntKind.u64.wrap a2) / (256 : Int)) % (256 : Int)), true), ((IntKind.u64.wrap (Int.tdiv (IntKind.u64.wrap a2) (256 : Int))) == ((IntKind.u64.wrap a2) / (256 : Int)), true), ((IntKind.u8.wrap ((IntKind.u64.wrap a2) % (256 : Int))) == ((IntKind.u64.wrap a2) % (256 : Int)), true), ((Int.tmod (IntKind.u64.wrap a2) (256 : Int)) == ((IntKind.u64.wrap a2) % (256 : Int)), true), ((IntKind.u64.wrap (Int.tdiv (IntKind.u64.wrap a1) (256 : Int))) == ((IntKind.u64.wrap a1) / (256 : Int)), true), ((IntKind.u8.wrap ((IntKind.u64.wrap a1) % (256 : Int))) == ((IntKind.u64.wrap a1) % (256 : Int)), true), ((Int.tmod (IntKind.u64.wrap a1) (256 : Int)) == ((IntKind.u64.wrap a1) % (256 : Int)), true), ((IntKind.u8.wrap a0) == a0, true), ((a0 == (9 : Int)), true), ((a0 == (8 : Int)), false), ((a0 == (7 : Int)), false), ((a0 == (6 : Int)), false), ((a0 == (5 : Int)), false), ((a0 == (4 : Int)), false), ((a0 == (3 : Int)), false), ((a0 == (19 : Int)), false), ((a0 == (12 : Int)), false), ((a0 == (10 : Int)), false), ((a0 == (2 : Int)), false), ((a0 == (1 : Int)), false), ((!y0_0), false), (dP (ZaA #[Value.agg #[vi a0, vi a1, vi a2, vi a3]] (a0) (a1) (a2) (a3)  y0_0  1), true)]) (by kernel_rfl) (Za (beq_iff_eq.2 (by have hu0 := uu a2; rw [Zah (by omega)]; exact Zaa (by omega))) <| Za (beq_iff_eq.2 (ZK ltA)) <| Za (beq_iff_eq.2 (Zag (by have hu0 := uu a2; omega))) <| Za (beq_iff_eq.2 (by have hu0 := uu a2; rw [Zah (by omega)]; exact Zaa (by omega))) <| Za (beq_iff_eq.2 (ZK ltA)) <| Za (beq_iff_eq.2 (Zag (by have hu0 := uu a2; omega))) <| Za (beq_iff_eq.2 (by have hu0 := uu a1; rw [Zah (by omega)]; exact Zaa (by omega))) <| Za (beq_iff_eq.2 (ZK ltA)) <| Za (beq_iff_eq.2 (Zag (by have hu0 := uu a1; omega))) <| Za (beq_iff_eq.2 (ZK ltA)) <| oT <| oF <| oF <| oF <| oF <| oF <| oF <| oF <| oF <| oF <| oF <| oF <| Za (Zb8 (by first | assumption | exact Decidable.not_not.1 (by assumption) | simp_all)) <| Za (Zg (ZaG #[Value.agg #[vi a0, vi a1, vi a2, vi a3]] (a0) (a1) (a2) (a3)  y0_0 N c0  1 rfl (by decide) (by decide))) Zb) rfl (by decide) (by rfl) ⟨Eq.trans (show (Value.tuple #[vs 0 0 ([a0, ((IntKind.u64.wrap a1) % (256 : Int)), (((IntKind.u64.wrap a2) / (256 : Int)) % (256 : Int)), ((IntKind.u64.wrap a2) % (256 : Int))] : List Int).length ([a0, ((IntKind.u64.wrap a1) % (256 : Int)), (((IntKind.u64.wrap a2) / (256 : Int)) % (256 : Int)), ((IntKind.u64.wrap a2) % (256 : Int))] : List Int).length, vq] : Value) = Value.tuple #[vs 0 0 4 4, vq] from (ZaD (Zf (Z2 rfl eqA eqA) (Zf rfl rfl)))) (by rfl), by rfl⟩ ⟨(Zaq (E := (Ze .u8)) _ (L := ([a0, ((IntKind.u64.wrap a1) % (256 : Int)), (((IntKind.u64.wrap a2) / (256 : Int)) % (256 : Int)), ((IntKind.u64.wrap a2) % (256 : Int))] : List Int)) _ (show ([Value.int .u8 a0, Value.int .u8 ((IntKind.u64.wrap a1) % (256 : Int)), Value.int .u8 (((IntKind.u64.wrap a2) / (256 : Int)) % (256 : Int)), Value.int .u8 ((IntKind.u64.wrap a2) % (256 : Int))] : List Value) = Zc (Ze .u8) ([a0, ((IntKind.u64.wrap a1) % (256 : Int)), (((IntKind.u64.wrap a2) / (256 : Int)) % (256 : Int)), ((IntKind.u64.wrap a2) % (256 : Int))] : List Int) from rfl)), trivial⟩
              ·
               refine Zl (fun g14 => ?_) (fun g14 => ?_)
               ·
                exact Zk (r := (.r1 (([a0, ((IntKind.u64.wrap a1) % (256 : Int)), ((IntKind.u64.wrap a2) % (256 : Int)), ((((IntKind.u64.wrap a3) / (256 : Int)) / (256 : Int)) % (256 : Int)), (((IntKind.u64.wrap a3) / (256 : Int)) % (256 : Int)), ((IntKind.u64.wrap a3) % (256 : Int))] : List Int)) : Z1)) (fu := 4000) (orc := (Zh [(0, false), (1, false), (2, false), (3, false), (4, false), (5, false), (6, false), (7, false), (8, false), (9, false), (10, false), (11, false), (12, false), (13, true)] [(0, a0), (3, ((IntKind.u64.wrap a1) % (256 : Int))), (4, ((IntKind.u64.wrap a1) % (256 : Int))), (5, ((IntKind.u64.wrap a1) / (256 : Int))), (9, ((IntKind.u64.wrap a2) % (256 : Int))), (10, ((IntKind.u64.wrap a2) % (256 : Int))), (11, ((IntKind.u64.wrap a2) / (256 : Int))), (15, ((IntKind.u64.wrap a3) % (256 : Int))), (16, ((IntKind.u64.wrap a3) % (256 : Int))), (17, ((IntKind.u64.wrap a3) / (256 : Int))), (19, (((IntKind.u64.wrap a3) / (256 : Int)) % (256 : Int))), (20, (((IntKind.u64.wrap a3) / (256 : Int)) % (256 : Int))), (21, (((IntKind.u64.wrap a3) / (256 : Int)) / (256 : Int))), (23, ((((IntKind.u64.wrap a3) / (256 : Int)) / (256 : Int)) % (256 : Int))), (24, ((((IntKind.u64.wrap a3) / (256 : Int)) / (256 : Int)) % (256 : Int))), (25, ((((IntKind.u64.wrap a3) / (256 : Int)) / (256 : Int)) / (256 : Int)))] [] [] [(0, (ZaF (a0) (a1) (a2) (a3)  y0_0  1))])) (live := [9]) (u := Value.tuple #[vs 9 0 6 6, vq]) (bl := [some (.cells [Value.int .u8 a0, Value.int .u8 ((IntKind.u64.wrap a1) % (256 : Int)), Value.int .u8 ((IntKind.u64.wrap a2) % (256 : Int)), Value.int .u8 ((((IntKind.u64.wrap a3) / (256 : Int)) / (256 : Int)) % (256 : Int)), Value.int .u8 (((IntKind.u64.wrap a3) / (256 : Int)) % (256 : Int)), Value.int .u8 ((IntKind.u64.wrap a3) % (256 : Int))] 5)]) (ob := [((IntKind.u64.wrap (Int.tdiv (((IntKind.u64.wrap a3) / (256 : Int)) / (256 : Int)) (256 : Int))) == ((((IntKind.u64.wrap a3) / (256 : Int)) / (256 : Int)) / (256 : Int)), true), ((IntKind.u8.wrap ((((IntKind.u64.wrap a3) / (256 : Int)) / (256 : Int)) % (256 : Int))) == ((((IntKind.u64.wrap a3) / (256 : Int)) / (256 : Int)) % (256 : Int)), true), ((Int.tmod (((IntKind.u64.wrap a3) / (256 : Int)) / (256 : Int)) (256 : Int)) == ((((IntKind.u64.wrap a3) / (256 : Int)) / (256 : Int)) % (256 : Int)), true), ((IntKind.u64.wrap (Int.tdiv ((IntKind.u64.wrap a3) / (256 : Int)) (256 : Int))) == (((IntKind.u64.wrap a3) / (256 : Int)) / (256 : Int)), true), ((IntKind.u8.wrap (((IntKind.u64.wrap a3) / (256 : Int)) % (256 : Int))) == (((IntKind.u64.wrap a3) / (256 : Int)) % (256 : Int)), true), ((Int.tmod ((IntKind.u64.wrap a3) / (256 : Int)) (256 : Int)) == (((IntKind.u64.wrap a3) / (256 : Int)) % (256 : Int)), true), ((IntKind.u64.wrap (Int.tdiv (IntKind.u64.wrap a3) (256 : Int))) == ((IntKind.u64.wrap a3) / (256 : Int)), true), ((IntKind.u8.wrap ((IntKind.u64.wrap a3) % (256 : Int))) == ((IntKind.u64.wrap a3) % (256 : Int)), true), ((Int.tmod (IntKind.u64.wrap a3) (256 : Int)) == ((IntKind.u64.wrap a3) % (256 : Int)), true), ((IntKind.u64.wrap (Int.tdiv (IntKind.u64.wrap a2) (256 : Int))) == ((IntKind.u64.wrap a2) / (256 : Int)), true), ((IntKind.u8.wrap ((IntKind.u64.wrap a2) % (256 : Int))) == ((IntKind.u64.wrap a2) % (256 : Int)), true), ((Int.tmod (IntKind.u64.wrap a2) (256 : Int)) == ((IntKind.u64.wrap a2) % (256 : Int)), true), ((IntKind.u64.wrap (Int.tdiv (IntKind.u64.wrap a1) (256 : Int))) == ((IntKind.u64.wrap a1) / (256 : Int)), true), ((IntKind.u8.wrap ((IntKind.u64.wrap a1) % (256 : Int))) == ((IntKind.u64.wrap a1) % (256 : Int)), true), ((Int.tmod (IntKind.u64.wrap a1) (256 : Int)) == ((IntKind.u64.wrap a1) % (256 : Int)), true), ((IntKind.u8.wrap a0) == a0, true), ((a0 == (11 : Int)), true), ((a0 == (9 : Int)), false), ((a0 == (8 : Int)), false), ((a0 == (7 : Int)), false), ((a0 == (6 : Int)), false), ((a0 == (5 : Int)), false), ((a0 == (4 : Int)), false), ((a0 == (3 : Int)), false), ((a0 == (19 : Int)), false), ((a0 == (12 : Int)), false), ((a0 == (10 : Int)), false), ((a0 == (2 : Int)), false), ((a0 == (1 : Int)), false), ((!y0_0), false), (dP (ZaA #[Value.agg #[vi a0, vi a1, vi a2, vi a3]] (a0) (a1) (a2) (a3)  y0_0  1), true)]) (by kernel_rfl) (Za (beq_iff_eq.2 (by have hu0 := uu a3; rw [Zah (by omega)]; exact Zaa (by omega))) <| Za (beq_iff_eq.2 (ZK ltA)) <| Za (beq_iff_eq.2 (Zag (by have hu0 := uu a3; omega))) <| Za (beq_iff_eq.2 (by have hu0 := uu a3; rw [Zah (by omega)]; exact Zaa (by omega))) <| Za (beq_iff_eq.2 (ZK ltA)) <| Za (beq_iff_eq.2 (Zag (by have hu0 := uu a3; omega))) <| Za (beq_iff_eq.2 (by have hu0 := uu a3; rw [Zah (by omega)]; exact Zaa (by omega))) <| Za (beq_iff_eq.2 (ZK ltA)) <| Za (beq_iff_eq.2 (Zag (by have hu0 := uu a3; omega))) <| Za (beq_iff_eq.2 (by have hu0 := uu a2; rw [Zah (by omega)]; exact Zaa (by omega))) <| Za (beq_iff_eq.2 (ZK ltA)) <| Za (beq_iff_eq.2 (Zag (by have hu0 := uu a2; omega))) <| Za (beq_iff_eq.2 (by have hu0 := uu a1; rw [Zah (by omega)]; exact Zaa (by omega))) <| Za (beq_iff_eq.2 (ZK ltA)) <| Za (beq_iff_eq.2 (Zag (by have hu0 := uu a1; omega))) <| Za (beq_iff_eq.2 (ZK ltA)) <| oT <| oF <| oF <| oF <| oF <| oF <| oF <| oF <| oF <| oF <| oF <| oF <| oF <| Za (Zb8 (by first | assumption | exact Decidable.not_not.1 (by assumption) | simp_all)) <| Za (Zg (ZaG #[Value.agg #[vi a0, vi a1, vi a2, vi a3]] (a0) (a1) (a2) (a3)  y0_0 N c0  1 rfl (by decide) (by decide))) Zb) rfl (by decide) (by rfl) ⟨Eq.trans (show (Value.tuple #[vs 0 0 ([a0, ((IntKind.u64.wrap a1) % (256 : Int)), ((IntKind.u64.wrap a2) % (256 : Int)), ((((IntKind.u64.wrap a3) / (256 : Int)) / (256 : Int)) % (256 : Int)), (((IntKind.u64.wrap a3) / (256 : Int)) % (256 : Int)), ((IntKind.u64.wrap a3) % (256 : Int))] : List Int).length ([a0, ((IntKind.u64.wrap a1) % (256 : Int)), ((IntKind.u64.wrap a2) % (256 : Int)), ((((IntKind.u64.wrap a3) / (256 : Int)) / (256 : Int)) % (256 : Int)), (((IntKind.u64.wrap a3) / (256 : Int)) % (256 : Int)), ((IntKind.u64.wrap a3) % (256 : Int))] : List Int).length, vq] : Value) = Value.tuple #[vs 0 0 6 6, vq] from (ZaD (Zf (Z2 rfl eqA eqA) (Zf rfl rfl)))) (by rfl), by rfl⟩ ⟨(Zaq (E := (Ze .u8)) _ (L := ([a0, ((IntKind.u64.wrap a1) % (256 : Int)), ((IntKind.u64.wrap a2) % (256 : Int)), ((((IntKind.u64.wrap a3) / (256 : Int)) / (256 : Int)) % (256 : Int)), (((IntKind.u64.wrap a3) / (256 : Int)) % (256 : Int)), ((IntKind.u64.wrap a3) % (256 : Int))] : List Int)) _ (show ([Value.int .u8 a0, Value.int .u8 ((IntKind.u64.wrap a1) % (256 : Int)), Value.int .u8 ((IntKind.u64.wrap a2) % (256 : Int)), Value.int .u8 ((((IntKind.u64.wrap a3) / (256 : Int)) / (256 : Int)) % (256 : Int)), Value.int .u8 (((IntKind.u64.wrap a3) / (256 : Int)) % (256 : Int)), Value.int .u8 ((IntKind.u64.wrap a3) % (256 : Int))] : List Value) = Zc (Ze .u8) ([a0, ((IntKind.u64.wrap a1) % (256 : Int)), ((IntKind.u64.wrap a2) % (256 : Int)), ((((IntKind.u64.wrap a3) / (256 : Int)) / (256 : Int)) % (256 : Int)), (((IntKind.u64.wrap a3) / (256 : Int)) % (256 : Int)), ((IntKind.u64.wrap a3) % (256 : Int))] : List Int) from rfl)), trivial⟩
               ·
                refine Zl (fun g15 => ?_) (fun g15 => ?_)
                ·
                 exact Zk (r := (.r1 (([a0, ((IntKind.u64.wrap a1) % (256 : Int)), ((IntKind.u64.wrap a2) % (256 : Int)), ((IntKind.u64.wrap a3) % (256 : Int))] : List Int)) : Z1)) (fu := 4000) (orc := (Zh [(0, false), (1, false), (2, false), (3, false), (4, false), (5, false), (6, false), (7, false), (8, false), (9, false), (10, false), (11, false), (12, false), (13, false), (14, true)] [(0, a0), (3, ((IntKind.u64.wrap a1) % (256 : Int))), (4, ((IntKind.u64.wrap a1) % (256 : Int))), (5, ((IntKind.u64.wrap a1) / (256 : Int))), (9, ((IntKind.u64.wrap a2) % (256 : Int))), (10, ((IntKind.u64.wrap a2) % (256 : Int))), (11, ((IntKind.u64.wrap a2) / (256 : Int))), (15, ((IntKind.u64.wrap a3) % (256 : Int))), (16, ((IntKind.u64.wrap a3) % (256 : Int))), (17, ((IntKind.u64.wrap a3) / (256 : Int)))] [] [] [(0, (ZaF (a0) (a1) (a2) (a3)  y0_0  1))])) (live := [9]) (u := Value.tuple #[vs 9 0 4 4, vq]) (bl := [some (.cells [Value.int .u8 a0, Value.int .u8 ((IntKind.u64.wrap a1) % (256 : Int)), Value.int .u8 ((IntKind.u64.wrap a2) % (256 : Int)), Value.int .u8 ((IntKind.u64.wrap a3) % (256 : Int))] 5)]) (ob := [((IntKind.u64.wrap (Int.tdiv (IntKind.u64.wrap a3) (256 : Int))) == ((IntKind.u64.wrap a3) / (256 : Int)), true), ((IntKind.u8.wrap ((IntKind.u64.wrap a3) % (256 : Int))) == ((IntKind.u64.wrap a3) % (256 : Int)), true), ((Int.tmod (IntKind.u64.wrap a3) (256 : Int)) == ((IntKind.u64.wrap a3) % (256 : Int)), true), ((IntKind.u64.wrap (Int.tdiv (IntKind.u64.wrap a2) (256 : Int))) == ((IntKind.u64.wrap a2) / (256 : Int)), true), ((IntKind.u8.wrap ((IntKind.u64.wrap a2) % (256 : Int))) == ((IntKind.u64.wrap a2) % (256 : Int)), true), ((Int.tmod (IntKind.u64.wrap a2) (256 : Int)) == ((IntKind.u64.wrap a2) % (256 : Int)), true), ((IntKind.u64.wrap (Int.tdiv (IntKind.u64.wrap a1) (256 : Int))) == ((IntKind.u64.wrap a1) / (256 : Int)), true), ((IntKind.u8.wrap ((IntKind.u64.wrap a1) % (256 : Int))) == ((IntKind.u64.wrap a1) % (256 : Int)), true), ((Int.tmod (IntKind.u64.wrap a1) (256 : Int)) == ((IntKind.u64.wrap a1) % (256 : Int)), true), ((IntKind.u8.wrap a0) == a0, true), ((a0 == (13 : Int)), true), ((a0 == (11 : Int)), false), ((a0 == (9 : Int)), false), ((a0 == (8 : Int)), false), ((a0 == (7 : Int)), false), ((a0 == (6 : Int)), false), ((a0 == (5 : Int)), false), ((a0 == (4 : Int)), false), ((a0 == (3 : Int)), false), ((a0 == (19 : Int)), false), ((a0 == (12 : Int)), false), ((a0 == (10 : Int)), false), ((a0 == (2 : Int)), false), ((a0 == (1 : Int)), false), ((!y0_0), false), (dP (ZaA #[Value.agg #[vi a0, vi a1, vi a2, vi a3]] (a0) (a1) (a2) (a3)  y0_0  1), true)]) (by kernel_rfl) (Za (beq_iff_eq.2 (by have hu0 := uu a3; rw [Zah (by omega)]; exact Zaa (by omega))) <| Za (beq_iff_eq.2 (ZK ltA)) <| Za (beq_iff_eq.2 (Zag (by have hu0 := uu a3; omega))) <| Za (beq_iff_eq.2 (by have hu0 := uu a2; rw [Zah (by omega)]; exact Zaa (by omega))) <| Za (beq_iff_eq.2 (ZK ltA)) <| Za (beq_iff_eq.2 (Zag (by have hu0 := uu a2; omega))) <| Za (beq_iff_eq.2 (by have hu0 := uu a1; rw [Zah (by omega)]; exact Zaa (by omega))) <| Za (beq_iff_eq.2 (ZK ltA)) <| Za (beq_iff_eq.2 (Zag (by have hu0 := uu a1; omega))) <| Za (beq_iff_eq.2 (ZK ltA)) <| oT <| oF <| oF <| oF <| oF <| oF <| oF <| oF <| oF <| oF <| oF <| oF <| oF <| oF <| Za (Zb8 (by first | assumption | exact Decidable.not_not.1 (by assumption) | simp_all)) <| Za (Zg (ZaG #[Value.agg #[vi a0, vi a1, vi a2, vi a3]] (a0) (a1) (a2) (a3)  y0_0 N c0  1 rfl (by decide) (by decide))) Zb) rfl (by decide) (by rfl) ⟨Eq.trans (show (Value.tuple #[vs 0 0 ([a0, ((IntKind.u64.wrap a1) % (256 : Int)), ((IntKind.u64.wrap a2) % (256 : Int)), ((IntKind.u64.wrap a3) % (256 : Int))] : List Int).length ([a0, ((IntKind.u64.wrap a1) % (256 : Int)), ((IntKind.u64.wrap a2) % (256 : Int)), ((IntKind.u64.wrap a3) % (256 : Int))] : List Int).length, vq] : Value) = Value.tuple #[vs 0 0 4 4, vq] from (ZaD (Zf (Z2 rfl eqA eqA) (Zf rfl rfl)))) (by rfl), by rfl⟩ ⟨(Zaq (E := (Ze .u8)) _ (L := ([a0, ((IntKind.u64.wrap a1) % (256 : Int)), ((IntKind.u64.wrap a2) % (256 : Int)), ((IntKind.u64.wrap a3) % (256 : Int))] : List Int)) _ (show ([Value.int .u8 a0, Value.int .u8 ((IntKind.u64.wrap a1) % (256 : Int)), Value.int .u8 ((IntKind.u64.wrap a2) % (256 : Int)), Value.int .u8 ((IntKind.u64.wrap a3) % (256 : Int))] : List Value) = Zc (Ze .u8) ([a0, ((IntKind.u64.wrap a1) % (256 : Int)), ((IntKind.u64.wrap a2) % (256 : Int)), ((IntKind.u64.wrap a3) % (256 : Int))] : List Int) from rfl)), trivial⟩
                ·
                 refine Zl (fun g16 => ?_) (fun g16 => ?_)
                 ·
                  exact Zk (r := (.r1 (([a0, ((IntKind.u64.wrap a1) % (256 : Int)), ((IntKind.u64.wrap a2) % (256 : Int)), ((IntKind.u64.wrap a3) % (256 : Int))] : List Int)) : Z1)) (fu := 4000) (orc := (Zh [(0, false), (1, false), (2, false), (3, false), (4, false), (5, false), (6, false), (7, false), (8, false), (9, false), (10, false), (11, false), (12, false), (13, false), (14, false), (15, true)] [(0, a0), (3, ((IntKind.u64.wrap a1) % (256 : Int))), (4, ((IntKind.u64.wrap a1) % (256 : Int))), (5, ((IntKind.u64.wrap a1) / (256 : Int))), (9, ((IntKind.u64.wrap a2) % (256 : Int))), (10, ((IntKind.u64.wrap a2) % (256 : Int))), (11, ((IntKind.u64.wrap a2) / (256 : Int))), (15, ((IntKind.u64.wrap a3) % (256 : Int))), (16, ((IntKind.u64.wrap a3) % (256 : Int))), (17, ((IntKind.u64.wrap a3) / (256 : Int)))] [] [] [(0, (ZaF (a0) (a1) (a2) (a3)  y0_0  1))])) (live := [9]) (u := Value.tuple #[vs 9 0 4 4, vq]) (bl := [some (.cells [Value.int .u8 a0, Value.int .u8 ((IntKind.u64.wrap a1) % (256 : Int)), Value.int .u8 ((IntKind.u64.wrap a2) % (256 : Int)), Value.int .u8 ((IntKind.u64.wrap a3) % (256 : Int))] 5)]) (ob := [((IntKind.u64.wrap (Int.tdiv (IntKind.u64.wrap a3) (256 : Int))) == ((IntKind.u64.wrap a3) / (256 : Int)), true), ((IntKind.u8.wrap ((IntKind.u64.wrap a3) % (256 : Int))) == ((IntKind.u64.wrap a3) % (256 : Int)), true), ((Int.tmod (IntKind.u64.wrap a3) (256 : Int)) == ((IntKind.u64.wrap a3) % (256 : Int)), true), ((IntKind.u64.wrap (Int.tdiv (IntKind.u64.wrap a2) (256 : Int))) == ((IntKind.u64.wrap a2) / (256 : Int)), true), ((IntKind.u8.wrap ((IntKind.u64.wrap a2) % (256 : Int))) == ((IntKind.u64.wrap a2) % (256 : Int)), true), ((Int.tmod (IntKind.u64.wrap a2) (256 : Int)) == ((IntKind.u64.wrap a2) % (256 : Int)), true), ((IntKind.u64.wrap (Int.tdiv (IntKind.u64.wrap a1) (256 : Int))) == ((IntKind.u64.wrap a1) / (256 : Int)), true), ((IntKind.u8.wrap ((IntKind.u64.wrap a1) % (256 : Int))) == ((IntKind.u64.wrap a1) % (256 : Int)), true), ((Int.tmod (IntKind.u64.wrap a1) (256 : Int)) == ((IntKind.u64.wrap a1) % (256 : Int)), true), ((IntKind.u8.wrap a0) == a0, true), ((a0 == (14 : Int)), true), ((a0 == (13 : Int)), false), ((a0 == (11 : Int)), false), ((a0 == (9 : Int)), false), ((a0 == (8 : Int)), false), ((a0 == (7 : Int)), false), ((a0 == (6 : Int)), false), ((a0 == (5 : Int)), false), ((a0 == (4 : Int)), false), ((a0 == (3 : Int)), false), ((a0 == (19 : Int)), false), ((a0 == (12 : Int)), false), ((a0 == (10 : Int)), false), ((a0 == (2 : Int)), false), ((a0 == (1 : Int)), false), ((!y0_0), false), (dP (ZaA #[Value.agg #[vi a0, vi a1, vi a2, vi a3]] (a0) (a1) (a2) (a3)  y0_0  1), true)]) (by kernel_rfl) (Za (beq_iff_eq.2 (by have hu0 := uu a3; rw [Zah (by omega)]; exact Zaa (by omega))) <| Za (beq_iff_eq.2 (ZK ltA)) <| Za (beq_iff_eq.2 (Zag (by have hu0 := uu a3; omega))) <| Za (beq_iff_eq.2 (by have hu0 := uu a2; rw [Zah (by omega)]; exact Zaa (by omega))) <| Za (beq_iff_eq.2 (ZK ltA)) <| Za (beq_iff_eq.2 (Zag (by have hu0 := uu a2; omega))) <| Za (beq_iff_eq.2 (by have hu0 := uu a1; rw [Zah (by omega)]; exact Zaa (by omega))) <| Za (beq_iff_eq.2 (ZK ltA)) <| Za (beq_iff_eq.2 (Zag (by have hu0 := uu a1; omega))) <| Za (beq_iff_eq.2 (ZK ltA)) <| oT <| oF <| oF <| oF <| oF <| oF <| oF <| oF <| oF <| oF <| oF <| oF <| oF <| oF <| oF <| Za (Zb8 (by first | assumption | exact Decidable.not_not.1 (by assumption) | simp_all)) <| Za (Zg (ZaG #[Value.agg #[vi a0, vi a1, vi a2, vi a3]] (a0) (a1) (a2) (a3)  y0_0 N c0  1 rfl (by decide) (by decide))) Zb) rfl (by decide) (by rfl) ⟨Eq.trans (show (Value.tuple #[vs 0 0 ([a0, ((IntKind.u64.wrap a1) % (256 : Int)), ((IntKind.u64.wrap a2) % (256 : Int)), ((IntKind.u64.wrap a3) % (256 : Int))] : List Int).length ([a0, ((IntKind.u64.wrap a1) % (256 : Int)), ((IntKind.u64.wrap a2) % (256 : Int)), ((IntKind.u64.wrap a3) % (256 : Int))] : List Int).length, vq] : Value) = Value.tuple #[vs 0 0 4 4, vq] from (ZaD (Zf (Z2 rfl eqA eqA) (Zf rfl rfl)))) (by rfl), by rfl⟩ ⟨(Zaq (E := (Ze .u8)) _ (L := ([a0, ((IntKind.u64.wrap a1) % (256 : Int)), ((IntKind.u64.wrap a2) % (256 : Int)), ((IntKind.u64.wrap a3) % (256 : Int))] : List Int)) _ (show ([Value.int .u8 a0, Value.int .u8 ((IntKind.u64.wrap a1) % (256 : Int)), Value.int .u8 ((IntKind.u64.wrap a2) % (256 : Int)), Value.int .u8 ((IntKind.u64.wrap a3) % (256 : Int))] : List Value) = Zc (Ze .u8) ([a0, ((IntKind.u64.wrap a1) % (256 : Int)), ((IntKind.u64.wrap a2) % (256 : Int)), ((IntKind.u64.wrap a3) % (256 : Int))] : List Int) from rfl)), trivial⟩
                 ·
                  refine Zl (fun g17 => ?_) (fun g17 => ?_)
                  ·
                   exact Zk (r := (.r1 (([a0] : List Int)) : Z1)) (fu := 4000) (orc := (Zh [(0, false), (1, false), (2, false), (3, false), (4, false), (5, false), (6, false), (7, false), (8, false), (9, false), (10, false), (11, false), (12, false), (13, false), (14, false), (15, false), (16, true)] [(0, a0)] [] [] [(0, (ZaF (a0) (a1) (a2) (a3)  y0_0  1))])) (live := [3]) (u := Value.tuple #[vs 3 0 1 1, vq]) (bl := [some (.cells [Value.int .u8 a0] 5)]) (ob := [((IntKind.u8.wrap a0) == a0, true), ((a0 == (15 : Int)), true), ((a0 == (14 : Int)), false), ((a0 == (13 : Int)), false), ((a0 == (11 : Int)), false), ((a0 == (9 : Int)), false), ((a0 == (8 : Int)), false), ((a0 == (7 : Int)), false), ((a0 == (6 : Int)), false), ((a0 == (5 : Int)), false), ((a0 == (4 : Int)), false), ((a0 == (3 : Int)), false), ((a0 == (19 : Int)), false), ((a0 == (12 : Int)), false), ((a0 == (10 : Int)), false), ((a0 == (2 : Int)), false), ((a0 == (1 : Int)), false), ((!y0_0), false), (dP (ZaA #[Value.agg #[vi a0, vi a1, vi a2, vi a3]] (a0) (a1) (a2) (a3)  y0_0  1), true)]) (by kernel_rfl) (Za (beq_iff_eq.2 (ZK ltA)) <| oT <| oF <| oF <| oF <| oF <| oF <| oF <| oF <| oF <| oF <| oF <| oF <| oF <| oF <| oF <| oF <| Za (Zb8 (by first | assumption | exact Decidable.not_not.1 (by assumption) | simp_all)) <| Za (Zg (ZaG #[Value.agg #[vi a0, vi a1, vi a2, vi a3]] (a0) (a1) (a2) (a3)  y0_0 N c0  1 rfl (by decide) (by decide))) Zb) rfl (by decide) (by rfl) ⟨Eq.trans (show (Value.tuple #[vs 0 0 ([a0] : List Int).length ([a0] : List Int).length, vq] : Value) = Value.tuple #[vs 0 0 1 1, vq] from (ZaD (Zf (Z2 rfl eqA eqA) (Zf rfl rfl)))) (by rfl), by rfl⟩ ⟨(Zaq (E := (Ze .u8)) _ (L := ([a0] : List Int)) _ (show ([Value.int .u8 a0] : List Value) = Zc (Ze .u8) ([a0] : List Int) from rfl)), trivial⟩
                  ·
                   refine Zl (fun g18 => ?_) (fun g18 => ?_)
                   ·
                    exact Zk (r := (.r1 (([a0] : List Int)) : Z1)) (fu := 4000) (orc := (Zh [(0, false), (1, false), (2, false), (3, false), (4, false), (5, false), (6, false), (7, false), (8, false), (9, false), (10, false), (11, false), (12, false), (13, false), (14, false), (15, false), (16, false), (17, true)] [(0, a0)] [] [] [(0, (ZaF (a0) (a1) (a2) (a3)  y0_0  1))])) (live := [3]) (u := Value.tuple #[vs 3 0 1 1, vq]) (bl := [some (.cells [Value.int .u8 a0] 5)]) (ob := [((IntKind.u8.wrap a0) == a0, true), ((a0 == (16 : Int)), true), ((a0 == (15 : Int)), false), ((a0 == (14 : Int)), false), ((a0 == (13 : Int)), false), ((a0 == (11 : Int)), false), ((a0 == (9 : Int)), false), ((a0 == (8 : Int)), false), ((a0 == (7 : Int)), false), ((a0 == (6 : Int)), false), ((a0 == (5 : Int)), false), ((a0 == (4 : Int)), false), ((a0 == (3 : Int)), false), ((a0 == (19 : Int)), false), ((a0 == (12 : Int)), false), ((a0 == (10 : Int)), false), ((a0 == (2 : Int)), false), ((a0 == (1 : Int)), false), ((!y0_0), false), (dP (ZaA #[Value.agg #[vi a0, vi a1, vi a2, vi a3]] (a0) (a1) (a2) (a3)  y0_0  1), true)]) (by kernel_rfl) (Za (beq_iff_eq.2 (ZK ltA)) <| oT <| oF <| oF <| oF <| oF <| oF <| oF <| oF <| oF <| oF <| oF <| oF <| oF <| oF <| oF <| oF <| oF <| Za (Zb8 (by first | assumption | exact Decidable.not_not.1 (by assumption) | simp_all)) <| Za (Zg (ZaG #[Value.agg #[vi a0, vi a1, vi a2, vi a3]] (a0) (a1) (a2) (a3)  y0_0 N c0  1 rfl (by decide) (by decide))) Zb) rfl (by decide) (by rfl) ⟨Eq.trans (show (Value.tuple #[vs 0 0 ([a0] : List Int).length ([a0] : List Int).length, vq] : Value) = Value.tuple #[vs 0 0 1 1, vq] from (ZaD (Zf (Z2 rfl eqA eqA) (Zf rfl rfl)))) (by rfl), by rfl⟩ ⟨(Zaq (E := (Ze .u8)) _ (L := ([a0] : List Int)) _ (show ([Value.int .u8 a0] : List Value) = Zc (Ze .u8) ([a0] : List Int) from rfl)), trivial⟩
                   ·
                    refine Zl (fun g19 => ?_) (fun g19 => ?_)
                    ·
                     exact Zk (r := (.r1 (([a0] : List Int)) : Z1)) (fu := 4000) (orc := (Zh [(0, false), (1, false), (2, false), (3, false), (4, false), (5, false), (6, false), (7, false), (8, false), (9, false), (10, false), (11, false), (12, false), (13, false), (14, false), (15, false), (16, false), (17, false), (18, true)] [(0, a0)] [] [] [(0, (ZaF (a0) (a1) (a2) (a3)  y0_0  1))])) (live := [3]) (u := Value.tuple #[vs 3 0 1 1, vq]) (bl := [some (.cells [Value.int .u8 a0] 5)]) (ob := [((IntKind.u8.wrap a0) == a0, true), ((a0 == (17 : Int)), true), ((a0 == (16 : Int)), false), ((a0 == (15 : Int)), false), ((a0 == (14 : Int)), false), ((a0 == (13 : Int)), false), ((a0 == (11 : Int)), false), ((a0 == (9 : Int)), false), ((a0 == (8 : Int)), false), ((a0 == (7 : Int)), false), ((a0 == (6 : Int)), false), ((a0 == (5 : Int)), false), ((a0 == (4 : Int)), false), ((a0 == (3 : Int)), false), ((a0 == (19 : Int)), false), ((a0 == (12 : Int)), false), ((a0 == (10 : Int)), false), ((a0 == (2 : Int)), false), ((a0 == (1 : Int)), false), ((!y0_0), false), (dP (ZaA #[Value.agg #[vi a0, vi a1, vi a2, vi a3]] (a0) (a1) (a2) (a3)  y0_0  1), true)]) (by kernel_rfl) (Za (beq_iff_eq.2 (ZK ltA)) <| oT <| oF <| oF <| oF <| oF <| oF <| oF <| oF <| oF <| oF <| oF <| oF <| oF <| oF <| oF <| oF <| oF <| oF <| Za (Zb8 (by first | assumption | exact Decidable.not_not.1 (by assumption) | simp_all)) <| Za (Zg (ZaG #[Value.agg #[vi a0, vi a1, vi a2, vi a3]] (a0) (a1) (a2) (a3)  y0_0 N c0  1 rfl (by decide) (by decide))) Zb) rfl (by decide) (by rfl) ⟨Eq.trans (show (Value.tuple #[vs 0 0 ([a0] : List Int).length ([a0] : List Int).length, vq] : Value) = Value.tuple #[vs 0 0 1 1, vq] from (ZaD (Zf (Z2 rfl eqA eqA) (Zf rfl rfl)))) (by rfl), by rfl⟩ ⟨(Zaq (E := (Ze .u8)) _ (L := ([a0] : List Int)) _ (show ([Value.int .u8 a0] : List Value) = Zc (Ze .u8) ([a0] : List Int) from rfl)), trivial⟩
                    ·
                     refine Zl (fun g20 => ?_) (fun g20 => ?_)
                     ·
                      exact Zk (r := (.r1 (([a0] : List Int)) : Z1)) (fu := 4000) (orc := (Zh [(0, false), (1, false), (2, false), (3, false), (4, false), (5, false), (6, false), (7, false), (8, false), (9, false), (10, false), (11, false), (12, false), (13, false), (14, false), (15, false), (16, false), (17, false), (18, false), (19, true)] [(0, a0)] [] [] [(0, (ZaF (a0) (a1) (a2) (a3)  y0_0  1))])) (live := [3]) (u := Value.tuple #[vs 3 0 1 1, vq]) (bl := [some (.cells [Value.int .u8 a0] 5)]) (ob := [((IntKind.u8.wrap a0) == a0, true), ((a0 == (18 : Int)), true), ((a0 == (17 : Int)), false), ((a0 == (16 : Int)), false), ((a0 == (15 : Int)), false), ((a0 == (14 : Int)), false), ((a0 == (13 : Int)), false), ((a0 == (11 : Int)), false), ((a0 == (9 : Int)), false), ((a0 == (8 : Int)), false), ((a0 == (7 : Int)), false), ((a0 == (6 : Int)), false), ((a0 == (5 : Int)), false), ((a0 == (4 : Int)), false), ((a0 == (3 : Int)), false), ((a0 == (19 : Int)), false), ((a0 == (12 : Int)), false), ((a0 == (10 : Int)), false), ((a0 == (2 : Int)), false), ((a0 == (1 : Int)), false), ((!y0_0), false), (dP (ZaA #[Value.agg #[vi a0, vi a1, vi a2, vi a3]] (a0) (a1) (a2) (a3)  y0_0  1), true)]) (by kernel_rfl) (Za (beq_iff_eq.2 (ZK ltA)) <| oT <| oF <| oF <| oF <| oF <| oF <| oF <| oF <| oF <| oF <| oF <| oF <| oF <| oF <| oF <| oF <| oF <| oF <| oF <| Za (Zb8 (by first | assumption | exact Decidable.not_not.1 (by assumption) | simp_all)) <| Za (Zg (ZaG #[Value.agg #[vi a0, vi a1, vi a2, vi a3]] (a0) (a1) (a2) (a3)  y0_0 N c0  1 rfl (by decide) (by decide))) Zb) rfl (by decide) (by rfl) ⟨Eq.trans (show (Value.tuple #[vs 0 0 ([a0] : List Int).length ([a0] : List Int).length, vq] : Value) = Value.tuple #[vs 0 0 1 1, vq] from (ZaD (Zf (Z2 rfl eqA eqA) (Zf rfl rfl)))) (by rfl), by rfl⟩ ⟨(Zaq (E := (Ze .u8)) _ (L := ([a0] : List Int)) _ (show ([Value.int .u8 a0] : List Value) = Zc (Ze .u8) ([a0] : List Int) from rfl)), trivial⟩
                     ·
                      refine Zl (fun g21 => ?_) (fun g21 => ?_)
                      ·
                       exact Zk (r := (.r1 (([a0] : List Int)) : Z1)) (fu := 4000) (orc := (Zh [(0, false), (1, false), (2, false), (3, false), (4, false), (5, false), (6, false), (7, false), (8, false), (9, false), (10, false), (11, false), (12, false), (13, false), (14, false), (15, false), (16, false), (17, false), (18, false), (19, false), (20, true)] [(0, a0)] [] [] [(0, (ZaF (a0) (a1) (a2) (a3)  y0_0  1))])) (live := [3]) (u := Value.tuple #[vs 3 0 1 1, vq]) (bl := [some (.cells [Value.int .u8 a0] 5)]) (ob := [((IntKind.u8.wrap a0) == a0, true), ((a0 == (20 : Int)), true), ((a0 == (18 : Int)), false), ((a0 == (17 : Int)), false), ((a0 == (16 : Int)), false), ((a0 == (15 : Int)), false), ((a0 == (14 : Int)), false), ((a0 == (13 : Int)), false), ((a0 == (11 : Int)), false), ((a0 == (9 : Int)), false), ((a0 == (8 : Int)), false), ((a0 == (7 : Int)), false), ((a0 == (6 : Int)), false), ((a0 == (5 : Int)), false), ((a0 == (4 : Int)), false), ((a0 == (3 : Int)), false), ((a0 == (19 : Int)), false), ((a0 == (12 : Int)), false), ((a0 == (10 : Int)), false), ((a0 == (2 : Int)), false), ((a0 == (1 : Int)), false), ((!y0_0), false), (dP (ZaA #[Value.agg #[vi a0, vi a1, vi a2, vi a3]] (a0) (a1) (a2) (a3)  y0_0  1), true)]) (by kernel_rfl) (Za (beq_iff_eq.2 (ZK ltA)) <| oT <| oF <| oF <| oF <| oF <| oF <| oF <| oF <| oF <| oF <| oF <| oF <| oF <| oF <| oF <| oF <| oF <| oF <| oF <| oF <| Za (Zb8 (by first | assumption | exact Decidable.not_not.1 (by assumption) | simp_all)) <| Za (Zg (ZaG #[Value.agg #[vi a0, vi a1, vi a2, vi a3]] (a0) (a1) (a2) (a3)  y0_0 N c0  1 rfl (by decide) (by decide))) Zb) rfl (by decide) (by rfl) ⟨Eq.trans (show (Value.tuple #[vs 0 0 ([a0] : List Int).length ([a0] : List Int).length, vq] : Value) = Value.tuple #[vs 0 0 1 1, vq] from (ZaD (Zf (Z2 rfl eqA eqA) (Zf rfl rfl)))) (by rfl), by rfl⟩ ⟨(Zaq (E := (Ze .u8)) _ (L := ([a0] : List Int)) _ (show ([Value.int .u8 a0] : List Value) = Zc (Ze .u8) ([a0] : List Int) from rfl)), trivial⟩
                      ·
                       exact Zk (r := (.r1 (([(IntKind.u8.wrap a0)] : List Int)) : Z1)) (fu := 4000) (orc := (Zh [(0, false), (1, false), (2, false), (3, false), (4, false), (5, false), (6, false), (7, false), (8, false), (9, false), (10, false), (11, false), (12, false), (13, false), (14, false), (15, false), (16, false), (17, false), (18, false), (19, false), (20, false)] [] [] [] [(0, (ZaF (a0) (a1) (a2) (a3)  y0_0  1))])) (live := [3]) (u := Value.tuple #[vs 3 0 1 1, vq]) (bl := [some (.cells [Value.int .u8 (IntKind.u8.wrap a0)] 5)]) (ob := [((a0 == (20 : Int)), false), ((a0 == (18 : Int)), false), ((a0 == (17 : Int)), false), ((a0 == (16 : Int)), false), ((a0 == (15 : Int)), false), ((a0 == (14 : Int)), false), ((a0 == (13 : Int)), false), ((a0 == (11 : Int)), false), ((a0 == (9 : Int)), false), ((a0 == (8 : Int)), false), ((a0 == (7 : Int)), false), ((a0 == (6 : Int)), false), ((a0 == (5 : Int)), false), ((a0 == (4 : Int)), false), ((a0 == (3 : Int)), false), ((a0 == (19 : Int)), false), ((a0 == (12 : Int)), false), ((a0 == (10 : Int)), false), ((a0 == (2 : Int)), false), ((a0 == (1 : Int)), false), ((!y0_0), false), (dP (ZaA #[Value.agg #[vi a0, vi a1, vi a2, vi a3]] (a0) (a1) (a2) (a3)  y0_0  1), true)]) (by kernel_rfl) (oF <| oF <| oF <| oF <| oF <| oF <| oF <| oF <| oF <| oF <| oF <| oF <| oF <| oF <| oF <| oF <| oF <| oF <| oF <| oF <| Za (Zb8 (by first | assumption | exact Decidable.not_not.1 (by assumption) | simp_all)) <| Za (Zg (ZaG #[Value.agg #[vi a0, vi a1, vi a2, vi a3]] (a0) (a1) (a2) (a3)  y0_0 N c0  1 rfl (by decide) (by decide))) Zb) rfl (by decide) (by rfl) ⟨Eq.trans (show (Value.tuple #[vs 0 0 ([(IntKind.u8.wrap a0)] : List Int).length ([(IntKind.u8.wrap a0)] : List Int).length, vq] : Value) = Value.tuple #[vs 0 0 1 1, vq] from (ZaD (Zf (Z2 rfl eqA eqA) (Zf rfl rfl)))) (by rfl), by rfl⟩ ⟨(Zaq (E := (Ze .u8)) _ (L := ([(IntKind.u8.wrap a0)] : List Int)) _ (show ([Value.int .u8 (IntKind.u8.wrap a0)] : List Value) = Zc (Ze .u8) ([(IntKind.u8.wrap a0)] : List Int) from rfl)), trivial⟩

theorem Zid (a0 a1 a2 a3 : Int) (N : Nat) (r : Z1) (h : Zm a0 a1 a2 a3 N = some r) : LSpec Try.prog 16 #[Value.agg #[vi a0, vi a1, vi a2, vi a3]] [] (ZlP a0 a1 a2 a3 r) (Zky a0 a1 a2 a3 r) :=
 ZdD ZoE Try.func16 (by kernel_rfl) (by kernel_rfl) (fun r => by cases r <;> exact Zal _ rfl) (Zp4 a0 a1 a2 a3 N) h

noncomputable def Zkz (a0 a1 a2 a3 : Int) (n : Nat) : Za4 := .call [] (Value.tuple #[vn, vi (100 : Int)]) [] 0
def Zhn (A : Array Value) (a0 a1 a2 a3 : Int) (n : Nat) : Prop := ZB Try.prog 16 A [] (Value.tuple #[vn, vi (100 : Int)]) [] n 0

theorem Zk0 (A : Array Value) (a0 a1 a2 a3 : Int) (N : Nat) (h : Zm a0 a1 a2 a3 N = some (.r0)) (n : Nat) (hA : A = #[Value.agg #[vi a0, vi a1, vi a2, vi a3]]) (hnd : ([] : List Nat).Nodup) (hlt : ∀ k ∈ ([] : List Nat), k < n) : Zhn A a0 a1 a2 a3  n :=
 ZQ hA (LSpec.callL (show LSpec Try.prog 16 #[Value.agg #[vi a0, vi a1, vi a2, vi a3]] [] (Value.tuple #[vn, vi (100 : Int)]) [] from Zid a0 a1 a2 a3 N _ h) [] n [] rfl hnd hlt (show 0 ≤ 0 from by decide) (show ∀ j ∈ ([] : List Nat), j < 0 from by decide) (by rfl) trivial (by rfl) trivial trivial rfl rfl rfl rfl rfl)

noncomputable def ZfU (a0 a1 a2 a3 : Int) (w0 : List Int) (n : Nat) : Za4 := .call [] (Value.tuple #[vs n 0 w0.length w0.length, vq]) [(n, some (.cells (Zc (Ze .u8) w0) 5))] 1
def ZeY (A : Array Value) (a0 a1 a2 a3 : Int) (w0 : List Int) (n : Nat) : Prop := ZB Try.prog 16 A [] (Value.tuple #[vs n 0 w0.length w0.length, vq]) [(n, some (.cells (Zc (Ze .u8) w0) 5))] n 1

theorem ZfV (A : Array Value) (a0 a1 a2 a3 : Int) (w0 : List Int) (N : Nat) (h : Zm a0 a1 a2 a3 N = some (.r1 w0)) (n : Nat) (hA : A = #[Value.agg #[vi a0, vi a1, vi a2, vi a3]]) (hnd : ([] : List Nat).Nodup) (hlt : ∀ k ∈ ([] : List Nat), k < n) : ZeY A a0 a1 a2 a3 w0  n :=
 ZQ hA (LSpec.callL (show LSpec Try.prog 16 #[Value.agg #[vi a0, vi a1, vi a2, vi a3]] [] (Value.tuple #[vs 0 0 w0.length w0.length, vq]) [some (.cells (Zc (Ze .u8) w0) 5)] from Zid a0 a1 a2 a3 N _ h) [] n [0] rfl hnd hlt (show 0 ≤ 1 from by decide) (show ∀ j ∈ ([0] : List Nat), j < 1 from by decide) (by rfl) trivial (by rfl) ⟨(ZaE _ _ _), trivial⟩ ⟨(by decide), trivial⟩ rfl rfl rfl rfl (Zf (ZaJ rfl (ZeN (ZbJ _ _ _))) rfl))

noncomputable def ZlQ (o0 : Nat) (L1 : List R_iiii) (n2 n3 : Nat) (O0 : Obj) : ZaV → Value
 | .r0 w2 => Value.tuple #[vn, vi w2]
 | .r1 w2 => Value.tuple #[vs 1 0 w2.length w2.length, vq]
noncomputable def Zk1 (o0 : Nat) (L1 : List R_iiii) (n2 n3 : Nat) (O0 : Obj) : ZaV → List (Option AObj)
 | .r0 w2 => [some (.ro O0)]
 | .r1 w2 => [some (.ro O0), some (.cells (Zc (Ze .u8) w2) 5)]

def Zqh : Zar → Nat
 | .h1m0 v4 v5 => 1
 | .h2m0 v2 v3 v4 => 2
noncomputable def Zrv (o0 : Nat) (L1 : List R_iiii) (n2 n3 : Nat) (O0 : Obj) : Zar → List (Nat × Value)
 | .h1m0 v4 v5 => [(0, vs 0 o0 n2 n3), (4, vs 1 0 v4.length v4.length), (5, vi (v5 : Int))]
 | .h2m0 v2 v3 v4 => [(4, vs 1 0 v2.length v2.length), (8, vi v3), (9, vi (v4 : Int))]
noncomputable def Zrw (o0 : Nat) (L1 : List R_iiii) (n2 n3 : Nat) (O0 : Obj) : Zar → List (Option AObj)
 | .h1m0 v4 v5 => [some (.ro O0), some (.cells (Zc (Ze .u8) v4) 5)]
 | .h2m0 v2 v3 v4 => [some (.ro O0), some (.cells (Zc (Ze .u8) v2) 5)]

noncomputable def ZcJ : Nat → Code × List Za2
 | 1 => Zbz [1, 1, 1, 0, 1, 3] (Zbh Try.f8) []
 | 2 => Zbz [1, 1, 1, 1, 1, 0, 1, 3] (Zbh Try.f8) []
 | _ => (.skip, [])
def Zk2 : Nat → Bool
 | 1 => true
 | 2 => true
 | _ => true
noncomputable def Zgq (i : Nat) : List Za2 := match Zk2 i with | true => .rnd i :: (ZcJ i).2 | false => (ZcJ i).2

noncomputable def Zba (o0 : Nat) (L1 : List R_iiii) (n2 n3 : Nat) (O0 : Obj) (N : Nat) : Mach := ⟨Try.f8, [.ro O0], Zar, ZaV, Zbn L1 n2 n3 N, Zqh, ZcJ, Zk2, Zrv o0 L1 n2 n3 O0, Zrw o0 L1 n2 n3 O0, ZlQ o0 L1 n2 n3 O0, Zk1 o0 L1 n2 n3 O0⟩

theorem ZmX (o0 : Nat) (L1 : List R_iiii) (n2 n3 : Nat) (O0 : Obj) (F0 : Zbk O0 o0 L1) (v4 : List Int) (v5 N : Nat) : (Zba o0 L1 n2 n3 O0 N).Ok Try.prog Zj (.h1m0 v4 v5 : Zar) (Zbn L1 n2 n3 N (.h1m0 v4 v5 : Zar)) := by
 show (Zba o0 L1 n2 n3 O0 N).Ok Try.prog Zj (.h1m0 v4 v5 : Zar) (Zb9 L1 n2 n3 N v4 v5)
 unfold Zb9
 refine Mach.ok_ite (fun g0 => ?_) (fun g0 => ?_)
 ·
  refine Mach.ok_ite (fun g1 => ?_) (fun g1 => ?_)
  ·
   refine Mach.ok_bind (fun z2 c2 => ?_)
   cases z2 with
   | r0 =>
    exact Mach.ok_fin (M := Zba o0 L1 n2 n3 O0 N) (cd := 1000000) (cm := 0) (r := (.r0 ((110 : Int)) : ZaV)) (fu := 4000) (orc := (Zh [(0, true)] [] [(0, v5)] [(0, [.i (L1.getD v5 R_iiii.z).a0, .i (L1.getD v5 R_iiii.z).a1, .i (L1.getD v5 R_iiii.z).a2, .i (L1.getD v5 R_iiii.z).a3])] [(0, (Zkz ((L1.getD v5 R_iiii.z).a0) ((L1.getD v5 R_iiii.z).a1) ((L1.getD v5 R_iiii.z).a2) ((L1.getD v5 R_iiii.z).a3)    2))])) (live := [0]) (u := Value.tuple #[vn, vi (110 : Int)]) (bl := [some (.ro O0)]) (ob := [(dP (Zhn #[Value.agg #[vi (L1.getD v5 R_iiii.z).a0, vi (L1.getD v5 R_iiii.z).a1, vi (L1.getD v5 R_iiii.z).a2, vi (L1.getD v5 R_iiii.z).a3]] ((L1.getD v5 R_iiii.z).a0) ((L1.getD v5 R_iiii.z).a1) ((L1.getD v5 R_iiii.z).a2) ((L1.getD v5 R_iiii.z).a3)    2), true), (Zan (Za1 O0 (o0 + (v5 * 4)) 4) [.i (L1.getD v5 R_iiii.z).a0, .i (L1.getD v5 R_iiii.z).a1, .i (L1.getD v5 R_iiii.z).a2, .i (L1.getD v5 R_iiii.z).a3], true), (Nat.blt v5 n2, true), ((v5 : Int) == Int.ofNat v5, true), ((decide ((v5 : Int) < (n2 : Int))), true)]) (fun gv => by kernel_rfl) (Za (Zg (Zk0 #[Value.agg #[vi (L1.getD v5 R_iiii.z).a0, vi (L1.getD v5 R_iiii.z).a1, vi (L1.getD v5 R_iiii.z).a2, vi (L1.getD v5 R_iiii.z).a3]] ((L1.getD v5 R_iiii.z).a0) ((L1.getD v5 R_iiii.z).a1) ((L1.getD v5 R_iiii.z).a2) ((L1.getD v5 R_iiii.z).a3)   N c2  2 rfl (by decide) (by decide))) <| Za ((show (o0 + v5 * 4 + 0) = (o0 + (v5 * 4)) from by omega) ▸ F0 v5 (by omega) 0 4 (show 0 + 4 ≤ 4 from by decide)) <| oB <| oI <| oY Zb) rfl (by decide) (by rfl) rr ⟨rfl, trivial⟩
   | r1 y2_0 =>
    refine Mach.ok_ite (fun g3 => ?_) (fun g3 => ?_)
    ·
     refine Mach.ok_ite (fun g4 => ?_) (fun g4 => ?_)
     ·
      exact Mach.ok_next (M := Zba o0 L1 n2 n3 O0 N) (cd := 1000000) (cm := 0) (y := (.h1m0 (v4) ((v5 + 1)) : Zar)) (fu := 4000) (orc := (Zh [(0, true)] [(0, (((v5 + 1) : Nat) : Int))] [(0, v5)] [(0, [.i (L1.getD v5 R_iiii.z).a0, .i (L1.getD v5 R_iiii.z).a1, .i (L1.getD v5 R_iiii.z).a2, .i (L1.getD v5 R_iiii.z).a3])] [(0, (ZfU ((L1.getD v5 R_iiii.z).a0) ((L1.getD v5 R_iiii.z).a1) ((L1.getD v5 R_iiii.z).a2) ((L1.getD v5 R_iiii.z).a3)  y2_0  2)), (1, .ap0)])) (live := [0, 1]) (tv := fun _ => [some (vs 0 o0 n2 n3), some (vs 1 0 v4.length v4.length), some (vi (((v5 + 1) : Nat) : Int))]) (bl := [some (.ro O0), some (.cells (Zc (Ze .u8) v4) 5)]) (ob := [((IntKind.i64.wrap ((v5 : Int) + (1 : Int))) == (((v5 + 1) : Nat) : Int), true), (dP (0 = y2_0.length ∧ Z4 (y2_0.length * 1) (List.drop 0 (Zc (Ze .u8) y2_0)) = some [] ∧ ZV Zbd [] = true), true), (dP (ZeY #[Value.agg #[vi (L1.getD v5 R_iiii.z).a0, vi (L1.getD v5 R_iiii.z).a1, vi (L1.getD v5 R_iiii.z).a2, vi (L1.getD v5 R_iiii.z).a3]] ((L1.getD v5 R_iiii.z).a0) ((L1.getD v5 R_iiii.z).a1) ((L1.getD v5 R_iiii.z).a2) ((L1.getD v5 R_iiii.z).a3)  y2_0  2), true), (Zan (Za1 O0 (o0 + (v5 * 4)) 4) [.i (L1.getD v5 R_iiii.z).a0, .i (L1.getD v5 R_iiii.z).a1, .i (L1.getD v5 R_iiii.z).a2, .i (L1.getD v5 R_iiii.z).a3], true), (Nat.blt v5 n2, true), ((v5 : Int) == Int.ofNat v5, true), ((decide ((v5 : Int) < (n2 : Int))), true)]) rfl (show 1 ∈ Zq (Zgq 1) from by decide +kernel) (fun gv => by kernel_rfl) (Za (beq_iff_eq.2 ((wrap_i64 ltA).trans (by first | rfl | omega))) <| Za (Zg ⟨by omega, by rw [show y2_0.length = 0 by omega]; rfl, rfl⟩) <| Za (Zg (ZfV #[Value.agg #[vi (L1.getD v5 R_iiii.z).a0, vi (L1.getD v5 R_iiii.z).a1, vi (L1.getD v5 R_iiii.z).a2, vi (L1.getD v5 R_iiii.z).a3]] ((L1.getD v5 R_iiii.z).a0) ((L1.getD v5 R_iiii.z).a1) ((L1.getD v5 R_iiii.z).a2) ((L1.getD v5 R_iiii.z).a3)  y2_0 N c2  2 rfl (by decide) (by decide))) <| Za ((show (o0 + v5 * 4 + 0) = (o0 + (v5 * 4)) from by omega) ▸ F0 v5 (by omega) 0 4 (show 0 + 4 ≤ 4 from by decide)) <| oB <| oI <| oY Zb) rfl (by decide) (by rfl) (fun _ => ⟨rr, ⟨rr, ⟨rr, trivial⟩⟩⟩) ⟨rfl, ⟨(Zn (E := (Ze .u8)) (α := Int) _ v4 _), trivial⟩⟩
     ·
      exact Mach.ok_none
    ·
     refine Mach.ok_ite (fun g4 => ?_) (fun g4 => ?_)
     ·
      refine Mach.ok_ite (fun g5 => ?_) (fun g5 => ?_)
      ·
       refine Mach.ok_ite (fun g6 => ?_) (fun g6 => ?_)
       ·
        exact Mach.ok_next (M := Zba o0 L1 n2 n3 O0 N) (cd := 1000000) (cm := 0) (y := (.h1m0 ((v4 ++ y2_0)) ((v5 + 1)) : Zar)) (fu := 4000) (orc := (Zh [(0, true)] [(0, (((v5 + 1) : Nat) : Int))] [(0, v5)] [(0, [.i (L1.getD v5 R_iiii.z).a0, .i (L1.getD v5 R_iiii.z).a1, .i (L1.getD v5 R_iiii.z).a2, .i (L1.getD v5 R_iiii.z).a3])] [(0, (ZfU ((L1.getD v5 R_iiii.z).a0) ((L1.getD v5 R_iiii.z).a1) ((L1.getD v5 R_iiii.z).a2) ((L1.getD v5 R_iiii.z).a3)  y2_0  2)), (1, .ap y2_0.length (Zc (Ze .u8) y2_0) (Zc (Ze .u8) (v4 ++ y2_0)))])) (live := [0, 3]) (tv := fun _ => [some (vs 0 o0 n2 n3), some (vs 3 0 (v4.length + y2_0.length) (v4.length + y2_0.length)), some (vi (((v5 + 1) : Nat) : Int))]) (bl := [some (.ro O0), some (.cells (Zc (Ze .u8) (v4 ++ y2_0)) 5)]) (ob := [((IntKind.i64.wrap ((v5 : Int) + (1 : Int))) == (((v5 + 1) : Nat) : Int), true), (dP ((y2_0.length = y2_0.length ∧ Z4 (y2_0.length * 1) (List.drop 0 (Zc (Ze .u8) y2_0)) = some (Zc (Ze .u8) y2_0) ∧ ZV Zbd (Zc (Ze .u8) y2_0) = true) ∧ 0 < y2_0.length ∧ y2_0.length ≤ 100000 ∧ v4.length < v4.length + y2_0.length ∧ v4.length ≤ 100000 ∧ v4.length * 1 ≤ (List.length (Zc (Ze .u8) v4)) ∧ List.take (v4.length * 1) (Zc (Ze .u8) v4) ++ (Zc (Ze .u8) y2_0) = (Zc (Ze .u8) (v4 ++ y2_0))), true), (dP (ZeY #[Value.agg #[vi (L1.getD v5 R_iiii.z).a0, vi (L1.getD v5 R_iiii.z).a1, vi (L1.getD v5 R_iiii.z).a2, vi (L1.getD v5 R_iiii.z).a3]] ((L1.getD v5 R_iiii.z).a0) ((L1.getD v5 R_iiii.z).a1) ((L1.getD v5 R_iiii.z).a2) ((L1.getD v5 R_iiii.z).a3)  y2_0  2), true), (Zan (Za1 O0 (o0 + (v5 * 4)) 4) [.i (L1.getD v5 R_iiii.z).a0, .i (L1.getD v5 R_iiii.z).a1, .i (L1.getD v5 R_iiii.z).a2, .i (L1.getD v5 R_iiii.z).a3], true), (Nat.blt v5 n2, true), ((v5 : Int) == Int.ofNat v5, true), ((decide ((v5 : Int) < (n2 : Int))), true)]) rfl (show 1 ∈ Zq (Zgq 1) from by decide +kernel) (fun gv => by kernel_rfl) (Za (beq_iff_eq.2 ((wrap_i64 ltA).trans (by first | rfl | omega))) <| Za (Zg ⟨⟨rfl, (ZnJ (E := (Ze .u8)) (L := y2_0) (a := 0) (n := y2_0.length) (by omega) (by show _ = _ * 1; omega) (show _ = _ * 1 from rfl) (by rw [List.drop_zero, List.take_of_length_le (by omega)]))⟩, by omega, by omega, ltA, by omega, (Zci (E := (Ze .u8)) (L := v4) (M := y2_0) (n := v4.length) (show _ = _ * 1 from rfl) (by omega) (R := (v4 ++ y2_0)) (by rw [List.take_of_length_le (by omega)]))⟩) <| Za (Zg (ZfV #[Value.agg #[vi (L1.getD v5 R_iiii.z).a0, vi (L1.getD v5 R_iiii.z).a1, vi (L1.getD v5 R_iiii.z).a2, vi (L1.getD v5 R_iiii.z).a3]] ((L1.getD v5 R_iiii.z).a0) ((L1.getD v5 R_iiii.z).a1) ((L1.getD v5 R_iiii.z).a2) ((L1.getD v5 R_iiii.z).a3)  y2_0 N c2  2 rfl (by decide) (by decide))) <| Za ((show (o0 + v5 * 4 + 0) = (o0 + (v5 * 4)) from by omega) ▸ F0 v5 (by omega) 0 4 (show 0 + 4 ≤ 4 from by decide)) <| oB <| oI <| oY Zb) rfl (by decide) (by rfl) (fun _ => ⟨rr, ⟨⟨Eq.trans (show (vs 1 0 (v4 ++ y2_0).length (v4 ++ y2_0).length : Value) = vs 1 0 (v4.length + y2_0.length) (v4.length + y2_0.length) from (Z2 rfl eqA eqA)) (by rfl), by rfl⟩, ⟨rr, trivial⟩⟩⟩) ⟨rfl, ⟨(Zn (E := (Ze .u8)) (α := Int) _ (v4 ++ y2_0) _), trivial⟩⟩
       ·
        exact Mach.ok_none
      ·
       exact Mach.ok_none
     ·
      exact Mach.ok_none
  ·
   exact Mach.ok_none
 ·
  exact Mach.ok_head (bK := ZcJ 2) (M := Zba o0 L1 n2 n3 O0 N) (cd := 1000000) (cm := 0) (y := (.h2m0 (v4) ((0 : Int)) (0) : Zar)) (fu := 4000) (orc := (Zh [(0, false)] [] [] [] [])) (live := [0, 1]) (tv := fun _ => [some (vs 1 0 v4.length v4.length), some (vq), some (vq)]) (bl := [some (.ro O0), some (.cells (Zc (Ze .u8) v4) 5)]) (ob := [((decide ((v5 : Int) < (n2 : Int))), false)]) rfl rfl (show ∀ j ∈ Zq (ZcJ 2).2, j ∈ Zq (Zgq 1) from by decide +kernel) (fun gv => by kernel_rfl) (oN Zb) rfl (by decide) (by rfl) (fun _ => ⟨rr, ⟨rr, ⟨⟨Eq.trans (show (vi ((0 : Nat) : Int) : Value) = vq from (congrArg (Value.int .i64) (by first | rfl | omega))) (by rfl), by rfl⟩, trivial⟩⟩⟩) ⟨rfl, ⟨(Zn (E := (Ze .u8)) (α := Int) _ v4 _), trivial⟩⟩

theorem ZmY (o0 : Nat) (L1 : List R_iiii) (n2 n3 : Nat) (O0 : Obj) (F0 : Zbk O0 o0 L1) (v2 : List Int) (v3 : Int) (v4 N : Nat) : (Zba o0 L1 n2 n3 O0 N).Ok Try.prog Zj (.h2m0 v2 v3 v4 : Zar) (Zbn L1 n2 n3 N (.h2m0 v2 v3 v4 : Zar)) := by
 show (Zba o0 L1 n2 n3 O0 N).Ok Try.prog Zj (.h2m0 v2 v3 v4 : Zar) (Zcv L1 n2 n3 N v2 v3 v4)
 unfold Zcv
 refine Mach.ok_ite (fun g0 => ?_) (fun g0 => ?_)
 ·
  refine Mach.ok_ite (fun g1 => ?_) (fun g1 => ?_)
  ·
   refine Mach.ok_ite (fun g2 => ?_) (fun g2 => ?_)
   ·
    refine Mach.ok_ite (fun g3 => ?_) (fun g3 => ?_)
    ·
     exact Mach.ok_next (M := Zba o0 L1 n2 n3 O0 N) (cd := 1000000) (cm := 0) (y := (.h2m0 (v2) ((IntKind.i64.wrap (v3 + (v2.getD v4 0)))) ((v4 + 1)) : Zar)) (fu := 4000) (orc := (Zh [(0, true)] [(0, (v2.getD v4 0)), (2, (((v4 + 1) : Nat) : Int))] [(0, v4)] [(0, [.k .u8 (v2.getD v4 0)])] [])) (live := [0, 1]) (tv := fun _ => [some (vs 1 0 v2.length v2.length), some (vi (IntKind.i64.wrap (v3 + (v2.getD v4 0)))), some (vi (((v4 + 1) : Nat) : Int))]) (bl := [some (.ro O0), some (.cells (Zc (Ze .u8) v2) 5)]) (ob := [((IntKind.i64.wrap ((v4 : Int) + (1 : Int))) == (((v4 + 1) : Nat) : Int), true), ((IntKind.i64.wrap (v2.getD v4 0)) == (v2.getD v4 0), true), (Zan (Z4 1 (List.drop (0 + (v4 * 1)) (Zc (Ze .u8) v2))) [.k .u8 (v2.getD v4 0)], true), (Nat.blt v4 v2.length, true), ((v4 : Int) == Int.ofNat v4, true), ((decide ((v4 : Int) < (v2.length : Int))), true)]) rfl (show 2 ∈ Zq (Zgq 2) from by decide +kernel) (fun gv => by kernel_rfl) (Za (beq_iff_eq.2 ((wrap_i64 ltA).trans (by first | rfl | omega))) <| Za (beq_iff_eq.2 (wrap_i64 ltA)) <| Za (ZbH (E := (Ze .u8)) (L := v2) (i := v4) (q := 0) (by omega) (show (0 + (v4 * 1)) = v4 * 1 + 0 from by omega) (show 0 + 1 ≤ 1 from by decide) rfl rfl) <| oB <| oI <| oY Zb) rfl (by decide) (by rfl) (fun _ => ⟨rr, ⟨rr, ⟨rr, trivial⟩⟩⟩) ⟨rfl, ⟨(Zn (E := (Ze .u8)) (α := Int) _ v2 _), trivial⟩⟩
    ·
     exact Mach.ok_none
   ·
    exact Mach.ok_none
  ·
   exact Mach.ok_none
 ·
  refine Mach.ok_ite (fun g1 => ?_) (fun g1 => ?_)
  ·
   exact Mach.ok_fin (M := Zba o0 L1 n2 n3 O0 N) (cd := 1000000) (cm := 0) (r := (.r1 ((v2 ++ ([(IntKind.u8.wrap (Int.tmod v3 (256 : Int)))] : List Int))) : ZaV)) (fu := 4000) (orc := (Zh [(0, false)] [] [] [] [(1, .ap 1 [Value.int .u8 (IntKind.u8.wrap (Int.tmod v3 (256 : Int)))] (Zc (Ze .u8) (v2 ++ ([(IntKind.u8.wrap (Int.tmod v3 (256 : Int)))] : List Int))))])) (live := [0, 3]) (u := Value.tuple #[vs 3 0 (v2.length + 1) (v2.length + 1), vq]) (bl := [some (.ro O0), some (.cells (Zc (Ze .u8) (v2 ++ ([(IntKind.u8.wrap (Int.tmod v3 (256 : Int)))] : List Int))) 5)]) (ob := [(dP ((1 = 1 ∧ Z4 (1 * 1) (List.drop 0 [Value.int .u8 (IntKind.u8.wrap (Int.tmod v3 (256 : Int)))]) = some [Value.int .u8 (IntKind.u8.wrap (Int.tmod v3 (256 : Int)))] ∧ ZV Zbd [Value.int .u8 (IntKind.u8.wrap (Int.tmod v3 (256 : Int)))] = true) ∧ 0 < 1 ∧ 1 ≤ 100000 ∧ v2.length < v2.length + 1 ∧ v2.length ≤ 100000 ∧ v2.length * 1 ≤ (List.length (Zc (Ze .u8) v2)) ∧ List.take (v2.length * 1) (Zc (Ze .u8) v2) ++ [Value.int .u8 (IntKind.u8.wrap (Int.tmod v3 (256 : Int)))] = (Zc (Ze .u8) (v2 ++ ([(IntKind.u8.wrap (Int.tmod v3 (256 : Int)))] : List Int)))), true), ((decide ((v4 : Int) < (v2.length : Int))), false)]) (fun gv => by kernel_rfl) (Za (Zg ⟨⟨rfl, ⟨rfl, rfl⟩⟩, by omega, by omega, ltA, by omega, (Zci (E := (Ze .u8)) (L := v2) (M := ([(IntKind.u8.wrap (Int.tmod v3 (256 : Int)))] : List Int)) (n := v2.length) (show _ = _ * 1 from rfl) (by omega) (R := (v2 ++ ([(IntKind.u8.wrap (Int.tmod v3 (256 : Int)))] : List Int))) (by rw [List.take_of_length_le (by omega)]))⟩) <| oN Zb) rfl (by decide) (by rfl) ⟨Eq.trans (show (Value.tuple #[vs 1 0 (v2 ++ ([(IntKind.u8.wrap (Int.tmod v3 (256 : Int)))] : List Int)).length (v2 ++ ([(IntKind.u8.wrap (Int.tmod v3 (256 : Int)))] : List Int)).length, vq] : Value) = Value.tuple #[vs 1 0 (v2.length + 1) (v2.length + 1), vq] from (ZaD (Zf (Z2 rfl eqA eqA) (Zf rfl rfl)))) (by rfl), by rfl⟩ ⟨rfl, ⟨(Zn (E := (Ze .u8)) (α := Int) _ (v2 ++ ([(IntKind.u8.wrap (Int.tmod v3 (256 : Int)))] : List Int)) _), trivial⟩⟩
  ·
   exact Mach.ok_none

theorem Zp5 (o0 : Nat) (L1 : List R_iiii) (n2 n3 : Nat) (O0 : Obj) (F0 : Zbk O0 o0 L1) (N : Nat) : (Zba o0 L1 n2 n3 O0 N).Enter Try.prog Zj #[vs 0 o0 n2 n3] (ZfR L1 n2 n3 N) := by
 unfold ZfR
 refine Mach.en_ite (fun g0 => ?_) (fun g0 => ?_)
 ·
  exact Mach.en_fin (M := Zba o0 L1 n2 n3 O0 N) (cd := 1000000) (cm := 0) (r := (.r0 ((3 : Int)) : ZaV)) (fu := 4000) (orc := (Zh [(0, true)] [] [] [] [])) (live := [0]) (u := Value.tuple #[vn, vi (3 : Int)]) (bl := [some (.ro O0)]) (ob := [((decide ((n2 : Int) > (512 : Int))), true)]) (by kernel_rfl) (oY Zb) rfl (by decide) (by rfl) rr ⟨rfl, trivial⟩
 ·
  exact Mach.en_head (bK := ZcJ 1) (M := Zba o0 L1 n2 n3 O0 N) (cd := 1000000) (cm := 0) (y := (.h1m0 (([(71 : Int), (78 : Int), (84 : Int), (1 : Int), ((n2 : Int) / (256 : Int)), ((n2 : Int) % (256 : Int))] : List Int)) (0) : Zar)) (fu := 4000) (orc := (Zh [(0, false)] [(0, ((n2 : Int) / (256 : Int))), (1, ((n2 : Int) / (256 : Int))), (2, ((n2 : Int) % (256 : Int))), (3, ((n2 : Int) % (256 : Int)))] [] [] [])) (live := [0, 1]) (tv := [some (vs 0 o0 n2 n3), some (vs 1 0 6 6), some (vq)]) (bl := [some (.ro O0), some (.cells [Value.int .u8 (71 : Int), Value.int .u8 (78 : Int), Value.int .u8 (84 : Int), Value.int .u8 (1 : Int), Value.int .u8 ((n2 : Int) / (256 : Int)), Value.int .u8 ((n2 : Int) % (256 : Int))] 5)]) (ob := [((IntKind.u8.wrap ((n2 : Int) % (256 : Int))) == ((n2 : Int) % (256 : Int)), true), ((Int.tmod (n2 : Int) (256 : Int)) == ((n2 : Int) % (256 : Int)), true), ((IntKind.u8.wrap ((n2 : Int) / (256 : Int))) == ((n2 : Int) / (256 : Int)), true), ((IntKind.i64.wrap (Int.tdiv (n2 : Int) (256 : Int))) == ((n2 : Int) / (256 : Int)), true), ((decide ((n2 : Int) > (512 : Int))), false)]) rfl rfl (show Zq (ZcJ 1).2 = [] from rfl) (by kernel_rfl) (Za (beq_iff_eq.2 (ZK ltA)) <| Za (beq_iff_eq.2 (Zag (by omega))) <| Za (beq_iff_eq.2 (ZK ltA)) <| Za (beq_iff_eq.2 (by rw [Zah (by omega)]; exact wrap_i64 (by omega))) <| oN Zb) rfl (by decide) (by rfl) ⟨rr, ⟨⟨Eq.trans (show (vs 1 0 ([(71 : Int), (78 : Int), (84 : Int), (1 : Int), ((n2 : Int) / (256 : Int)), ((n2 : Int) % (256 : Int))] : List Int).length ([(71 : Int), (78 : Int), (84 : Int), (1 : Int), ((n2 : Int) / (256 : Int)), ((n2 : Int) % (256 : Int))] : List Int).length : Value) = vs 1 0 6 6 from (Z2 rfl eqA eqA)) (by rfl), by rfl⟩, ⟨⟨Eq.trans (show (vi ((0 : Nat) : Int) : Value) = vq from (congrArg (Value.int .i64) (by first | rfl | omega))) (by rfl), by rfl⟩, trivial⟩⟩⟩ ⟨rfl, ⟨(Zaq (E := (Ze .u8)) _ (L := ([(71 : Int), (78 : Int), (84 : Int), (1 : Int), ((n2 : Int) / (256 : Int)), ((n2 : Int) % (256 : Int))] : List Int)) _ (show ([Value.int .u8 (71 : Int), Value.int .u8 (78 : Int), Value.int .u8 (84 : Int), Value.int .u8 (1 : Int), Value.int .u8 ((n2 : Int) / (256 : Int)), Value.int .u8 ((n2 : Int) % (256 : Int))] : List Value) = Zc (Ze .u8) ([(71 : Int), (78 : Int), (84 : Int), (1 : Int), ((n2 : Int) / (256 : Int)), ((n2 : Int) % (256 : Int))] : List Int) from rfl)), trivial⟩⟩

theorem Zie (o0 : Nat) (L1 : List R_iiii) (n2 n3 : Nat) (O0 : Obj) (F0 : Zbk O0 o0 L1) (N : Nat) (r : ZaV) (h : ZbB L1 n2 n3 N = some r) : LSpec Try.prog 8 #[vs 0 o0 n2 n3] [.ro O0] (ZlQ o0 L1 n2 n3 O0 r) (Zk1 o0 L1 n2 n3 O0 r) :=
 Mach.spec ZaR (Zba o0 L1 n2 n3 O0 N) Try.func8 (by kernel_rfl) (by kernel_rfl) (fun x => by cases x <;> exact Zal _ rfl) (fun r => by cases r <;> exact Zal _ rfl) (fun x => by
  cases x with
  | h1m0 _ _ => exact fun _ => (show ¬ (1 ∈ Zq (ZcJ 1).2) from by decide +kernel)
  | h2m0 _ _ _ => exact fun _ => (show ¬ (2 ∈ Zq (ZcJ 2).2) from by decide +kernel)
  ) (fun x => (show (Zba o0 L1 n2 n3 O0 N).Ok Try.prog Zj x (Zbn L1 n2 n3 N x) from by
  cases x with
  | h1m0 v4 v5 => exact ZmX o0 L1 n2 n3 O0 F0 v4 v5 N
  | h2m0 v2 v3 v4 => exact ZmY o0 L1 n2 n3 O0 F0 v2 v3 v4 N
  )) (Zp5 o0 L1 n2 n3 O0 F0 N) (n := N) h

noncomputable def Zk3 (o0 : Nat) (L1 : List R_iiii) (n2 n3 : Nat) (O0 : Obj) (w2 : Int) (k0 n : Nat) : Za4 := .call [(k0, .ro O0)] (Value.tuple #[vn, vi w2]) [] 0
def Zho (A : Array Value) (o0 : Nat) (L1 : List R_iiii) (n2 n3 : Nat) (O0 : Obj) (w2 : Int) (k0 n : Nat) : Prop := ZB Try.prog 8 A [(k0, .ro O0)] (Value.tuple #[vn, vi w2]) [] n 0

theorem Zk4 (A : Array Value) (o0 : Nat) (L1 : List R_iiii) (n2 n3 : Nat) (O0 : Obj) (F0 : Zbk O0 o0 L1) (w2 : Int) (N : Nat) (h : ZbB L1 n2 n3 N = some (.r0 w2)) (k0 n : Nat) (hA : A = #[vs k0 o0 n2 n3]) (hnd : ([k0] : List Nat).Nodup) (hlt : ∀ k ∈ ([k0] : List Nat), k < n) : Zho A o0 L1 n2 n3 O0 w2 k0 n :=
 ZQ hA (LSpec.callL (show LSpec Try.prog 8 #[vs 0 o0 n2 n3] [.ro O0] (Value.tuple #[vn, vi w2]) [some (.ro O0)] from Zie o0 L1 n2 n3 O0 F0 N _ h) [k0] n [] rfl hnd hlt (show 1 ≤ 1 from by decide) (show ∀ j ∈ ([] : List Nat), j < 1 from by decide) (by rfl) ⟨rfl, trivial⟩ (by rfl) ⟨rfl, trivial⟩ ⟨.inr rfl, trivial⟩ rfl rfl rfl (Zf (ZaJ rfl rfl) rfl) rfl)

noncomputable def Zk5 (o0 : Nat) (L1 : List R_iiii) (n2 n3 : Nat) (O0 : Obj) (w2 : List Int) (k0 n : Nat) : Za4 := .call [(k0, .ro O0)] (Value.tuple #[vs n 0 w2.length w2.length, vq]) [(n, some (.cells (Zc (Ze .u8) w2) 5))] 1
def Zhp (A : Array Value) (o0 : Nat) (L1 : List R_iiii) (n2 n3 : Nat) (O0 : Obj) (w2 : List Int) (k0 n : Nat) : Prop := ZB Try.prog 8 A [(k0, .ro O0)] (Value.tuple #[vs n 0 w2.length w2.length, vq]) [(n, some (.cells (Zc (Ze .u8) w2) 5))] n 1

theorem Zk6 (A : Array Value) (o0 : Nat) (L1 : List R_iiii) (n2 n3 : Nat) (O0 : Obj) (F0 : Zbk O0 o0 L1) (w2 : List Int) (N : Nat) (h : ZbB L1 n2 n3 N = some (.r1 w2)) (k0 n : Nat) (hA : A = #[vs k0 o0 n2 n3]) (hnd : ([k0] : List Nat).Nodup) (hlt : ∀ k ∈ ([k0] : List Nat), k < n) : Zhp A o0 L1 n2 n3 O0 w2 k0 n :=
 ZQ hA (LSpec.callL (show LSpec Try.prog 8 #[vs 0 o0 n2 n3] [.ro O0] (Value.tuple #[vs 1 0 w2.length w2.length, vq]) [some (.ro O0), some (.cells (Zc (Ze .u8) w2) 5)] from Zie o0 L1 n2 n3 O0 F0 N _ h) [k0] n [1] rfl hnd hlt (show 1 ≤ 2 from by decide) (show ∀ j ∈ ([1] : List Nat), j < 2 from by decide) (by rfl) ⟨rfl, trivial⟩ (by rfl) ⟨rfl, ⟨(ZaE _ _ _), trivial⟩⟩ ⟨.inr rfl, ⟨(by decide), trivial⟩⟩ rfl rfl rfl (Zf (ZaJ rfl rfl) rfl) (Zf (ZaJ rfl (ZeN (ZbJ _ _ _))) rfl))

noncomputable def Zot (o0 : Nat) (L1 : List Int) (n2 n3 : Nat) (O0 : Obj) : ZcU → Value
 | .r0 w2 => Value.int .u8 w2
noncomputable def ZmZ (o0 : Nat) (L1 : List Int) (n2 n3 : Nat) (O0 : Obj) : ZcU → List (Option AObj)
 | .r0 w2 => [some (.ro O0)]

def ZsL : Zb5 → Nat
 | .h1m0 v5 v6 => 1
noncomputable def Ztv (o0 : Nat) (L1 : List Int) (n2 n3 : Nat) (O0 : Obj) : Zb5 → List (Nat × Value)
 | .h1m0 v5 v6 => [(3, vp 1 0), (4, Value.func (.func 24) #[] #[vp 1 0]), (8, vs 0 o0 n2 n3), (9, vi (n2 : Int)), (10, vi (v5 : Int))]
noncomputable def Ztw (o0 : Nat) (L1 : List Int) (n2 n3 : Nat) (O0 : Obj) : Zb5 → List (Option AObj)
 | .h1m0 v5 v6 => [some (.ro O0), some (.cells [Value.int .u8 v6] 5)]

noncomputable def Zf2 : Nat → Code × List Za2
 | 1 => Zbz [1, 1, 1, 0, 1, 3] (Zbh Try.f15) []
 | _ => (.skip, [])
def Zna : Nat → Bool
 | 1 => true
 | _ => true
noncomputable def Ztx (i : Nat) : List Za2 := match Zna i with | true => .rnd i :: (Zf2 i).2 | false => (Zf2 i).2

noncomputable def ZdU (o0 : Nat) (L1 : List Int) (n2 n3 : Nat) (O0 : Obj) (N : Nat) : Mach := ⟨Try.f15, [.ro O0], Zb5, ZcU, ZeO L1 n2 n3 N, ZsL, Zf2, Zna, Ztv o0 L1 n2 n3 O0, Ztw o0 L1 n2 n3 O0, Zot o0 L1 n2 n3 O0, ZmZ o0 L1 n2 n3 O0⟩

theorem ZoF (o0 : Nat) (L1 : List Int) (n2 n3 : Nat) (O0 : Obj) (F0 : ∀ i, i < L1.length → Zat O0 (o0 + i * 1) [.k .u8 (L1.getD i 0)]) (v5 : Nat) (v6 : Int) (N : Nat) : (ZdU o0 L1 n2 n3 O0 N).Ok Try.prog Zj (.h1m0 v5 v6 : Zb5) (ZeO L1 n2 n3 N (.h1m0 v5 v6 : Zb5)) := by
 show (ZdU o0 L1 n2 n3 O0 N).Ok Try.prog Zj (.h1m0 v5 v6 : Zb5) (Zda L1 n2 n3 N v5 v6)
 unfold Zda
 refine Mach.ok_ite (fun g0 => ?_) (fun g0 => ?_)
 ·
  refine Mach.ok_ite (fun g1 => ?_) (fun g1 => ?_)
  ·
   refine Mach.ok_ite (fun g2 => ?_) (fun g2 => ?_)
   ·
    exact Mach.ok_next (M := ZdU o0 L1 n2 n3 O0 N) (cd := 1000000) (cm := 0) (y := (.h1m0 ((v5 + 1)) ((IntKind.u8.wrap (v6 + (L1.getD v5 0)))) : Zb5)) (fu := 4000) (orc := (Zh [(0, true)] [(1, (((v5 + 1) : Nat) : Int))] [(0, v5)] [(0, [.k .u8 (L1.getD v5 0)])] [])) (live := [0, 1]) (tv := fun _ => [some (vp 1 0), some (Value.func (.func 24) #[] #[vp 1 0]), some (vs 0 o0 n2 n3), some (vi (n2 : Int)), some (vi (((v5 + 1) : Nat) : Int))]) (bl := [some (.ro O0), some (.cells [Value.int .u8 (IntKind.u8.wrap (v6 + (L1.getD v5 0)))] 5)]) (ob := [((IntKind.i64.wrap ((v5 : Int) + (1 : Int))) == (((v5 + 1) : Nat) : Int), true), (Zan (Za1 O0 (o0 + (v5 * 1)) 1) [.k .u8 (L1.getD v5 0)], true), (Nat.blt v5 n2, true), ((v5 : Int) == Int.ofNat v5, true), ((decide ((v5 : Int) < (n2 : Int))), true)]) rfl (show 1 ∈ Zq (Ztx 1) from by decide +kernel) (fun gv => by kernel_rfl) (Za (beq_iff_eq.2 ((wrap_i64 ltA).trans (by first | rfl | omega))) <| Za ((show (o0 + v5 * 1 + 0) = (o0 + (v5 * 1)) from by omega) ▸ F0 v5 (by omega) 0 1 (show 0 + 1 ≤ 1 from by decide)) <| oB <| oI <| oY Zb) rfl (by decide) (by rfl) (fun _ => ⟨rr, ⟨rr, ⟨rr, ⟨rr, ⟨rr, trivial⟩⟩⟩⟩⟩) ⟨rfl, ⟨⟨rfl, ⟨[], by rfl⟩, by rfl⟩, trivial⟩⟩
   ·
    exact Mach.ok_none
  ·
   exact Mach.ok_none
 ·
  exact Mach.ok_fin (M := ZdU o0 L1 n2 n3 O0 N) (cd := 1000000) (cm := 0) (r := (.r0 (v6) : ZcU)) (fu := 4000) (orc := (Zh [(0, false)] [] [] [] [])) (live := [0]) (u := Value.int .u8 v6) (bl := [some (.ro O0)]) (ob := [((decide ((v5 : Int) < (n2 : Int))), false)]) (fun gv => by kernel_rfl) (oN Zb) rfl (by decide) (by rfl) rr ⟨rfl, trivial⟩

theorem Zrx (o0 : Nat) (L1 : List Int) (n2 n3 : Nat) (O0 : Obj) (F0 : ∀ i, i < L1.length → Zat O0 (o0 + i * 1) [.k .u8 (L1.getD i 0)]) (N : Nat) : (ZdU o0 L1 n2 n3 O0 N).Enter Try.prog Zj #[vs 0 o0 n2 n3] (ZgJ L1 n2 n3 N) := by
 unfold ZgJ
 exact Mach.en_head (bK := Zf2 1) (M := ZdU o0 L1 n2 n3 O0 N) (cd := 1000000) (cm := 0) (y := (.h1m0 (0) ((0 : Int)) : Zb5)) (fu := 4000) (orc := (Zh [] [] [] [] [])) (live := [0, 1]) (tv := [some (vp 1 0), some (Value.func (.func 24) #[] #[vp 1 0]), some (vs 0 o0 n2 n3), some (vi (n2 : Int)), some (vq)]) (bl := [some (.ro O0), some (.cells [Value.int .u8 (0 : Int)] 5)]) (ob := []) rfl rfl (show Zq (Zf2 1).2 = [] from rfl) (by kernel_rfl) Zb rfl (by decide) (by rfl) ⟨rr, ⟨rr, ⟨rr, ⟨rr, ⟨⟨Eq.trans (show (vi ((0 : Nat) : Int) : Value) = vq from (congrArg (Value.int .i64) (by first | rfl | omega))) (by rfl), by rfl⟩, trivial⟩⟩⟩⟩⟩ ⟨rfl, ⟨⟨rfl, ⟨[], by rfl⟩, by rfl⟩, trivial⟩⟩

theorem Zp6 (o0 : Nat) (L1 : List Int) (n2 n3 : Nat) (O0 : Obj) (F0 : ∀ i, i < L1.length → Zat O0 (o0 + i * 1) [.k .u8 (L1.getD i 0)]) (N : Nat) (r : ZcU) (h : Ziz L1 n2 n3 N = some r) : LSpec Try.prog 15 #[vs 0 o0 n2 n3] [.ro O0] (Zot o0 L1 n2 n3 O0 r) (ZmZ o0 L1 n2 n3 O0 r) :=
 Mach.spec ZaR (ZdU o0 L1 n2 n3 O0 N) Try.func15 (by kernel_rfl) (by kernel_rfl) (fun x => by cases x <;> exact Zal _ rfl) (fun r => by cases r <;> exact Zal _ rfl) (fun x => by
  cases x with
  | h1m0 _ _ => exact fun _ => (show ¬ (1 ∈ Zq (Zf2 1).2) from by decide +kernel)
  ) (fun x => (show (ZdU o0 L1 n2 n3 O0 N).Ok Try.prog Zj x (ZeO L1 n2 n3 N x) from by
  cases x with
  | h1m0 v5 v6 => exact ZoF o0 L1 n2 n3 O0 F0 v5 v6 N
  )) (Zrx o0 L1 n2 n3 O0 F0 N) (n := N) h

noncomputable def Znb (o0 : Nat) (L1 : List Int) (n2 n3 : Nat) (O0 : Obj) (w2 : Int) (k0 n : Nat) : Za4 := .call [(k0, .ro O0)] (Value.int .u8 w2) [] 0
def ZiR (A : Array Value) (o0 : Nat) (L1 : List Int) (n2 n3 : Nat) (O0 : Obj) (w2 : Int) (k0 n : Nat) : Prop := ZB Try.prog 15 A [(k0, .ro O0)] (Value.int .u8 w2) [] n 0

theorem Znc (A : Array Value) (o0 : Nat) (L1 : List Int) (n2 n3 : Nat) (O0 : Obj) (F0 : ∀ i, i < L1.length → Zat O0 (o0 + i * 1) [.k .u8 (L1.getD i 0)]) (w2 : Int) (N : Nat) (h : Ziz L1 n2 n3 N = some (.r0 w2)) (k0 n : Nat) (hA : A = #[vs k0 o0 n2 n3]) (hnd : ([k0] : List Nat).Nodup) (hlt : ∀ k ∈ ([k0] : List Nat), k < n) : ZiR A o0 L1 n2 n3 O0 w2 k0 n :=
 ZQ hA (LSpec.callL (show LSpec Try.prog 15 #[vs 0 o0 n2 n3] [.ro O0] (Value.int .u8 w2) [some (.ro O0)] from Zp6 o0 L1 n2 n3 O0 F0 N _ h) [k0] n [] rfl hnd hlt (show 1 ≤ 1 from by decide) (show ∀ j ∈ ([] : List Nat), j < 1 from by decide) (by rfl) ⟨rfl, trivial⟩ (by rfl) ⟨rfl, trivial⟩ ⟨.inr rfl, trivial⟩ rfl rfl rfl (Zf (ZaJ rfl rfl) rfl) rfl)

noncomputable def Zou (o0 : Nat) (L1 : List Int) (n2 n3 n4 : Nat) (O0 : Obj) : ZcV → Value
 | .r0 w2 => vi w2
noncomputable def Znd (o0 : Nat) (L1 : List Int) (n2 n3 n4 : Nat) (O0 : Obj) : ZcV → List (Option AObj)
 | .r0 w2 => [some (.ro O0)]

def ZsM : Zb6 → Nat
 | .h1m0 v2 v7 => 1
noncomputable def Zty (o0 : Nat) (L1 : List Int) (n2 n3 n4 : Nat) (O0 : Obj) : Zb6 → List (Nat × Value)
 | .h1m0 v2 v7 => [(3, Value.int .u64 v2), (6, vs 0 (o0 + n2) n3 n4), (7, vi (n3 : Int)), (8, vi (v7 : Int))]
noncomputable def Ztz (o0 : Nat) (L1 : List Int) (n2 n3 n4 : Nat) (O0 : Obj) : Zb6 → List (Option AObj)
 | .h1m0 v2 v7 => [some (.ro O0)]

noncomputable def Zf3 : Nat → Code × List Za2
 | 1 => Zbz [1, 1, 0, 1, 3] (Zbh Try.f30) []
 | _ => (.skip, [])
def Zne : Nat → Bool
 | 1 => true
 | _ => true
noncomputable def Zt0 (i : Nat) : List Za2 := match Zne i with | true => .rnd i :: (Zf3 i).2 | false => (Zf3 i).2

noncomputable def ZdV (o0 : Nat) (L1 : List Int) (n2 n3 n4 : Nat) (O0 : Obj) (N : Nat) : Mach := ⟨Try.f30, [.ro O0], Zb6, ZcV, ZeP L1 n2 n3 n4 N, ZsM, Zf3, Zne, Zty o0 L1 n2 n3 n4 O0, Ztz o0 L1 n2 n3 n4 O0, Zou o0 L1 n2 n3 n4 O0, Znd o0 L1 n2 n3 n4 O0⟩

theorem ZoG (o0 : Nat) (L1 : List Int) (n2 n3 n4 : Nat) (O0 : Obj) (F0 : ∀ i, i < L1.length → Zat O0 (o0 + i * 1) [.k .u8 (L1.getD i 0)]) (v2 : Int) (v7 N : Nat) : (ZdV o0 L1 n2 n3 n4 O0 N).Ok Try.prog Zj (.h1m0 v2 v7 : Zb6) (ZeP L1 n2 n3 n4 N (.h1m0 v2 v7 : Zb6)) := by
 show (ZdV o0 L1 n2 n3 n4 O0 N).Ok Try.prog Zj (.h1m0 v2 v7 : Zb6) (Zdb L1 n2 n3 n4 N v2 v7)
 unfold Zdb
 refine Mach.ok_ite (fun g0 => ?_) (fun g0 => ?_)
 ·
  refine Mach.ok_ite (fun g1 => ?_) (fun g1 => ?_)
  ·
   refine Mach.ok_ite (fun g2 => ?_) (fun g2 => ?_)
   ·
    refine Mach.ok_ite (fun g3 => ?_) (fun g3 => ?_)
    ·
     refine Mach.ok_ite (fun g4 => ?_) (fun g4 => ?_)
     ·
      exact Mach.ok_next (M := ZdV o0 L1 n2 n3 n4 O0 N) (cd := 1000000) (cm := 0) (y := (.h1m0 ((IntKind.u64.wrap (((BitVec.ofInt IntKind.u64.bits (IntKind.u64.wrap (v2 * (2 ^ 8 : Int))) ||| BitVec.ofInt IntKind.u64.bits (L1.getD (v7 + n2) 0)).toNat : Nat) : Int))) ((v7 + 1)) : Zb6)) (fu := 4000) (orc := (Zh [(0, true)] [(1, (L1.getD (v7 + n2) 0)), (3, (((v7 + 1) : Nat) : Int))] [(0, v7)] [(0, [.k .u8 (L1.getD (v7 + n2) 0)])] [])) (live := [0]) (tv := fun _ => [some (Value.int .u64 (IntKind.u64.wrap (((BitVec.ofInt IntKind.u64.bits (IntKind.u64.wrap (v2 * (2 ^ 8 : Int))) ||| BitVec.ofInt IntKind.u64.bits (L1.getD (v7 + n2) 0)).toNat : Nat) : Int))), some (vs 0 (o0 + n2) n3 n4), some (vi (n3 : Int)), some (vi (((v7 + 1) : Nat) : Int))]) (bl := [some (.ro O0)]) (ob := [((IntKind.i64.wrap ((v7 : Int) + (1 : Int))) == (((v7 + 1) : Nat) : Int), true), ((IntKind.u64.wrap (L1.getD (v7 + n2) 0)) == (L1.getD (v7 + n2) 0), true), (Zan (Za1 O0 ((o0 + n2) + (v7 * 1)) 1) [.k .u8 (L1.getD (v7 + n2) 0)], true), (Nat.blt v7 n3, true), ((v7 : Int) == Int.ofNat v7, true), ((decide ((v7 : Int) < (n3 : Int))), true)]) rfl (show 1 ∈ Zq (Zt0 1) from by decide +kernel) (fun gv => by kernel_rfl) (Za (beq_iff_eq.2 ((wrap_i64 ltA).trans (by first | rfl | omega))) <| Za (beq_iff_eq.2 (Zaa ltA)) <| Za ((show (o0 + (v7 + n2) * 1 + 0) = ((o0 + n2) + (v7 * 1)) from by omega) ▸ F0 (v7 + n2) (by omega) 0 1 (show 0 + 1 ≤ 1 from by decide)) <| oB <| oI <| oY Zb) rfl (by decide) (by rfl) (fun _ => ⟨rr, ⟨rr, ⟨rr, ⟨rr, trivial⟩⟩⟩⟩) ⟨rfl, trivial⟩
     ·
      exact Mach.ok_none
    ·
     exact Mach.ok_none
   ·
    exact Mach.ok_none
  ·
   exact Mach.ok_none
 ·
  exact Mach.ok_fin (M := ZdV o0 L1 n2 n3 n4 O0 N) (cd := 1000000) (cm := 0) (r := (.r0 ((IntKind.i64.wrap v2)) : ZcV)) (fu := 4000) (orc := (Zh [(0, false)] [] [] [] [])) (live := [0]) (u := vi (IntKind.i64.wrap v2)) (bl := [some (.ro O0)]) (ob := [((decide ((v7 : Int) < (n3 : Int))), false)]) (fun gv => by kernel_rfl) (oN Zb) rfl (by decide) (by rfl) rr ⟨rfl, trivial⟩

theorem Zry (o0 : Nat) (L1 : List Int) (n2 n3 n4 : Nat) (O0 : Obj) (F0 : ∀ i, i < L1.length → Zat O0 (o0 + i * 1) [.k .u8 (L1.getD i 0)]) (N : Nat) : (ZdV o0 L1 n2 n3 n4 O0 N).Enter Try.prog Zj #[vs 0 (o0 + n2) n3 n4] (ZiM L1 n2 n3 n4 N) := by
 unfold ZiM
 exact Mach.en_head (bK := Zf3 1) (M := ZdV o0 L1 n2 n3 n4 O0 N) (cd := 1000000) (cm := 0) (y := (.h1m0 ((0 : Int)) (0) : Zb6)) (fu := 4000) (orc := (Zh [] [] [] [] [])) (live := [0]) (tv := [some (Value.int .u64 (0 : Int)), some (vs 0 (o0 + n2) n3 n4), some (vi (n3 : Int)), some (vq)]) (bl := [some (.ro O0)]) (ob := []) rfl rfl (show Zq (Zf3 1).2 = [] from rfl) (by kernel_rfl) Zb rfl (by decide) (by rfl) ⟨rr, ⟨rr, ⟨rr, ⟨⟨Eq.trans (show (vi ((0 : Nat) : Int) : Value) = vq from (congrArg (Value.int .i64) (by first | rfl | omega))) (by rfl), by rfl⟩, trivial⟩⟩⟩⟩ ⟨rfl, trivial⟩

theorem Zp7 (o0 : Nat) (L1 : List Int) (n2 n3 n4 : Nat) (O0 : Obj) (F0 : ∀ i, i < L1.length → Zat O0 (o0 + i * 1) [.k .u8 (L1.getD i 0)]) (N : Nat) (r : ZcV) (h : Zd2 L1 n2 n3 n4 N = some r) : LSpec Try.prog 30 #[vs 0 (o0 + n2) n3 n4] [.ro O0] (Zou o0 L1 n2 n3 n4 O0 r) (Znd o0 L1 n2 n3 n4 O0 r) :=
 Mach.spec ZaR (ZdV o0 L1 n2 n3 n4 O0 N) Try.func30 (by kernel_rfl) (by kernel_rfl) (fun x => by cases x <;> exact Zal _ rfl) (fun r => by cases r <;> exact Zal _ rfl) (fun x => by
  cases x with
  | h1m0 _ _ => exact fun _ => (show ¬ (1 ∈ Zq (Zf3 1).2) from by decide +kernel)
  ) (fun x => (show (ZdV o0 L1 n2 n3 n4 O0 N).Ok Try.prog Zj x (ZeP L1 n2 n3 n4 N x) from by
  cases x with
  | h1m0 v2 v7 => exact ZoG o0 L1 n2 n3 n4 O0 F0 v2 v7 N
  )) (Zry o0 L1 n2 n3 n4 O0 F0 N) (n := N) h

noncomputable def ZiS (o0 : Nat) (L1 : List Int) (n2 n3 n4 : Nat) (O0 : Obj) (w2 : Int) (k0 n : Nat) : Za4 := .call [(k0, .ro O0)] (vi w2) [] 0
def ZgO (A : Array Value) (o0 : Nat) (L1 : List Int) (n2 n3 n4 : Nat) (O0 : Obj) (w2 : Int) (k0 n : Nat) : Prop := ZB Try.prog 30 A [(k0, .ro O0)] (vi w2) [] n 0

theorem ZiT (A : Array Value) (o0 : Nat) (L1 : List Int) (n2 n3 n4 : Nat) (O0 : Obj) (F0 : ∀ i, i < L1.length → Zat O0 (o0 + i * 1) [.k .u8 (L1.getD i 0)]) (w2 : Int) (N : Nat) (h : Zd2 L1 n2 n3 n4 N = some (.r0 w2)) (k0 n : Nat) (hA : A = #[vs k0 (o0 + n2) n3 n4]) (hnd : ([k0] : List Nat).Nodup) (hlt : ∀ k ∈ ([k0] : List Nat), k < n) : ZgO A o0 L1 n2 n3 n4 O0 w2 k0 n :=
 ZQ hA (LSpec.callL (show LSpec Try.prog 30 #[vs 0 (o0 + n2) n3 n4] [.ro O0] (vi w2) [some (.ro O0)] from Zp7 o0 L1 n2 n3 n4 O0 F0 N _ h) [k0] n [] rfl hnd hlt (show 1 ≤ 1 from by decide) (show ∀ j ∈ ([] : List Nat), j < 1 from by decide) (by rfl) ⟨rfl, trivial⟩ (by rfl) ⟨rfl, trivial⟩ ⟨.inr rfl, trivial⟩ rfl rfl rfl (Zf (ZaJ rfl rfl) rfl) rfl)

noncomputable def ZlR (o0 : Nat) (L1 : List Int) (n2 n3 n4 : Nat) (O0 : Obj) : Zaf → Value
 | .r0 w6 => Value.tuple #[Value.agg #[vq, vq, vq, vq], vn, vi w6]
 | .r1 w3 w4 w5 w6 => Value.tuple #[Value.agg #[vi (L1.getD n2 0), vi w3, vi w4, vi w5], vs 1 0 w6.length w6.length, vq]
noncomputable def Zk7 (o0 : Nat) (L1 : List Int) (n2 n3 n4 : Nat) (O0 : Obj) : Zaf → List (Option AObj)
 | .r0 w6 => [some (.ro O0)]
 | .r1 w3 w4 w5 w6 => [some (.ro O0), some (.cells (Zc (Ze .u8) w6) 5)]

def Zqi : ZU → Nat
 | .h1m0 v8 v9 v10 => 1
 | .h1m1 v5 v6 v7 v8 v9 v10 v15 => 1
 | .h1m2 v5 v6 v7 v8 v9 v10 v15 v16 => 1
 | .h1m3 v5 v6 v7 v8 v9 v10 v15 v16 v17 => 1
noncomputable def Zrz (o0 : Nat) (L1 : List Int) (n2 n3 n4 : Nat) (O0 : Obj) : ZU → List (Nat × Value)
 | .h1m0 v8 v9 v10 => [(0, vs 0 (o0 + n2) n3 n4), (2, vp 1 0), (6, vp 2 0), (7, Value.slice (some ⟨0, (o0 + (n2 + 1)), none⟩) (n3 - 1) (n4 - 1)), (28, Value.agg #[vi v8, vi v9, vi v10]), (29, vq)]
 | .h1m1 v5 v6 v7 v8 v9 v10 v15 => [(0, vs 0 (o0 + n2) n3 n4), (2, vp 1 0), (6, vp 2 0), (7, vs 0 (o0 + v5) v6 v7), (28, Value.agg #[vi v8, vi v9, vi v10]), (29, vi (1 : Int))]
 | .h1m2 v5 v6 v7 v8 v9 v10 v15 v16 => [(0, vs 0 (o0 + n2) n3 n4), (2, vp 1 0), (6, vp 2 0), (7, vs 0 (o0 + v5) v6 v7), (28, Value.agg #[vi v8, vi v9, vi v10]), (29, vi (2 : Int))]
 | .h1m3 v5 v6 v7 v8 v9 v10 v15 v16 v17 => [(0, vs 0 (o0 + n2) n3 n4), (2, vp 1 0), (6, vp 2 0), (7, vs 0 (o0 + v5) v6 v7), (28, Value.agg #[vi v8, vi v9, vi v10]), (29, vi (3 : Int))]
noncomputable def Zr0 (o0 : Nat) (L1 : List Int) (n2 n3 n4 : Nat) (O0 : Obj) : ZU → List (Option AObj)
 | .h1m0 v8 v9 v10 => [some (.ro O0), some (.cells [vq, vq, vq, vq] 44), some (.cells [vq, vq, vq] 52)]
 | .h1m1 v5 v6 v7 v8 v9 v10 v15 => [some (.ro O0), some (.cells [vq, vq, vq, vq] 44), some (.cells [vi v15, vq, vq] 52)]
 | .h1m2 v5 v6 v7 v8 v9 v10 v15 v16 => [some (.ro O0), some (.cells [vq, vq, vq, vq] 44), some (.cells [vi v15, vi v16, vq] 52)]
 | .h1m3 v5 v6 v7 v8 v9 v10 v15 v16 v17 => [some (.ro O0), some (.cells [vq, vq, vq, vq] 44), some (.cells [vi v15, vi v16, vi v17] 52)]

noncomputable def ZcK : Nat → Code × List Za2
 | 1 => Zbz [1, 1, 1, 1, 1, 1, 0, 1, 3] (Zbh Try.f18) []
 | _ => (.skip, [])
def Zk8 : Nat → Bool
 | 1 => true
 | _ => true
noncomputable def ZhS (i : Nat) : List Za2 := match Zk8 i with | true => .rnd i :: (ZcK i).2 | false => (ZcK i).2

noncomputable def Zaw (o0 : Nat) (L1 : List Int) (n2 n3 n4 : Nat) (O0 : Obj) (N : Nat) : Mach := ⟨Try.f18, [.ro O0], ZU, Zaf, ZaL L1 n2 n3 n4 N, Zqi, ZcK, Zk8, Zrz o0 L1 n2 n3 n4 O0, Zr0 o0 L1 n2 n3 n4 O0, ZlR o0 L1 n2 n3 n4 O0, Zk7 o0 L1 n2 n3 n4 O0⟩

theorem Znf (o0 : Nat) (L1 : List Int) (n2 n3 n4 : Nat) (O0 : Obj) (F0 : ∀ i, i < L1.length → Zat O0 (o0 + i * 1) [.k .u8 (L1.getD i 0)]) (v8 v9 v10 : Int) (N : Nat) : (Zaw o0 L1 n2 n3 n4 O0 N).Ok Try.prog Zj (.h1m0 v8 v9 v10 : ZU) (ZaL L1 n2 n3 n4 N (.h1m0 v8 v9 v10 : ZU)) := by
 show (Zaw o0 L1 n2 n3 n4 O0 N).Ok Try.prog Zj (.h1m0 v8 v9 v10 : ZU) (Zcw L1 n2 n3 n4 N v8 v9 v10)
 unfold Zcw
 refine Mach.ok_bind (fun z0 c0 => ?_)
 cases z0 with
 | r0 y0_0 =>
  refine Mach.ok_ite (fun g1 => ?_) (fun g1 => ?_)
  ·
   exact Mach.ok_fin (M := Zaw o0 L1 n2 n3 n4 O0 N) (cd := 1000000) (cm := 0) (r := (.r0 ((6 : Int)) : Zaf)) (fu := 4000) (orc := (Zh [(1, true)] [] [] [] [(0, (ZG (v8)  y0_0  3))])) (live := [0]) (u := Value.tuple #[Value.agg #[vq, vq, vq, vq], vn, vi (6 : Int)]) (bl := [some (.ro O0)]) (ob := [((decide ((((n3 - 1) : Nat) : Int) < y0_0)), true), (dP (ZD #[vi v8] (v8)  y0_0  3), true)]) (fun gv => by kernel_rfl) (oY <| Za (Zg (ZH #[vi v8] (v8)  y0_0 N c0  3 rfl (by decide) (by decide))) Zb) rfl (by decide) (by rfl) rr ⟨rfl, trivial⟩
  ·
   refine Mach.ok_bind (fun z2 c2 => ?_)
   cases z2 with
   | r0 y2_0 =>
    refine Mach.ok_ite (fun g3 => ?_) (fun g3 => ?_)
    ·
     refine Mach.ok_ite (fun g4 => ?_) (fun g4 => ?_)
     ·
      refine Mach.ok_bind (fun z5 c5 => ?_)
      cases z5 with
      | r0 y5_0 =>
       refine Mach.ok_bind (fun z6 c6 => ?_)
       cases z6 with
       | r0 y6_0 =>
        refine Mach.ok_ite (fun g7 => ?_) (fun g7 => ?_)
        ·
         refine Mach.ok_ite (fun g8 => ?_) (fun g8 => ?_)
         ·
          refine Mach.ok_ite (fun g9 => ?_) (fun g9 => ?_)
          ·
           exact Mach.ok_next (M := Zaw o0 L1 n2 n3 n4 O0 N) (cd := 1000000) (cm := 0) (y := (.h1m1 (((y6_0).toNat + (n2 + 1))) (((n3 - 1) - (y6_0).toNat)) (((n4 - 1) - (y6_0).toNat)) (v8) (v9) (v10) (y5_0) : ZU)) (fu := 4000) (orc := (Zh [(1, false)] [] [] [] [(0, (ZG (v8)  y0_0  3)), (1, (ZG (v8)  y2_0  3)), (2, .sl 0 (y2_0).toNat), (3, (ZiS (o0) (L1) ((n2 + 1)) (((y2_0).toNat - 0)) (((n4 - 1) - 0)) O0 y5_0 0 3)), (4, (ZG (v8)  y6_0  3)), (5, .sl (y6_0).toNat (n3 - 1))])) (live := [0, 1, 2]) (tv := fun _ => [some (vs 0 (o0 + n2) n3 n4), some (vp 1 0), some (vp 2 0), some (Value.slice (some ⟨0, ((o0 + (n2 + 1)) + ((y6_0).toNat * 1)), none⟩) ((n3 - 1) - (y6_0).toNat) ((n4 - 1) - (y6_0).toNat)), some (Value.agg #[vi v8, vi v9, vi v10]), some (vi (1 : Int))]) (bl := [some (.ro O0), some (.cells [vq, vq, vq, vq] 44), some (.cells [vi y5_0, vq, vq] 52)]) (ob := [(dP ((y6_0).toNat ≤ (n3 - 1) ∧ (n3 - 1) ≤ (n4 - 1)), true), (dS (n3 - 1), true), (y6_0 == Int.ofNat (y6_0).toNat, true), (dP (ZD #[vi v8] (v8)  y6_0  3), true), (dP (ZgO #[Value.slice (some ⟨0, ((o0 + (n2 + 1)) + (0 * 1)), none⟩) ((y2_0).toNat - 0) ((n4 - 1) - 0)] (o0) (L1) ((n2 + 1)) (((y2_0).toNat - 0)) (((n4 - 1) - 0)) O0 y5_0 0 3), true), (dS O0, true), (dP (0 ≤ (y2_0).toNat ∧ (y2_0).toNat ≤ (n4 - 1)), true), (y2_0 == Int.ofNat (y2_0).toNat, true), (dS 0, true), (dP (ZD #[vi v8] (v8)  y2_0  3), true), ((decide ((((n3 - 1) : Nat) : Int) < y0_0)), false), (dP (ZD #[vi v8] (v8)  y0_0  3), true)]) rfl (show 1 ∈ Zq (ZhS 1) from by decide +kernel) (fun gv => by kernel_rfl) (Za (Zg ⟨ltA, ltA⟩) <| oR <| oI <| Za (Zg (ZH #[vi v8] (v8)  y6_0 N c6  3 rfl (by decide) (by decide))) <| Za (Zg (ZiT #[Value.slice (some ⟨0, ((o0 + (n2 + 1)) + (0 * 1)), none⟩) ((y2_0).toNat - 0) ((n4 - 1) - 0)] (o0) (L1) ((n2 + 1)) (((y2_0).toNat - 0)) (((n4 - 1) - 0)) O0 F0 y5_0 N c5 0 3 (ZcM (Zf (Z2 eqA rfl rfl) rfl)) (by decide) (by decide))) <| oR <| Za (Zg ⟨ltA, ltA⟩) <| oI <| oR <| Za (Zg (ZH #[vi v8] (v8)  y2_0 N c2  3 rfl (by decide) (by decide))) <| oN <| Za (Zg (ZH #[vi v8] (v8)  y0_0 N c0  3 rfl (by decide) (by decide))) Zb) rfl (by decide) (by rfl) (fun _ => ⟨rr, ⟨rr, ⟨rr, ⟨⟨Eq.trans (show (Value.slice (some ⟨0, (o0 + ((y6_0).toNat + (n2 + 1))), none⟩) ((n3 - 1) - (y6_0).toNat) ((n4 - 1) - (y6_0).toNat) : Value) = Value.slice (some ⟨0, ((o0 + (n2 + 1)) + ((y6_0).toNat * 1)), none⟩) ((n3 - 1) - (y6_0).toNat) ((n4 - 1) - (y6_0).toNat) from (Z2 eqA rfl rfl)) (by rfl), by rfl⟩, ⟨rr, ⟨rr, trivial⟩⟩⟩⟩⟩⟩) ⟨rfl, ⟨⟨rfl, ⟨[], by rfl⟩, by rfl⟩, ⟨⟨rfl, ⟨[], by rfl⟩, by rfl⟩, trivial⟩⟩⟩
          ·
           exact Mach.ok_none
         ·
          exact Mach.ok_none
        ·
         exact Mach.ok_none
     ·
      exact Mach.ok_none
    ·
     exact Mach.ok_none

theorem Zng (o0 : Nat) (L1 : List Int) (n2 n3 n4 : Nat) (O0 : Obj) (F0 : ∀ i, i < L1.length → Zat O0 (o0 + i * 1) [.k .u8 (L1.getD i 0)]) (v5 v6 v7 : Nat) (v8 v9 v10 v15 : Int) (N : Nat) : (Zaw o0 L1 n2 n3 n4 O0 N).Ok Try.prog Zj (.h1m1 v5 v6 v7 v8 v9 v10 v15 : ZU) (ZaL L1 n2 n3 n4 N (.h1m1 v5 v6 v7 v8 v9 v10 v15 : ZU)) := by
 show (Zaw o0 L1 n2 n3 n4 O0 N).Ok Try.prog Zj (.h1m1 v5 v6 v7 v8 v9 v10 v15 : ZU) (Zcx L1 n2 n3 n4 N v5 v6 v7 v8 v9 v10 v15)
 unfold Zcx
 refine Mach.ok_bind (fun z0 c0 => ?_)
 cases z0 with
 | r0 y0_0 =>
  refine Mach.ok_ite (fun g1 => ?_) (fun g1 => ?_)
  ·
   exact Mach.ok_fin (M := Zaw o0 L1 n2 n3 n4 O0 N) (cd := 1000000) (cm := 0) (r := (.r0 ((6 : Int)) : Zaf)) (fu := 4000) (orc := (Zh [(1, true)] [] [] [] [(0, (ZG (v9)  y0_0  3))])) (live := [0]) (u := Value.tuple #[Value.agg #[vq, vq, vq, vq], vn, vi (6 : Int)]) (bl := [some (.ro O0)]) (ob := [((decide ((v6 : Int) < y0_0)), true), (dP (ZD #[vi v9] (v9)  y0_0  3), true)]) (fun gv => by kernel_rfl) (oY <| Za (Zg (ZH #[vi v9] (v9)  y0_0 N c0  3 rfl (by decide) (by decide))) Zb) rfl (by decide) (by rfl) rr ⟨rfl, trivial⟩
  ·
   refine Mach.ok_bind (fun z2 c2 => ?_)
   cases z2 with
   | r0 y2_0 =>
    refine Mach.ok_ite (fun g3 => ?_) (fun g3 => ?_)
    ·
     refine Mach.ok_ite (fun g4 => ?_) (fun g4 => ?_)
     ·
      refine Mach.ok_bind (fun z5 c5 => ?_)
      cases z5 with
      | r0 y5_0 =>
       refine Mach.ok_bind (fun z6 c6 => ?_)
       cases z6 with
       | r0 y6_0 =>
        refine Mach.ok_ite (fun g7 => ?_) (fun g7 => ?_)
        ·
         refine Mach.ok_ite (fun g8 => ?_) (fun g8 => ?_)
         ·
          refine Mach.ok_ite (fun g9 => ?_) (fun g9 => ?_)
          ·
           exact Mach.ok_next (M := Zaw o0 L1 n2 n3 n4 O0 N) (cd := 1000000) (cm := 0) (y := (.h1m2 (((y6_0).toNat + v5)) ((v6 - (y6_0).toNat)) ((v7 - (y6_0).toNat)) (v8) (v9) (v10) (v15) (y5_0) : ZU)) (fu := 4000) (orc := (Zh [(1, false)] [] [] [] [(0, (ZG (v9)  y0_0  3)), (1, (ZG (v9)  y2_0  3)), (2, .sl 0 (y2_0).toNat), (3, (ZiS (o0) (L1) (v5) (((y2_0).toNat - 0)) ((v7 - 0)) O0 y5_0 0 3)), (4, (ZG (v9)  y6_0  3)), (5, .sl (y6_0).toNat v6)])) (live := [0, 1, 2]) (tv := fun _ => [some (vs 0 (o0 + n2) n3 n4), some (vp 1 0), some (vp 2 0), some (Value.slice (some ⟨0, ((o0 + v5) + ((y6_0).toNat * 1)), none⟩) (v6 - (y6_0).toNat) (v7 - (y6_0).toNat)), some (Value.agg #[vi v8, vi v9, vi v10]), some (vi (2 : Int))]) (bl := [some (.ro O0), some (.cells [vq, vq, vq, vq] 44), some (.cells [vi v15, vi y5_0, vq] 52)]) (ob := [(dP ((y6_0).toNat ≤ v6 ∧ v6 ≤ v7), true), (dS v6, true), (y6_0 == Int.ofNat (y6_0).toNat, true), (dP (ZD #[vi v9] (v9)  y6_0  3), true), (dP (ZgO #[Value.slice (some ⟨0, ((o0 + v5) + (0 * 1)), none⟩) ((y2_0).toNat - 0) (v7 - 0)] (o0) (L1) (v5) (((y2_0).toNat - 0)) ((v7 - 0)) O0 y5_0 0 3), true), (dS O0, true), (dP (0 ≤ (y2_0).toNat ∧ (y2_0).toNat ≤ v7), true), (y2_0 == Int.ofNat (y2_0).toNat, true), (dS 0, true), (dP (ZD #[vi v9] (v9)  y2_0  3), true), ((decide ((v6 : Int) < y0_0)), false), (dP (ZD #[vi v9] (v9)  y0_0  3), true)]) rfl (show 1 ∈ Zq (ZhS 1) from by decide +kernel) (fun gv => by kernel_rfl) (Za (Zg ⟨ltA, ltA⟩) <| oR <| oI <| Za (Zg (ZH #[vi v9] (v9)  y6_0 N c6  3 rfl (by decide) (by decide))) <| Za (Zg (ZiT #[Value.slice (some ⟨0, ((o0 + v5) + (0 * 1)), none⟩) ((y2_0).toNat - 0) (v7 - 0)] (o0) (L1) (v5) (((y2_0).toNat - 0)) ((v7 - 0)) O0 F0 y5_0 N c5 0 3 (ZcM (Zf (Z2 eqA rfl rfl) rfl)) (by decide) (by decide))) <| oR <| Za (Zg ⟨ltA, ltA⟩) <| oI <| oR <| Za (Zg (ZH #[vi v9] (v9)  y2_0 N c2  3 rfl (by decide) (by decide))) <| oN <| Za (Zg (ZH #[vi v9] (v9)  y0_0 N c0  3 rfl (by decide) (by decide))) Zb) rfl (by decide) (by rfl) (fun _ => ⟨rr, ⟨rr, ⟨rr, ⟨⟨Eq.trans (show (Value.slice (some ⟨0, (o0 + ((y6_0).toNat + v5)), none⟩) (v6 - (y6_0).toNat) (v7 - (y6_0).toNat) : Value) = Value.slice (some ⟨0, ((o0 + v5) + ((y6_0).toNat * 1)), none⟩) (v6 - (y6_0).toNat) (v7 - (y6_0).toNat) from (Z2 eqA rfl rfl)) (by rfl), by rfl⟩, ⟨rr, ⟨rr, trivial⟩⟩⟩⟩⟩⟩) ⟨rfl, ⟨⟨rfl, ⟨[], by rfl⟩, by rfl⟩, ⟨⟨rfl, ⟨[], by rfl⟩, by rfl⟩, trivial⟩⟩⟩
          ·
           exact Mach.ok_none
         ·
          exact Mach.ok_none
        ·
         exact Mach.ok_none
     ·
      exact Mach.ok_none
    ·
     exact Mach.ok_none

theorem Znh (o0 : Nat) (L1 : List Int) (n2 n3 n4 : Nat) (O0 : Obj) (F0 : ∀ i, i < L1.length → Zat O0 (o0 + i * 1) [.k .u8 (L1.getD i 0)]) (v5 v6 v7 : Nat) (v8 v9 v10 v15 v16 : Int) (N : Nat) : (Zaw o0 L1 n2 n3 n4 O0 N).Ok Try.prog Zj (.h1m2 v5 v6 v7 v8 v9 v10 v15 v16 : ZU) (ZaL L1 n2 n3 n4 N (.h1m2 v5 v6 v7 v8 v9 v10 v15 v16 : ZU)) := by
 show (Zaw o0 L1 n2 n3 n4 O0 N).Ok Try.prog Zj (.h1m2 v5 v6 v7 v8 v9 v10 v15 v16 : ZU) (Zcy L1 n2 n3 n4 N v5 v6 v7 v8 v9 v10 v15 v16)
 unfold Zcy
 refine Mach.ok_bind (fun z0 c0 => ?_)
 cases z0 with
 | r0 y0_0 =>
  refine Mach.ok_ite (fun g1 => ?_) (fun g1 => ?_)
  ·
   exact Mach.ok_fin (M := Zaw o0 L1 n2 n3 n4 O0 N) (cd := 1000000) (cm := 0) (r := (.r0 ((6 : Int)) : Zaf)) (fu := 4000) (orc := (Zh [(1, true)] [] [] [] [(0, (ZG (v10)  y0_0  3))])) (live := [0]) (u := Value.tuple #[Value.agg #[vq, vq, vq, vq], vn, vi (6 : Int)]) (bl := [some (.ro O0)]) (ob := [((decide ((v6 : Int) < y0_0)), true), (dP (ZD #[vi v10] (v10)  y0_0  3), true)]) (fun gv => by kernel_rfl) (oY <| Za (Zg (ZH #[vi v10] (v10)  y0_0 N c0  3 rfl (by decide) (by decide))) Zb) rfl (by decide) (by rfl) rr ⟨rfl, trivial⟩
  ·
   refine Mach.ok_bind (fun z2 c2 => ?_)
   cases z2 with
   | r0 y2_0 =>
    refine Mach.ok_ite (fun g3 => ?_) (fun g3 => ?_)
    ·
     refine Mach.ok_ite (fun g4 => ?_) (fun g4 => ?_)
     ·
      refine Mach.ok_bind (fun z5 c5 => ?_)
      cases z5 with
      | r0 y5_0 =>
       refine Mach.ok_bind (fun z6 c6 => ?_)
       cases z6 with
       | r0 y6_0 =>
        refine Mach.ok_ite (fun g7 => ?_) (fun g7 => ?_)
        ·
         refine Mach.ok_ite (fun g8 => ?_) (fun g8 => ?_)
         ·
          refine Mach.ok_ite (fun g9 => ?_) (fun g9 => ?_)
          ·
           exact Mach.ok_next (M := Zaw o0 L1 n2 n3 n4 O0 N) (cd := 1000000) (cm := 0) (y := (.h1m3 (((y6_0).toNat + v5)) ((v6 - (y6_0).toNat)) ((v7 - (y6_0).toNat)) (v8) (v9) (v10) (v15) (v16) (y5_0) : ZU)) (fu := 4000) (orc := (Zh [(1, false)] [] [] [] [(0, (ZG (v10)  y0_0  3)), (1, (ZG (v10)  y2_0  3)), (2, .sl 0 (y2_0).toNat), (3, (ZiS (o0) (L1) (v5) (((y2_0).toNat - 0)) ((v7 - 0)) O0 y5_0 0 3)), (4, (ZG (v10)  y6_0  3)), (5, .sl (y6_0).toNat v6)])) (live := [0, 1, 2]) (tv := fun _ => [some (vs 0 (o0 + n2) n3 n4), some (vp 1 0), some (vp 2 0), some (Value.slice (some ⟨0, ((o0 + v5) + ((y6_0).toNat * 1)), none⟩) (v6 - (y6_0).toNat) (v7 - (y6_0).toNat)), some (Value.agg #[vi v8, vi v9, vi v10]), some (vi (3 : Int))]) (bl := [some (.ro O0), some (.cells [vq, vq, vq, vq] 44), some (.cells [vi v15, vi v16, vi y5_0] 52)]) (ob := [(dP ((y6_0).toNat ≤ v6 ∧ v6 ≤ v7), true), (dS v6, true), (y6_0 == Int.ofNat (y6_0).toNat, true), (dP (ZD #[vi v10] (v10)  y6_0  3), true), (dP (ZgO #[Value.slice (some ⟨0, ((o0 + v5) + (0 * 1)), none⟩) ((y2_0).toNat - 0) (v7 - 0)] (o0) (L1) (v5) (((y2_0).toNat - 0)) ((v7 - 0)) O0 y5_0 0 3), true), (dS O0, true), (dP (0 ≤ (y2_0).toNat ∧ (y2_0).toNat ≤ v7), true), (y2_0 == Int.ofNat (y2_0).toNat, true), (dS 0, true), (dP (ZD #[vi v10] (v10)  y2_0  3), true), ((decide ((v6 : Int) < y0_0)), false), (dP (ZD #[vi v10] (v10)  y0_0  3), true)]) rfl (show 1 ∈ Zq (ZhS 1) from by decide +kernel) (fun gv => by kernel_rfl) (Za (Zg ⟨ltA, ltA⟩) <| oR <| oI <| Za (Zg (ZH #[vi v10] (v10)  y6_0 N c6  3 rfl (by decide) (by decide))) <| Za (Zg (ZiT #[Value.slice (some ⟨0, ((o0 + v5) + (0 * 1)), none⟩) ((y2_0).toNat - 0) (v7 - 0)] (o0) (L1) (v5) (((y2_0).toNat - 0)) ((v7 - 0)) O0 F0 y5_0 N c5 0 3 (ZcM (Zf (Z2 eqA rfl rfl) rfl)) (by decide) (by decide))) <| oR <| Za (Zg ⟨ltA, ltA⟩) <| oI <| oR <| Za (Zg (ZH #[vi v10] (v10)  y2_0 N c2  3 rfl (by decide) (by decide))) <| oN <| Za (Zg (ZH #[vi v10] (v10)  y0_0 N c0  3 rfl (by decide) (by decide))) Zb) rfl (by decide) (by rfl) (fun _ => ⟨rr, ⟨rr, ⟨rr, ⟨⟨Eq.trans (show (Value.slice (some ⟨0, (o0 + ((y6_0).toNat + v5)), none⟩) (v6 - (y6_0).toNat) (v7 - (y6_0).toNat) : Value) = Value.slice (some ⟨0, ((o0 + v5) + ((y6_0).toNat * 1)), none⟩) (v6 - (y6_0).toNat) (v7 - (y6_0).toNat) from (Z2 eqA rfl rfl)) (by rfl), by rfl⟩, ⟨rr, ⟨rr, trivial⟩⟩⟩⟩⟩⟩) ⟨rfl, ⟨⟨rfl, ⟨[], by rfl⟩, by rfl⟩, ⟨⟨rfl, ⟨[], by rfl⟩, by rfl⟩, trivial⟩⟩⟩
          ·
           exact Mach.ok_none
         ·
          exact Mach.ok_none
        ·
         exact Mach.ok_none
     ·
      exact Mach.ok_none
    ·
     exact Mach.ok_none

theorem Zni (o0 : Nat) (L1 : List Int) (n2 n3 n4 : Nat) (O0 : Obj) (F0 : ∀ i, i < L1.length → Zat O0 (o0 + i * 1) [.k .u8 (L1.getD i 0)]) (v5 v6 v7 : Nat) (v8 v9 v10 v15 v16 v17 : Int) (N : Nat) : (Zaw o0 L1 n2 n3 n4 O0 N).Ok Try.prog Zj (.h1m3 v5 v6 v7 v8 v9 v10 v15 v16 v17 : ZU) (ZaL L1 n2 n3 n4 N (.h1m3 v5 v6 v7 v8 v9 v10 v15 v16 v17 : ZU)) := by
 show (Zaw o0 L1 n2 n3 n4 O0 N).Ok Try.prog Zj (.h1m3 v5 v6 v7 v8 v9 v10 v15 v16 v17 : ZU) (Zdj L1 n2 n3 n4 N v5 v6 v7 v8 v9 v10 v15 v16 v17)
 unfold Zdj
 refine Mach.ok_ite (fun g0 => ?_) (fun g0 => ?_)
 ·
  refine Mach.ok_ite (fun g1 => ?_) (fun g1 => ?_)
  ·
   refine Mach.ok_ite (fun g2 => ?_) (fun g2 => ?_)
   ·
    refine Mach.ok_ite (fun g3 => ?_) (fun g3 => ?_)
    ·
     refine Mach.ok_bind (fun z4 c4 => ?_)
     cases z4 with
     | r0 y4_0 =>
      refine Mach.ok_ite (fun g5 => ?_) (fun g5 => ?_)
      ·
       exact Mach.ok_fin (M := Zaw o0 L1 n2 n3 n4 O0 N) (cd := 1000000) (cm := 0) (r := (.r0 (y4_0) : Zaf)) (fu := 4000) (orc := (Zh [(1, true)] [(0, (L1.getD n2 0))] [(0, 0)] [(0, [.k .u8 (L1.getD n2 0)])] [(1, (Zdn ((L1.getD n2 0)) (v15) (v16) (v17)  y4_0  4))])) (live := [0]) (u := Value.tuple #[Value.agg #[vq, vq, vq, vq], vn, vi y4_0]) (bl := [some (.ro O0)]) (ob := [((y4_0 != (0 : Int)), true), (dP (ZcH #[Value.agg #[vi (L1.getD n2 0), vi v15, vi v16, vi v17]] ((L1.getD n2 0)) (v15) (v16) (v17)  y4_0  4), true), ((IntKind.i64.wrap (L1.getD n2 0)) == (L1.getD n2 0), true), (Zan (Za1 O0 ((o0 + n2) + (0 * 1)) 1) [.k .u8 (L1.getD n2 0)], true), (Nat.blt 0 n3, true), ((0 : Int) == Int.ofNat 0, true)]) (fun gv => by kernel_rfl) (oD <| Za (Zg (Zdo #[Value.agg #[vi (L1.getD n2 0), vi v15, vi v16, vi v17]] ((L1.getD n2 0)) (v15) (v16) (v17)  y4_0 N c4  4 rfl (by decide) (by decide))) <| Za (beq_iff_eq.2 (wrap_i64 ltA)) <| Za ((show (o0 + n2 * 1 + 0) = ((o0 + n2) + (0 * 1)) from by omega) ▸ F0 n2 (by omega) 0 1 (show 0 + 1 ≤ 1 from by decide)) <| oB <| oI Zb) rfl (by decide) (by rfl) rr ⟨rfl, trivial⟩
      ·
       refine Mach.ok_ite (fun g6 => ?_) (fun g6 => ?_)
       ·
        exact Mach.ok_fin (M := Zaw o0 L1 n2 n3 n4 O0 N) (cd := 1000000) (cm := 0) (r := (.r1 (v15) (v16) (v17) (([] : List Int)) : Zaf)) (fu := 4000) (orc := (Zh [(1, false)] [(0, (L1.getD n2 0))] [(0, 0)] [(0, [.k .u8 (L1.getD n2 0)])] [(1, (Zdn ((L1.getD n2 0)) (v15) (v16) (v17)  y4_0  4)), (2, .ap0)])) (live := [0, 4]) (u := Value.tuple #[Value.agg #[vi (L1.getD n2 0), vi v15, vi v16, vi v17], vs 4 0 0 0, vq]) (bl := [some (.ro O0), some (.cells [] 5)]) (ob := [(dP (0 = v6 ∧ ((v6 * 1 = 0 ∧ ([] : List Value) = []) ∨ (v6 * 1 ≠ 0 ∧ Za1 O0 (o0 + v5) (v6 * 1) = some [] ∧ ZV atom [] = true))), true), ((y4_0 != (0 : Int)), false), (dP (ZcH #[Value.agg #[vi (L1.getD n2 0), vi v15, vi v16, vi v17]] ((L1.getD n2 0)) (v15) (v16) (v17)  y4_0  4), true), ((IntKind.i64.wrap (L1.getD n2 0)) == (L1.getD n2 0), true), (Zan (Za1 O0 ((o0 + n2) + (0 * 1)) 1) [.k .u8 (L1.getD n2 0)], true), (Nat.blt 0 n3, true), ((0 : Int) == Int.ofNat 0, true)]) (fun gv => by kernel_rfl) (Za (Zg ⟨by omega, .inl ⟨by omega, rfl⟩⟩) <| oE <| Za (Zg (Zdo #[Value.agg #[vi (L1.getD n2 0), vi v15, vi v16, vi v17]] ((L1.getD n2 0)) (v15) (v16) (v17)  y4_0 N c4  4 rfl (by decide) (by decide))) <| Za (beq_iff_eq.2 (wrap_i64 ltA)) <| Za ((show (o0 + n2 * 1 + 0) = ((o0 + n2) + (0 * 1)) from by omega) ▸ F0 n2 (by omega) 0 1 (show 0 + 1 ≤ 1 from by decide)) <| oB <| oI Zb) rfl (by decide) (by rfl) ⟨Eq.trans (show (Value.tuple #[Value.agg #[vi (L1.getD n2 0), vi v15, vi v16, vi v17], vs 1 0 ([] : List Int).length ([] : List Int).length, vq] : Value) = Value.tuple #[Value.agg #[vi (L1.getD n2 0), vi v15, vi v16, vi v17], vs 1 0 0 0, vq] from (ZaD (Zf rfl (Zf (Z2 rfl eqA eqA) (Zf rfl rfl))))) (by rfl), by rfl⟩ ⟨rfl, ⟨(Zaq (E := (Ze .u8)) _ (L := ([] : List Int)) _ (show ([] : List Value) = Zc (Ze .u8) ([] : List Int) from rfl)), trivial⟩⟩
       ·
        refine Mach.ok_ite (fun g7 => ?_) (fun g7 => ?_)
        ·
         refine Mach.ok_ite (fun g8 => ?_) (fun g8 => ?_)
         ·
          exact Mach.ok_fin (M := Zaw o0 L1 n2 n3 n4 O0 N) (cd := 1000000) (cm := 0) (r := (.r1 (v15) (v16) (v17) (((L1.drop v5).take v6)) : Zaf)) (fu := 4000) (orc := (Zh [(1, false)] [(0, (L1.getD n2 0))] [(0, 0)] [(0, [.k .u8 (L1.getD n2 0)])] [(1, (Zdn ((L1.getD n2 0)) (v15) (v16) (v17)  y4_0  4)), (2, .ap v6 (Zc (Ze .u8) ((L1.drop v5).take v6)) (Zc (Ze .u8) ((L1.drop v5).take v6)))])) (live := [0, 5]) (u := Value.tuple #[Value.agg #[vi (L1.getD n2 0), vi v15, vi v16, vi v17], vs 5 0 (0 + v6) (0 + v6), vq]) (bl := [some (.ro O0), some (.cells (Zc (Ze .u8) ((L1.drop v5).take v6)) 5)]) (ob := [(dP ((v6 = v6 ∧ ((v6 * 1 = 0 ∧ (Zc (Ze .u8) ((L1.drop v5).take v6)) = []) ∨ (v6 * 1 ≠ 0 ∧ Za1 O0 (o0 + v5) (v6 * 1) = some (Zc (Ze .u8) ((L1.drop v5).take v6)) ∧ ZV atom (Zc (Ze .u8) ((L1.drop v5).take v6)) = true))) ∧ 0 < v6 ∧ v6 ≤ 100000 ∧ 0 < 0 + v6 ∧ 0 ≤ 100000 ∧ 0 * 1 ≤ (List.length []) ∧ List.take (0 * 1) [] ++ (Zc (Ze .u8) ((L1.drop v5).take v6)) = (Zc (Ze .u8) ((L1.drop v5).take v6))), true), ((y4_0 != (0 : Int)), false), (dP (ZcH #[Value.agg #[vi (L1.getD n2 0), vi v15, vi v16, vi v17]] ((L1.getD n2 0)) (v15) (v16) (v17)  y4_0  4), true), ((IntKind.i64.wrap (L1.getD n2 0)) == (L1.getD n2 0), true), (Zan (Za1 O0 ((o0 + n2) + (0 * 1)) 1) [.k .u8 (L1.getD n2 0)], true), (Nat.blt 0 n3, true), ((0 : Int) == Int.ofNat 0, true)]) (fun gv => by kernel_rfl) (Za (Zg ⟨⟨rfl, .inr ⟨by omega, ZuG (E := (Ze .u8)) (C := fun x : Int => [.k .u8 x]) (L := L1) (b := o0) (a := v5) (n := v6) F0 (fun x => ⟨rfl, rfl⟩) (by omega) (by omega) (show _ = _ + _ * 1 from by omega) (show _ = _ * 1 from rfl) rfl⟩⟩, by omega, by omega, ltA, by omega, (Zci (E := (Ze .u8)) (L := ([] : List Int)) (M := ((L1.drop v5).take v6)) (n := 0) (show _ = _ * 1 from rfl) ltA (R := ((L1.drop v5).take v6)) (by rw [List.take_of_length_le ltA]; rfl))⟩) <| oE <| Za (Zg (Zdo #[Value.agg #[vi (L1.getD n2 0), vi v15, vi v16, vi v17]] ((L1.getD n2 0)) (v15) (v16) (v17)  y4_0 N c4  4 rfl (by decide) (by decide))) <| Za (beq_iff_eq.2 (wrap_i64 ltA)) <| Za ((show (o0 + n2 * 1 + 0) = ((o0 + n2) + (0 * 1)) from by omega) ▸ F0 n2 (by omega) 0 1 (show 0 + 1 ≤ 1 from by decide)) <| oB <| oI Zb) rfl (by decide) (by rfl) ⟨Eq.trans (show (Value.tuple #[Value.agg #[vi (L1.getD n2 0), vi v15, vi v16, vi v17], vs 1 0 ((L1.drop v5).take v6).length ((L1.drop v5).take v6).length, vq] : Value) = Value.tuple #[Value.agg #[vi (L1.getD n2 0), vi v15, vi v16, vi v17], vs 1 0 (0 + v6) (0 + v6), vq] from (ZaD (Zf rfl (Zf (Z2 rfl eqA eqA) (Zf rfl rfl))))) (by rfl), by rfl⟩ ⟨rfl, ⟨(Zn (E := (Ze .u8)) (α := Int) _ ((L1.drop v5).take v6) _), trivial⟩⟩
         ·
          exact Mach.ok_none
        ·
         exact Mach.ok_none
    ·
     exact Mach.ok_none
   ·
    exact Mach.ok_none
  ·
   exact Mach.ok_none
 ·
  exact Mach.ok_none

theorem Zp8 (o0 : Nat) (L1 : List Int) (n2 n3 n4 : Nat) (O0 : Obj) (F0 : ∀ i, i < L1.length → Zat O0 (o0 + i * 1) [.k .u8 (L1.getD i 0)]) (N : Nat) : (Zaw o0 L1 n2 n3 n4 O0 N).Enter Try.prog Zj #[vs 0 (o0 + n2) n3 n4] (ZeQ L1 n2 n3 n4 N) := by
 unfold ZeQ
 refine Mach.en_ite (fun g0 => ?_) (fun g0 => ?_)
 ·
  exact Mach.en_fin (M := Zaw o0 L1 n2 n3 n4 O0 N) (cd := 1000000) (cm := 0) (r := (.r0 ((6 : Int)) : Zaf)) (fu := 4000) (orc := (Zh [(0, true)] [] [] [] [])) (live := [0]) (u := Value.tuple #[Value.agg #[vq, vq, vq, vq], vn, vi (6 : Int)]) (bl := [some (.ro O0)]) (ob := [(((n3 : Int) == (0 : Int)), true)]) (by kernel_rfl) (oT Zb) rfl (by decide) (by rfl) rr ⟨rfl, trivial⟩
 ·
  refine Mach.en_ite (fun g1 => ?_) (fun g1 => ?_)
  ·
   refine Mach.en_ite (fun g2 => ?_) (fun g2 => ?_)
   ·
    refine Mach.en_ite (fun g3 => ?_) (fun g3 => ?_)
    ·
     refine Mach.en_bind (fun z4 c4 => ?_)
     cases z4 with
     | r0 y4_0 y4_1 y4_2 y4_3 =>
      refine Mach.en_ite (fun g5 => ?_) (fun g5 => ?_)
      ·
       exact Mach.en_fin (M := Zaw o0 L1 n2 n3 n4 O0 N) (cd := 1000000) (cm := 0) (r := (.r0 ((100 : Int)) : Zaf)) (fu := 4000) (orc := (Zh [(0, false), (1, true)] [(0, (L1.getD n2 0))] [(0, 0)] [(0, [.k .u8 (L1.getD n2 0)])] [(0, (ZeV ((L1.getD n2 0))  y4_0 y4_1 y4_2 y4_3  2))])) (live := [0]) (u := Value.tuple #[Value.agg #[vq, vq, vq, vq], vn, vi (100 : Int)]) (bl := [some (.ro O0)]) (ob := [(((Z5 y4_0).toList == (⟨#[]⟩ : ByteArray).toList), true), (dP (Zea #[vi (L1.getD n2 0)] ((L1.getD n2 0))  y4_0 y4_1 y4_2 y4_3  2), true), ((IntKind.i64.wrap (L1.getD n2 0)) == (L1.getD n2 0), true), (Zan (Za1 O0 ((o0 + n2) + (0 * 1)) 1) [.k .u8 (L1.getD n2 0)], true), (Nat.blt 0 n3, true), ((0 : Int) == Int.ofNat 0, true), (((n3 : Int) == (0 : Int)), false)]) (by kernel_rfl) (Za (Zd9 (x := y4_0) (y := ([] : List Int)) (by assumption)) <| Za (Zg (ZeW #[vi (L1.getD n2 0)] ((L1.getD n2 0))  y4_0 y4_1 y4_2 y4_3 N c4  2 rfl (by decide) (by decide))) <| Za (beq_iff_eq.2 (wrap_i64 ltA)) <| Za ((show (o0 + n2 * 1 + 0) = ((o0 + n2) + (0 * 1)) from by omega) ▸ F0 n2 (by omega) 0 1 (show 0 + 1 ≤ 1 from by decide)) <| oB <| oI <| oF Zb) rfl (by decide) (by rfl) rr ⟨rfl, trivial⟩
      ·
       refine Mach.en_ite (fun g6 => ?_) (fun g6 => ?_)
       ·
        exact Mach.en_head (bK := ZcK 1) (M := Zaw o0 L1 n2 n3 n4 O0 N) (cd := 1000000) (cm := 0) (y := (.h1m0 (y4_1) (y4_2) (y4_3) : ZU)) (fu := 4000) (orc := (Zh [(0, false), (1, false)] [(0, (L1.getD n2 0))] [(0, 0)] [(0, [.k .u8 (L1.getD n2 0)])] [(0, (ZeV ((L1.getD n2 0))  y4_0 y4_1 y4_2 y4_3  2)), (2, .sl 1 n3)])) (live := [0, 1, 3]) (tv := [some (vs 0 (o0 + n2) n3 n4), some (vp 1 0), some (vp 3 0), some (Value.slice (some ⟨0, ((o0 + n2) + (1 * 1)), none⟩) (n3 - 1) (n4 - 1)), some (Value.agg #[vi y4_1, vi y4_2, vi y4_3]), some (vq)]) (bl := [some (.ro O0), some (.cells [vq, vq, vq, vq] 44), some (.cells [vq, vq, vq] 52)]) (ob := [(dP (1 ≤ n3 ∧ n3 ≤ n4), true), (dS n3, true), ((1 : Int) == Int.ofNat 1, true), (((Z5 y4_0).toList == (⟨#[]⟩ : ByteArray).toList), false), (dP (Zea #[vi (L1.getD n2 0)] ((L1.getD n2 0))  y4_0 y4_1 y4_2 y4_3  2), true), ((IntKind.i64.wrap (L1.getD n2 0)) == (L1.getD n2 0), true), (Zan (Za1 O0 ((o0 + n2) + (0 * 1)) 1) [.k .u8 (L1.getD n2 0)], true), (Nat.blt 0 n3, true), ((0 : Int) == Int.ofNat 0, true), (((n3 : Int) == (0 : Int)), false)]) rfl rfl (show Zq (ZcK 1).2 = [] from rfl) (by kernel_rfl) (Za (Zg ⟨ltA, ltA⟩) <| oR <| oI <| Za (Zgm (x := y4_0) (y := ([] : List Int)) (by assumption)) <| Za (Zg (ZeW #[vi (L1.getD n2 0)] ((L1.getD n2 0))  y4_0 y4_1 y4_2 y4_3 N c4  2 rfl (by decide) (by decide))) <| Za (beq_iff_eq.2 (wrap_i64 ltA)) <| Za ((show (o0 + n2 * 1 + 0) = ((o0 + n2) + (0 * 1)) from by omega) ▸ F0 n2 (by omega) 0 1 (show 0 + 1 ≤ 1 from by decide)) <| oB <| oI <| oF Zb) rfl (by decide) (by rfl) ⟨rr, ⟨rr, ⟨rr, ⟨⟨Eq.trans (show (Value.slice (some ⟨0, (o0 + (n2 + 1)), none⟩) (n3 - 1) (n4 - 1) : Value) = Value.slice (some ⟨0, ((o0 + n2) + (1 * 1)), none⟩) (n3 - 1) (n4 - 1) from (Z2 eqA rfl rfl)) (by rfl), by rfl⟩, ⟨rr, ⟨rr, trivial⟩⟩⟩⟩⟩⟩ ⟨rfl, ⟨⟨rfl, ⟨[], by rfl⟩, by rfl⟩, ⟨⟨rfl, ⟨[], by rfl⟩, by rfl⟩, trivial⟩⟩⟩
       ·
        exact Mach.en_none
    ·
     exact Mach.en_none
   ·
    exact Mach.en_none
  ·
   exact Mach.en_none

theorem Zif (o0 : Nat) (L1 : List Int) (n2 n3 n4 : Nat) (O0 : Obj) (F0 : ∀ i, i < L1.length → Zat O0 (o0 + i * 1) [.k .u8 (L1.getD i 0)]) (N : Nat) (r : Zaf) (h : Zdc L1 n2 n3 n4 N = some r) : LSpec Try.prog 18 #[vs 0 (o0 + n2) n3 n4] [.ro O0] (ZlR o0 L1 n2 n3 n4 O0 r) (Zk7 o0 L1 n2 n3 n4 O0 r) :=
 Mach.spec ZaR (Zaw o0 L1 n2 n3 n4 O0 N) Try.func18 (by kernel_rfl) (by kernel_rfl) (fun x => by cases x <;> exact Zal _ rfl) (fun r => by cases r <;> exact Zal _ rfl) (fun x => by
  cases x with
  | h1m0 _ _ _ => exact fun _ => (show ¬ (1 ∈ Zq (ZcK 1).2) from by decide +kernel)
  | h1m1 _ _ _ _ _ _ _ => exact fun _ => (show ¬ (1 ∈ Zq (ZcK 1).2) from by decide +kernel)
  | h1m2 _ _ _ _ _ _ _ _ => exact fun _ => (show ¬ (1 ∈ Zq (ZcK 1).2) from by decide +kernel)
  | h1m3 _ _ _ _ _ _ _ _ _ => exact fun _ => (show ¬ (1 ∈ Zq (ZcK 1).2) from by decide +kernel)
  ) (fun x => (show (Zaw o0 L1 n2 n3 n4 O0 N).Ok Try.prog Zj x (ZaL L1 n2 n3 n4 N x) from by
  cases x with
  | h1m0 v8 v9 v10 => exact Znf o0 L1 n2 n3 n4 O0 F0 v8 v9 v10 N
  | h1m1 v5 v6 v7 v8 v9 v10 v15 => exact Zng o0 L1 n2 n3 n4 O0 F0 v5 v6 v7 v8 v9 v10 v15 N
  | h1m2 v5 v6 v7 v8 v9 v10 v15 v16 => exact Znh o0 L1 n2 n3 n4 O0 F0 v5 v6 v7 v8 v9 v10 v15 v16 N
  | h1m3 v5 v6 v7 v8 v9 v10 v15 v16 v17 => exact Zni o0 L1 n2 n3 n4 O0 F0 v5 v6 v7 v8 v9 v10 v15 v16 v17 N
  )) (Zp8 o0 L1 n2 n3 n4 O0 F0 N) (n := N) h

noncomputable def Zk9 (o0 : Nat) (L1 : List Int) (n2 n3 n4 : Nat) (O0 : Obj) (w6 : Int) (k0 n : Nat) : Za4 := .call [(k0, .ro O0)] (Value.tuple #[Value.agg #[vq, vq, vq, vq], vn, vi w6]) [] 0
def Zhq (A : Array Value) (o0 : Nat) (L1 : List Int) (n2 n3 n4 : Nat) (O0 : Obj) (w6 : Int) (k0 n : Nat) : Prop := ZB Try.prog 18 A [(k0, .ro O0)] (Value.tuple #[Value.agg #[vq, vq, vq, vq], vn, vi w6]) [] n 0

theorem ZkA (A : Array Value) (o0 : Nat) (L1 : List Int) (n2 n3 n4 : Nat) (O0 : Obj) (F0 : ∀ i, i < L1.length → Zat O0 (o0 + i * 1) [.k .u8 (L1.getD i 0)]) (w6 : Int) (N : Nat) (h : Zdc L1 n2 n3 n4 N = some (.r0 w6)) (k0 n : Nat) (hA : A = #[vs k0 (o0 + n2) n3 n4]) (hnd : ([k0] : List Nat).Nodup) (hlt : ∀ k ∈ ([k0] : List Nat), k < n) : Zhq A o0 L1 n2 n3 n4 O0 w6 k0 n :=
 ZQ hA (LSpec.callL (show LSpec Try.prog 18 #[vs 0 (o0 + n2) n3 n4] [.ro O0] (Value.tuple #[Value.agg #[vq, vq, vq, vq], vn, vi w6]) [some (.ro O0)] from Zif o0 L1 n2 n3 n4 O0 F0 N _ h) [k0] n [] rfl hnd hlt (show 1 ≤ 1 from by decide) (show ∀ j ∈ ([] : List Nat), j < 1 from by decide) (by rfl) ⟨rfl, trivial⟩ (by rfl) ⟨rfl, trivial⟩ ⟨.inr rfl, trivial⟩ rfl rfl rfl (Zf (ZaJ rfl rfl) rfl) rfl)

noncomputable def Zqj (o0 : Nat) (L1 : List Int) (n2 n3 n4 : Nat) (O0 : Obj) (w3 w4 w5 : Int) (w6 : List Int) (k0 n : Nat) : Za4 := .call [(k0, .ro O0)] (Value.tuple #[Value.agg #[vi (L1.getD n2 0), vi w3, vi w4, vi w5], vs n 0 w6.length w6.length, vq]) [(n, some (.cells (Zc (Ze .u8) w6) 5))] 1
def ZkB (A : Array Value) (o0 : Nat) (L1 : List Int) (n2 n3 n4 : Nat) (O0 : Obj) (w3 w4 w5 : Int) (w6 : List Int) (k0 n : Nat) : Prop := ZB Try.prog 18 A [(k0, .ro O0)] (Value.tuple #[Value.agg #[vi (L1.getD n2 0), vi w3, vi w4, vi w5], vs n 0 w6.length w6.length, vq]) [(n, some (.cells (Zc (Ze .u8) w6) 5))] n 1

theorem Zqk (A : Array Value) (o0 : Nat) (L1 : List Int) (n2 n3 n4 : Nat) (O0 : Obj) (F0 : ∀ i, i < L1.length → Zat O0 (o0 + i * 1) [.k .u8 (L1.getD i 0)]) (w3 w4 w5 : Int) (w6 : List Int) (N : Nat) (h : Zdc L1 n2 n3 n4 N = some (.r1 w3 w4 w5 w6)) (k0 n : Nat) (hA : A = #[vs k0 (o0 + n2) n3 n4]) (hnd : ([k0] : List Nat).Nodup) (hlt : ∀ k ∈ ([k0] : List Nat), k < n) : ZkB A o0 L1 n2 n3 n4 O0 w3 w4 w5 w6 k0 n :=
 ZQ hA (LSpec.callL (show LSpec Try.prog 18 #[vs 0 (o0 + n2) n3 n4] [.ro O0] (Value.tuple #[Value.agg #[vi (L1.getD n2 0), vi w3, vi w4, vi w5], vs 1 0 w6.length w6.length, vq]) [some (.ro O0), some (.cells (Zc (Ze .u8) w6) 5)] from Zif o0 L1 n2 n3 n4 O0 F0 N _ h) [k0] n [1] rfl hnd hlt (show 1 ≤ 2 from by decide) (show ∀ j ∈ ([1] : List Nat), j < 2 from by decide) (by rfl) ⟨rfl, trivial⟩ (by rfl) ⟨rfl, ⟨(ZaE _ _ _), trivial⟩⟩ ⟨.inr rfl, ⟨(by decide), trivial⟩⟩ rfl rfl rfl (Zf (ZaJ rfl rfl) rfl) (Zf (ZaJ rfl (ZeN (ZbJ _ _ _))) rfl))

noncomputable def ZjA  : ZdE → Value
 | .r0 => Value.tuple #[Value.agg #[vq, vq, vq, vq], vn, vi (6 : Int)]
noncomputable def ZiU  : ZdE → List (Option AObj)
 | .r0 => []

theorem ZnR  (N : Nat) : Fx Try.prog Zj Try.f18 [] #[vn] (ZjA ) (ZiU ) (ZeR  N) := by
 unfold ZeR
 exact Zk (r := (.r0 : ZdE)) (fu := 4000) (orc := (Zh [] [] [] [] [])) (live := []) (u := Value.tuple #[Value.agg #[vq, vq, vq, vq], vn, vi (6 : Int)]) (bl := []) (ob := []) (by kernel_rfl) Zb rfl (by decide) (by rfl) rr trivial

theorem Zma  (N : Nat) (r : ZdE) (h : ZeR  N = some r) : LSpec Try.prog 18 #[vn] [] (ZjA  r) (ZiU  r) :=
 ZdD ZaR Try.func18 (by kernel_rfl) (by kernel_rfl) (fun r => by cases r <;> exact Zal _ rfl) (ZnR  N) h

noncomputable def ZoH  (n : Nat) : Za4 := .call [] (Value.tuple #[Value.agg #[vq, vq, vq, vq], vn, vi (6 : Int)]) [] 0
def ZiV (A : Array Value)  (n : Nat) : Prop := ZB Try.prog 18 A [] (Value.tuple #[Value.agg #[vq, vq, vq, vq], vn, vi (6 : Int)]) [] n 0

theorem ZoI (A : Array Value)  (N : Nat) (h : ZeR  N = some (.r0)) (n : Nat) (hA : A = #[vn]) (hnd : ([] : List Nat).Nodup) (hlt : ∀ k ∈ ([] : List Nat), k < n) : ZiV A   n :=
 ZQ hA (LSpec.callL (show LSpec Try.prog 18 #[vn] [] (Value.tuple #[Value.agg #[vq, vq, vq, vq], vn, vi (6 : Int)]) [] from Zma  N _ h) [] n [] rfl hnd hlt (show 0 ≤ 0 from by decide) (show ∀ j ∈ ([] : List Nat), j < 0 from by decide) (by rfl) trivial (by rfl) trivial trivial rfl rfl rfl rfl rfl)

noncomputable def ZlS (L0 : List Int) (n1 n2 n3 : Nat) : Zcn → Value
 | .r0 w1 => vi w1
noncomputable def ZkC (L0 : List Int) (n1 n2 n3 : Nat) : Zcn → List (Option AObj)
 | .r0 w1 => [some (.cells (Zc (Ze .u8) L0) 5)]

def Zql : ZaW → Nat
 | .h1m0 v1 v6 => 1
noncomputable def Zr1 (L0 : List Int) (n1 n2 n3 : Nat) : ZaW → List (Nat × Value)
 | .h1m0 v1 v6 => [(3, Value.int .u64 v1), (6, vs 0 n1 n2 n3), (7, vi (n2 : Int)), (8, vi (v6 : Int))]
noncomputable def Zr2 (L0 : List Int) (n1 n2 n3 : Nat) : ZaW → List (Option AObj)
 | .h1m0 v1 v6 => [some (.cells (Zc (Ze .u8) L0) 5)]

noncomputable def Zes : Nat → Code × List Za2
 | 1 => Zbz [1, 1, 0, 1, 3] (Zbh Try.f30) []
 | _ => (.skip, [])
def ZkD : Nat → Bool
 | 1 => true
 | _ => true
noncomputable def Zr3 (i : Nat) : List Za2 := match ZkD i with | true => .rnd i :: (Zes i).2 | false => (Zes i).2

noncomputable def Zdp (L0 : List Int) (n1 n2 n3 N : Nat) : Mach := ⟨Try.f30, [.cells (Zc (Ze .u8) L0) 5], ZaW, Zcn, Zeg L0 n1 n2 n3 N, Zql, Zes, ZkD, Zr1 L0 n1 n2 n3, Zr2 L0 n1 n2 n3, ZlS L0 n1 n2 n3, ZkC L0 n1 n2 n3⟩

theorem Znj (L0 : List Int) (n1 n2 n3 : Nat) (v1 : Int) (v6 N : Nat) : (Zdp L0 n1 n2 n3 N).Ok Try.prog Zj (.h1m0 v1 v6 : ZaW) (Zeg L0 n1 n2 n3 N (.h1m0 v1 v6 : ZaW)) := by
 show (Zdp L0 n1 n2 n3 N).Ok Try.prog Zj (.h1m0 v1 v6 : ZaW) (Zcz L0 n1 n2 n3 N v1 v6)
 unfold Zcz
 refine Mach.ok_ite (fun g0 => ?_) (fun g0 => ?_)
 ·
  refine Mach.ok_ite (fun g1 => ?_) (fun g1 => ?_)
  ·
   refine Mach.ok_ite (fun g2 => ?_) (fun g2 => ?_)
   ·
    refine Mach.ok_ite (fun g3 => ?_) (fun g3 => ?_)
    ·
     refine Mach.ok_ite (fun g4 => ?_) (fun g4 => ?_)
     ·
      exact Mach.ok_next (M := Zdp L0 n1 n2 n3 N) (cd := 1000000) (cm := 0) (y := (.h1m0 ((IntKind.u64.wrap (((BitVec.ofInt IntKind.u64.bits (IntKind.u64.wrap (v1 * (2 ^ 8 : Int))) ||| BitVec.ofInt IntKind.u64.bits (L0.getD (v6 + n1) 0)).toNat : Nat) : Int))) ((v6 + 1)) : ZaW)) (fu := 4000) (orc := (Zh [(0, true)] [(1, (L0.getD (v6 + n1) 0)), (3, (((v6 + 1) : Nat) : Int))] [(0, v6)] [(0, [.k .u8 (L0.getD (v6 + n1) 0)])] [])) (live := [0]) (tv := fun _ => [some (Value.int .u64 (IntKind.u64.wrap (((BitVec.ofInt IntKind.u64.bits (IntKind.u64.wrap (v1 * (2 ^ 8 : Int))) ||| BitVec.ofInt IntKind.u64.bits (L0.getD (v6 + n1) 0)).toNat : Nat) : Int))), some (vs 0 n1 n2 n3), some (vi (n2 : Int)), some (vi (((v6 + 1) : Nat) : Int))]) (bl := [some (.cells (Zc (Ze .u8) L0) 5)]) (ob := [((IntKind.i64.wrap ((v6 : Int) + (1 : Int))) == (((v6 + 1) : Nat) : Int), true), ((IntKind.u64.wrap (L0.getD (v6 + n1) 0)) == (L0.getD (v6 + n1) 0), true), (Zan (Z4 1 (List.drop (n1 + (v6 * 1)) (Zc (Ze .u8) L0))) [.k .u8 (L0.getD (v6 + n1) 0)], true), (Nat.blt v6 n2, true), ((v6 : Int) == Int.ofNat v6, true), ((decide ((v6 : Int) < (n2 : Int))), true)]) rfl (show 1 ∈ Zq (Zr3 1) from by decide +kernel) (fun gv => by kernel_rfl) (Za (beq_iff_eq.2 ((wrap_i64 ltA).trans (by first | rfl | omega))) <| Za (beq_iff_eq.2 (Zaa ltA)) <| Za (ZbH (E := (Ze .u8)) (L := L0) (i := (v6 + n1)) (q := 0) (by omega) (show (n1 + (v6 * 1)) = (v6 + n1) * 1 + 0 from by omega) (show 0 + 1 ≤ 1 from by decide) rfl rfl) <| oB <| oI <| oY Zb) rfl (by decide) (by rfl) (fun _ => ⟨rr, ⟨rr, ⟨rr, ⟨rr, trivial⟩⟩⟩⟩) ⟨(Zn (E := (Ze .u8)) (α := Int) _ L0 _), trivial⟩
     ·
      exact Mach.ok_none
    ·
     exact Mach.ok_none
   ·
    exact Mach.ok_none
  ·
   exact Mach.ok_none
 ·
  exact Mach.ok_fin (M := Zdp L0 n1 n2 n3 N) (cd := 1000000) (cm := 0) (r := (.r0 ((IntKind.i64.wrap v1)) : Zcn)) (fu := 4000) (orc := (Zh [(0, false)] [] [] [] [])) (live := [0]) (u := vi (IntKind.i64.wrap v1)) (bl := [some (.cells (Zc (Ze .u8) L0) 5)]) (ob := [((decide ((v6 : Int) < (n2 : Int))), false)]) (fun gv => by kernel_rfl) (oN Zb) rfl (by decide) (by rfl) rr ⟨(Zn (E := (Ze .u8)) (α := Int) _ L0 _), trivial⟩

theorem Zp9 (L0 : List Int) (n1 n2 n3 N : Nat) : (Zdp L0 n1 n2 n3 N).Enter Try.prog Zj #[vs 0 n1 n2 n3] (Zhk L0 n1 n2 n3 N) := by
 unfold Zhk
 exact Mach.en_head (bK := Zes 1) (M := Zdp L0 n1 n2 n3 N) (cd := 1000000) (cm := 0) (y := (.h1m0 ((0 : Int)) (0) : ZaW)) (fu := 4000) (orc := (Zh [] [] [] [] [])) (live := [0]) (tv := [some (Value.int .u64 (0 : Int)), some (vs 0 n1 n2 n3), some (vi (n2 : Int)), some (vq)]) (bl := [some (.cells (Zc (Ze .u8) L0) 5)]) (ob := []) rfl rfl (show Zq (Zes 1).2 = [] from rfl) (by kernel_rfl) Zb rfl (by decide) (by rfl) ⟨rr, ⟨rr, ⟨rr, ⟨⟨Eq.trans (show (vi ((0 : Nat) : Int) : Value) = vq from (congrArg (Value.int .i64) (by first | rfl | omega))) (by rfl), by rfl⟩, trivial⟩⟩⟩⟩ ⟨(Zn (E := (Ze .u8)) (α := Int) _ L0 _), trivial⟩

theorem ZnS (L0 : List Int) (n1 n2 n3 N : Nat) (r : Zcn) (h : ZcA L0 n1 n2 n3 N = some r) : LSpec Try.prog 30 #[vs 0 n1 n2 n3] [.cells (Zc (Ze .u8) L0) 5] (ZlS L0 n1 n2 n3 r) (ZkC L0 n1 n2 n3 r) :=
 Mach.spec ZaR (Zdp L0 n1 n2 n3 N) Try.func30 (by kernel_rfl) (by kernel_rfl) (fun x => by cases x <;> exact Zal _ rfl) (fun r => by cases r <;> exact Zal _ rfl) (fun x => by
  cases x with
  | h1m0 _ _ => exact fun _ => (show ¬ (1 ∈ Zq (Zes 1).2) from by decide +kernel)
  ) (fun x => (show (Zdp L0 n1 n2 n3 N).Ok Try.prog Zj x (Zeg L0 n1 n2 n3 N x) from by
  cases x with
  | h1m0 v1 v6 => exact Znj L0 n1 n2 n3 v1 v6 N
  )) (Zp9 L0 n1 n2 n3 N) (n := N) h

noncomputable def Zhr (L0 : List Int) (n1 n2 n3 : Nat) (w1 : Int) (k0 n : Nat) : Za4 := .call [(k0, .cells (Zc (Ze .u8) L0) 5)] (vi w1) [] 0
def ZfW (A : Array Value) (L0 : List Int) (n1 n2 n3 : Nat) (w1 : Int) (k0 n : Nat) : Prop := ZB Try.prog 30 A [(k0, .cells (Zc (Ze .u8) L0) 5)] (vi w1) [] n 0

theorem Zhs (A : Array Value) (L0 : List Int) (n1 n2 n3 : Nat) (w1 : Int) (N : Nat) (h : ZcA L0 n1 n2 n3 N = some (.r0 w1)) (k0 n : Nat) (hA : A = #[vs k0 n1 n2 n3]) (hnd : ([k0] : List Nat).Nodup) (hlt : ∀ k ∈ ([k0] : List Nat), k < n) : ZfW A L0 n1 n2 n3 w1 k0 n :=
 ZQ hA (LSpec.callL (show LSpec Try.prog 30 #[vs 0 n1 n2 n3] [.cells (Zc (Ze .u8) L0) 5] (vi w1) [some (.cells (Zc (Ze .u8) L0) 5)] from ZnS L0 n1 n2 n3 N _ h) [k0] n [] rfl hnd hlt (show 1 ≤ 1 from by decide) (show ∀ j ∈ ([] : List Nat), j < 1 from by decide) (by rfl) ⟨(ZaE _ _ _), trivial⟩ (by rfl) ⟨(ZaE _ _ _), trivial⟩ ⟨.inr rfl, trivial⟩ rfl rfl rfl (Zf (ZaJ rfl (ZbJ _ _ _)) rfl) rfl)

noncomputable def ZjB (L0 : List Int) (n1 n2 : Nat) : ZR → Value
 | .r0 w5 => Value.tuple #[Value.agg #[vq, vq, vq, vq], vn, vi w5]
 | .r1 w2 w3 w4 w5 => Value.tuple #[Value.agg #[vi (L0.getD 0 0), vi w2, vi w3, vi w4], vs 1 0 w5.length w5.length, vq]
noncomputable def ZiW (L0 : List Int) (n1 n2 : Nat) : ZR → List (Option AObj)
 | .r0 w5 => [some (.cells (Zc (Ze .u8) L0) 5)]
 | .r1 w2 w3 w4 w5 => [some (.cells (Zc (Ze .u8) L0) 5), some (.cells (Zc (Ze .u8) w5) 5)]

def ZoJ : ZJ → Nat
 | .h1m0 v6 v7 v8 => 1
 | .h1m1 v3 v4 v5 v6 v7 v8 v13 => 1
 | .h1m2 v3 v4 v5 v6 v7 v8 v13 v14 => 1
 | .h1m3 v3 v4 v5 v6 v7 v8 v13 v14 v15 => 1
noncomputable def ZpA (L0 : List Int) (n1 n2 : Nat) : ZJ → List (Nat × Value)
 | .h1m0 v6 v7 v8 => [(0, vs 0 0 n1 n2), (2, vp 1 0), (6, vp 2 0), (7, vs 0 1 (n1 - 1) (n2 - 1)), (28, Value.agg #[vi v6, vi v7, vi v8]), (29, vq)]
 | .h1m1 v3 v4 v5 v6 v7 v8 v13 => [(0, vs 0 0 n1 n2), (2, vp 1 0), (6, vp 2 0), (7, vs 0 v3 v4 v5), (28, Value.agg #[vi v6, vi v7, vi v8]), (29, vi (1 : Int))]
 | .h1m2 v3 v4 v5 v6 v7 v8 v13 v14 => [(0, vs 0 0 n1 n2), (2, vp 1 0), (6, vp 2 0), (7, vs 0 v3 v4 v5), (28, Value.agg #[vi v6, vi v7, vi v8]), (29, vi (2 : Int))]
 | .h1m3 v3 v4 v5 v6 v7 v8 v13 v14 v15 => [(0, vs 0 0 n1 n2), (2, vp 1 0), (6, vp 2 0), (7, vs 0 v3 v4 v5), (28, Value.agg #[vi v6, vi v7, vi v8]), (29, vi (3 : Int))]
noncomputable def ZpB (L0 : List Int) (n1 n2 : Nat) : ZJ → List (Option AObj)
 | .h1m0 v6 v7 v8 => [some (.cells (Zc (Ze .u8) L0) 5), some (.cells [vq, vq, vq, vq] 44), some (.cells [vq, vq, vq] 52)]
 | .h1m1 v3 v4 v5 v6 v7 v8 v13 => [some (.cells (Zc (Ze .u8) L0) 5), some (.cells [vq, vq, vq, vq] 44), some (.cells [vi v13, vq, vq] 52)]
 | .h1m2 v3 v4 v5 v6 v7 v8 v13 v14 => [some (.cells (Zc (Ze .u8) L0) 5), some (.cells [vq, vq, vq, vq] 44), some (.cells [vi v13, vi v14, vq] 52)]
 | .h1m3 v3 v4 v5 v6 v7 v8 v13 v14 v15 => [some (.cells (Zc (Ze .u8) L0) 5), some (.cells [vq, vq, vq, vq] 44), some (.cells [vi v13, vi v14, vi v15] 52)]

noncomputable def Zcc : Nat → Code × List Za2
 | 1 => Zbz [1, 1, 1, 1, 1, 1, 0, 1, 3] (Zbh Try.f18) []
 | _ => (.skip, [])
def ZiX : Nat → Bool
 | 1 => true
 | _ => true
noncomputable def ZgP (i : Nat) : List Za2 := match ZiX i with | true => .rnd i :: (Zcc i).2 | false => (Zcc i).2

noncomputable def Zak (L0 : List Int) (n1 n2 N : Nat) : Mach := ⟨Try.f18, [.cells (Zc (Ze .u8) L0) 5], ZJ, ZR, Za5 L0 n1 n2 N, ZoJ, Zcc, ZiX, ZpA L0 n1 n2, ZpB L0 n1 n2, ZjB L0 n1 n2, ZiW L0 n1 n2⟩

theorem Zll (L0 : List Int) (n1 n2 : Nat) (v6 v7 v8 : Int) (N : Nat) : (Zak L0 n1 n2 N).Ok Try.prog Zj (.h1m0 v6 v7 v8 : ZJ) (Za5 L0 n1 n2 N (.h1m0 v6 v7 v8 : ZJ)) := by
 show (Zak L0 n1 n2 N).Ok Try.prog Zj (.h1m0 v6 v7 v8 : ZJ) (ZbV L0 n1 n2 N v6 v7 v8)
 unfold ZbV
 refine Mach.ok_bind (fun z0 c0 => ?_)
 cases z0 with
 | r0 y0_0 =>
  refine Mach.ok_ite (fun g1 => ?_) (fun g1 => ?_)
  ·
   exact Mach.ok_fin (M := Zak L0 n1 n2 N) (cd := 1000000) (cm := 0) (r := (.r0 ((6 : Int)) : ZR)) (fu := 4000) (orc := (Zh [(1, true)] [] [] [] [(0, (ZG (v6)  y0_0  3))])) (live := [0]) (u := Value.tuple #[Value.agg #[vq, vq, vq, vq], vn, vi (6 : Int)]) (bl := [some (.cells (Zc (Ze .u8) L0) 5)]) (ob := [((decide ((((n1 - 1) : Nat) : Int) < y0_0)), true), (dP (ZD #[vi v6] (v6)  y0_0  3), true)]) (fun gv => by kernel_rfl) (oY <| Za (Zg (ZH #[vi v6] (v6)  y0_0 N c0  3 rfl (by decide) (by decide))) Zb) rfl (by decide) (by rfl) rr ⟨(Zn (E := (Ze .u8)) (α := Int) _ L0 _), trivial⟩
  ·
   refine Mach.ok_bind (fun z2 c2 => ?_)
   cases z2 with
   | r0 y2_0 =>
    refine Mach.ok_ite (fun g3 => ?_) (fun g3 => ?_)
    ·
     refine Mach.ok_ite (fun g4 => ?_) (fun g4 => ?_)
     ·
      refine Mach.ok_bind (fun z5 c5 => ?_)
      cases z5 with
      | r0 y5_0 =>
       refine Mach.ok_bind (fun z6 c6 => ?_)
       cases z6 with
       | r0 y6_0 =>
        refine Mach.ok_ite (fun g7 => ?_) (fun g7 => ?_)
        ·
         refine Mach.ok_ite (fun g8 => ?_) (fun g8 => ?_)
         ·
          refine Mach.ok_ite (fun g9 => ?_) (fun g9 => ?_)
          ·
           exact Mach.ok_next (M := Zak L0 n1 n2 N) (cd := 1000000) (cm := 0) (y := (.h1m1 (((y6_0).toNat + 1)) (((n1 - 1) - (y6_0).toNat)) (((n2 - 1) - (y6_0).toNat)) (v6) (v7) (v8) (y5_0) : ZJ)) (fu := 4000) (orc := (Zh [(1, false)] [] [] [] [(0, (ZG (v6)  y0_0  3)), (1, (ZG (v6)  y2_0  3)), (2, .sl 0 (y2_0).toNat), (3, (Zhr (L0) (1) (((y2_0).toNat - 0)) (((n2 - 1) - 0))  y5_0 0 3)), (4, (ZG (v6)  y6_0  3)), (5, .sl (y6_0).toNat (n1 - 1))])) (live := [0, 1, 2]) (tv := fun _ => [some (vs 0 0 n1 n2), some (vp 1 0), some (vp 2 0), some (Value.slice (some ⟨0, (1 + ((y6_0).toNat * 1)), none⟩) ((n1 - 1) - (y6_0).toNat) ((n2 - 1) - (y6_0).toNat)), some (Value.agg #[vi v6, vi v7, vi v8]), some (vi (1 : Int))]) (bl := [some (.cells (Zc (Ze .u8) L0) 5), some (.cells [vq, vq, vq, vq] 44), some (.cells [vi y5_0, vq, vq] 52)]) (ob := [(dP ((y6_0).toNat ≤ (n1 - 1) ∧ (n1 - 1) ≤ (n2 - 1)), true), (dS (n1 - 1), true), (y6_0 == Int.ofNat (y6_0).toNat, true), (dP (ZD #[vi v6] (v6)  y6_0  3), true), (dP (ZfW #[Value.slice (some ⟨0, (1 + (0 * 1)), none⟩) ((y2_0).toNat - 0) ((n2 - 1) - 0)] (L0) (1) (((y2_0).toNat - 0)) (((n2 - 1) - 0))  y5_0 0 3), true), (dS (Zc (Ze .u8) L0), true), (dP (0 ≤ (y2_0).toNat ∧ (y2_0).toNat ≤ (n2 - 1)), true), (y2_0 == Int.ofNat (y2_0).toNat, true), (dS 0, true), (dP (ZD #[vi v6] (v6)  y2_0  3), true), ((decide ((((n1 - 1) : Nat) : Int) < y0_0)), false), (dP (ZD #[vi v6] (v6)  y0_0  3), true)]) rfl (show 1 ∈ Zq (ZgP 1) from by decide +kernel) (fun gv => by kernel_rfl) (Za (Zg ⟨ltA, ltA⟩) <| oR <| oI <| Za (Zg (ZH #[vi v6] (v6)  y6_0 N c6  3 rfl (by decide) (by decide))) <| Za (Zg (Zhs #[Value.slice (some ⟨0, (1 + (0 * 1)), none⟩) ((y2_0).toNat - 0) ((n2 - 1) - 0)] (L0) (1) (((y2_0).toNat - 0)) (((n2 - 1) - 0))  y5_0 N c5 0 3 (ZcM (Zf (Z2 eqA rfl rfl) rfl)) (by decide) (by decide))) <| oR <| Za (Zg ⟨ltA, ltA⟩) <| oI <| oR <| Za (Zg (ZH #[vi v6] (v6)  y2_0 N c2  3 rfl (by decide) (by decide))) <| oN <| Za (Zg (ZH #[vi v6] (v6)  y0_0 N c0  3 rfl (by decide) (by decide))) Zb) rfl (by decide) (by rfl) (fun _ => ⟨rr, ⟨rr, ⟨rr, ⟨⟨Eq.trans (show (Value.slice (some ⟨0, ((y6_0).toNat + 1), none⟩) ((n1 - 1) - (y6_0).toNat) ((n2 - 1) - (y6_0).toNat) : Value) = Value.slice (some ⟨0, (1 + ((y6_0).toNat * 1)), none⟩) ((n1 - 1) - (y6_0).toNat) ((n2 - 1) - (y6_0).toNat) from (Z2 eqA rfl rfl)) (by rfl), by rfl⟩, ⟨rr, ⟨rr, trivial⟩⟩⟩⟩⟩⟩) ⟨(Zn (E := (Ze .u8)) (α := Int) _ L0 _), ⟨⟨rfl, ⟨[], by rfl⟩, by rfl⟩, ⟨⟨rfl, ⟨[], by rfl⟩, by rfl⟩, trivial⟩⟩⟩
          ·
           exact Mach.ok_none
         ·
          exact Mach.ok_none
        ·
         exact Mach.ok_none
     ·
      exact Mach.ok_none
    ·
     exact Mach.ok_none

theorem Zlm (L0 : List Int) (n1 n2 v3 v4 v5 : Nat) (v6 v7 v8 v13 : Int) (N : Nat) : (Zak L0 n1 n2 N).Ok Try.prog Zj (.h1m1 v3 v4 v5 v6 v7 v8 v13 : ZJ) (Za5 L0 n1 n2 N (.h1m1 v3 v4 v5 v6 v7 v8 v13 : ZJ)) := by
 show (Zak L0 n1 n2 N).Ok Try.prog Zj (.h1m1 v3 v4 v5 v6 v7 v8 v13 : ZJ) (ZbW L0 n1 n2 N v3 v4 v5 v6 v7 v8 v13)
 unfold ZbW
 refine Mach.ok_bind (fun z0 c0 => ?_)
 cases z0 with
 | r0 y0_0 =>
  refine Mach.ok_ite (fun g1 => ?_) (fun g1 => ?_)
  ·
   exact Mach.ok_fin (M := Zak L0 n1 n2 N) (cd := 1000000) (cm := 0) (r := (.r0 ((6 : Int)) : ZR)) (fu := 4000) (orc := (Zh [(1, true)] [] [] [] [(0, (ZG (v7)  y0_0  3))])) (live := [0]) (u := Value.tuple #[Value.agg #[vq, vq, vq, vq], vn, vi (6 : Int)]) (bl := [some (.cells (Zc (Ze .u8) L0) 5)]) (ob := [((decide ((v4 : Int) < y0_0)), true), (dP (ZD #[vi v7] (v7)  y0_0  3), true)]) (fun gv => by kernel_rfl) (oY <| Za (Zg (ZH #[vi v7] (v7)  y0_0 N c0  3 rfl (by decide) (by decide))) Zb) rfl (by decide) (by rfl) rr ⟨(Zn (E := (Ze .u8)) (α := Int) _ L0 _), trivial⟩
  ·
   refine Mach.ok_bind (fun z2 c2 => ?_)
   cases z2 with
   | r0 y2_0 =>
    refine Mach.ok_ite (fun g3 => ?_) (fun g3 => ?_)
    ·
     refine Mach.ok_ite (fun g4 => ?_) (fun g4 => ?_)
     ·
      refine Mach.ok_bind (fun z5 c5 => ?_)
      cases z5 with
      | r0 y5_0 =>
       refine Mach.ok_bind (fun z6 c6 => ?_)
       cases z6 with
       | r0 y6_0 =>
        refine Mach.ok_ite (fun g7 => ?_) (fun g7 => ?_)
        ·
         refine Mach.ok_ite (fun g8 => ?_) (fun g8 => ?_)
         ·
          refine Mach.ok_ite (fun g9 => ?_) (fun g9 => ?_)
          ·
           exact Mach.ok_next (M := Zak L0 n1 n2 N) (cd := 1000000) (cm := 0) (y := (.h1m2 (((y6_0).toNat + v3)) ((v4 - (y6_0).toNat)) ((v5 - (y6_0).toNat)) (v6) (v7) (v8) (v13) (y5_0) : ZJ)) (fu := 4000) (orc := (Zh [(1, false)] [] [] [] [(0, (ZG (v7)  y0_0  3)), (1, (ZG (v7)  y2_0  3)), (2, .sl 0 (y2_0).toNat), (3, (Zhr (L0) (v3) (((y2_0).toNat - 0)) ((v5 - 0))  y5_0 0 3)), (4, (ZG (v7)  y6_0  3)), (5, .sl (y6_0).toNat v4)])) (live := [0, 1, 2]) (tv := fun _ => [some (vs 0 0 n1 n2), some (vp 1 0), some (vp 2 0), some (Value.slice (some ⟨0, (v3 + ((y6_0).toNat * 1)), none⟩) (v4 - (y6_0).toNat) (v5 - (y6_0).toNat)), some (Value.agg #[vi v6, vi v7, vi v8]), some (vi (2 : Int))]) (bl := [some (.cells (Zc (Ze .u8) L0) 5), some (.cells [vq, vq, vq, vq] 44), some (.cells [vi v13, vi y5_0, vq] 52)]) (ob := [(dP ((y6_0).toNat ≤ v4 ∧ v4 ≤ v5), true), (dS v4, true), (y6_0 == Int.ofNat (y6_0).toNat, true), (dP (ZD #[vi v7] (v7)  y6_0  3), true), (dP (ZfW #[Value.slice (some ⟨0, (v3 + (0 * 1)), none⟩) ((y2_0).toNat - 0) (v5 - 0)] (L0) (v3) (((y2_0).toNat - 0)) ((v5 - 0))  y5_0 0 3), true), (dS (Zc (Ze .u8) L0), true), (dP (0 ≤ (y2_0).toNat ∧ (y2_0).toNat ≤ v5), true), (y2_0 == Int.ofNat (y2_0).toNat, true), (dS 0, true), (dP (ZD #[vi v7] (v7)  y2_0  3), true), ((decide ((v4 : Int) < y0_0)), false), (dP (ZD #[vi v7] (v7)  y0_0  3), true)]) rfl (show 1 ∈ Zq (ZgP 1) from by decide +kernel) (fun gv => by kernel_rfl) (Za (Zg ⟨ltA, ltA⟩) <| oR <| oI <| Za (Zg (ZH #[vi v7] (v7)  y6_0 N c6  3 rfl (by decide) (by decide))) <| Za (Zg (Zhs #[Value.slice (some ⟨0, (v3 + (0 * 1)), none⟩) ((y2_0).toNat - 0) (v5 - 0)] (L0) (v3) (((y2_0).toNat - 0)) ((v5 - 0))  y5_0 N c5 0 3 (ZcM (Zf (Z2 eqA rfl rfl) rfl)) (by decide) (by decide))) <| oR <| Za (Zg ⟨ltA, ltA⟩) <| oI <| oR <| Za (Zg (ZH #[vi v7] (v7)  y2_0 N c2  3 rfl (by decide) (by decide))) <| oN <| Za (Zg (ZH #[vi v7] (v7)  y0_0 N c0  3 rfl (by decide) (by decide))) Zb) rfl (by decide) (by rfl) (fun _ => ⟨rr, ⟨rr, ⟨rr, ⟨⟨Eq.trans (show (Value.slice (some ⟨0, ((y6_0).toNat + v3), none⟩) (v4 - (y6_0).toNat) (v5 - (y6_0).toNat) : Value) = Value.slice (some ⟨0, (v3 + ((y6_0).toNat * 1)), none⟩) (v4 - (y6_0).toNat) (v5 - (y6_0).toNat) from (Z2 eqA rfl rfl)) (by rfl), by rfl⟩, ⟨rr, ⟨rr, trivial⟩⟩⟩⟩⟩⟩) ⟨(Zn (E := (Ze .u8)) (α := Int) _ L0 _), ⟨⟨rfl, ⟨[], by rfl⟩, by rfl⟩, ⟨⟨rfl, ⟨[], by rfl⟩, by rfl⟩, trivial⟩⟩⟩
          ·
           exact Mach.ok_none
         ·
          exact Mach.ok_none
        ·
         exact Mach.ok_none
     ·
      exact Mach.ok_none
    ·
     exact Mach.ok_none

theorem Zln (L0 : List Int) (n1 n2 v3 v4 v5 : Nat) (v6 v7 v8 v13 v14 : Int) (N : Nat) : (Zak L0 n1 n2 N).Ok Try.prog Zj (.h1m2 v3 v4 v5 v6 v7 v8 v13 v14 : ZJ) (Za5 L0 n1 n2 N (.h1m2 v3 v4 v5 v6 v7 v8 v13 v14 : ZJ)) := by
 show (Zak L0 n1 n2 N).Ok Try.prog Zj (.h1m2 v3 v4 v5 v6 v7 v8 v13 v14 : ZJ) (ZbX L0 n1 n2 N v3 v4 v5 v6 v7 v8 v13 v14)
 unfold ZbX
 refine Mach.ok_bind (fun z0 c0 => ?_)
 cases z0 with
 | r0 y0_0 =>
  refine Mach.ok_ite (fun g1 => ?_) (fun g1 => ?_)
  ·
   exact Mach.ok_fin (M := Zak L0 n1 n2 N) (cd := 1000000) (cm := 0) (r := (.r0 ((6 : Int)) : ZR)) (fu := 4000) (orc := (Zh [(1, true)] [] [] [] [(0, (ZG (v8)  y0_0  3))])) (live := [0]) (u := Value.tuple #[Value.agg #[vq, vq, vq, vq], vn, vi (6 : Int)]) (bl := [some (.cells (Zc (Ze .u8) L0) 5)]) (ob := [((decide ((v4 : Int) < y0_0)), true), (dP (ZD #[vi v8] (v8)  y0_0  3), true)]) (fun gv => by kernel_rfl) (oY <| Za (Zg (ZH #[vi v8] (v8)  y0_0 N c0  3 rfl (by decide) (by decide))) Zb) rfl (by decide) (by rfl) rr ⟨(Zn (E := (Ze .u8)) (α := Int) _ L0 _), trivial⟩
  ·
   refine Mach.ok_bind (fun z2 c2 => ?_)
   cases z2 with
   | r0 y2_0 =>
    refine Mach.ok_ite (fun g3 => ?_) (fun g3 => ?_)
    ·
     refine Mach.ok_ite (fun g4 => ?_) (fun g4 => ?_)
     ·
      refine Mach.ok_bind (fun z5 c5 => ?_)
      cases z5 with
      | r0 y5_0 =>
       refine Mach.ok_bind (fun z6 c6 => ?_)
       cases z6 with
       | r0 y6_0 =>
        refine Mach.ok_ite (fun g7 => ?_) (fun g7 => ?_)
        ·
         refine Mach.ok_ite (fun g8 => ?_) (fun g8 => ?_)
         ·
          refine Mach.ok_ite (fun g9 => ?_) (fun g9 => ?_)
          ·
           exact Mach.ok_next (M := Zak L0 n1 n2 N) (cd := 1000000) (cm := 0) (y := (.h1m3 (((y6_0).toNat + v3)) ((v4 - (y6_0).toNat)) ((v5 - (y6_0).toNat)) (v6) (v7) (v8) (v13) (v14) (y5_0) : ZJ)) (fu := 4000) (orc := (Zh [(1, false)] [] [] [] [(0, (ZG (v8)  y0_0  3)), (1, (ZG (v8)  y2_0  3)), (2, .sl 0 (y2_0).toNat), (3, (Zhr (L0) (v3) (((y2_0).toNat - 0)) ((v5 - 0))  y5_0 0 3)), (4, (ZG (v8)  y6_0  3)), (5, .sl (y6_0).toNat v4)])) (live := [0, 1, 2]) (tv := fun _ => [some (vs 0 0 n1 n2), some (vp 1 0), some (vp 2 0), some (Value.slice (some ⟨0, (v3 + ((y6_0).toNat * 1)), none⟩) (v4 - (y6_0).toNat) (v5 - (y6_0).toNat)), some (Value.agg #[vi v6, vi v7, vi v8]), some (vi (3 : Int))]) (bl := [some (.cells (Zc (Ze .u8) L0) 5), some (.cells [vq, vq, vq, vq] 44), some (.cells [vi v13, vi v14, vi y5_0] 52)]) (ob := [(dP ((y6_0).toNat ≤ v4 ∧ v4 ≤ v5), true), (dS v4, true), (y6_0 == Int.ofNat (y6_0).toNat, true), (dP (ZD #[vi v8] (v8)  y6_0  3), true), (dP (ZfW #[Value.slice (some ⟨0, (v3 + (0 * 1)), none⟩) ((y2_0).toNat - 0) (v5 - 0)] (L0) (v3) (((y2_0).toNat - 0)) ((v5 - 0))  y5_0 0 3), true), (dS (Zc (Ze .u8) L0), true), (dP (0 ≤ (y2_0).toNat ∧ (y2_0).toNat ≤ v5), true), (y2_0 == Int.ofNat (y2_0).toNat, true), (dS 0, true), (dP (ZD #[vi v8] (v8)  y2_0  3), true), ((decide ((v4 : Int) < y0_0)), false), (dP (ZD #[vi v8] (v8)  y0_0  3), true)]) rfl (show 1 ∈ Zq (ZgP 1) from by decide +kernel) (fun gv => by kernel_rfl) (Za (Zg ⟨ltA, ltA⟩) <| oR <| oI <| Za (Zg (ZH #[vi v8] (v8)  y6_0 N c6  3 rfl (by decide) (by decide))) <| Za (Zg (Zhs #[Value.slice (some ⟨0, (v3 + (0 * 1)), none⟩) ((y2_0).toNat - 0) (v5 - 0)] (L0) (v3) (((y2_0).toNat - 0)) ((v5 - 0))  y5_0 N c5 0 3 (ZcM (Zf (Z2 eqA rfl rfl) rfl)) (by decide) (by decide))) <| oR <| Za (Zg ⟨ltA, ltA⟩) <| oI <| oR <| Za (Zg (ZH #[vi v8] (v8)  y2_0 N c2  3 rfl (by decide) (by decide))) <| oN <| Za (Zg (ZH #[vi v8] (v8)  y0_0 N c0  3 rfl (by decide) (by decide))) Zb) rfl (by decide) (by rfl) (fun _ => ⟨rr, ⟨rr, ⟨rr, ⟨⟨Eq.trans (show (Value.slice (some ⟨0, ((y6_0).toNat + v3), none⟩) (v4 - (y6_0).toNat) (v5 - (y6_0).toNat) : Value) = Value.slice (some ⟨0, (v3 + ((y6_0).toNat * 1)), none⟩) (v4 - (y6_0).toNat) (v5 - (y6_0).toNat) from (Z2 eqA rfl rfl)) (by rfl), by rfl⟩, ⟨rr, ⟨rr, trivial⟩⟩⟩⟩⟩⟩) ⟨(Zn (E := (Ze .u8)) (α := Int) _ L0 _), ⟨⟨rfl, ⟨[], by rfl⟩, by rfl⟩, ⟨⟨rfl, ⟨[], by rfl⟩, by rfl⟩, trivial⟩⟩⟩
          ·
           exact Mach.ok_none
         ·
          exact Mach.ok_none
        ·
         exact Mach.ok_none
     ·
      exact Mach.ok_none
    ·
     exact Mach.ok_none

theorem Zlo (L0 : List Int) (n1 n2 v3 v4 v5 : Nat) (v6 v7 v8 v13 v14 v15 : Int) (N : Nat) : (Zak L0 n1 n2 N).Ok Try.prog Zj (.h1m3 v3 v4 v5 v6 v7 v8 v13 v14 v15 : ZJ) (Za5 L0 n1 n2 N (.h1m3 v3 v4 v5 v6 v7 v8 v13 v14 v15 : ZJ)) := by
 show (Zak L0 n1 n2 N).Ok Try.prog Zj (.h1m3 v3 v4 v5 v6 v7 v8 v13 v14 v15 : ZJ) (Zc6 L0 n1 n2 N v3 v4 v5 v6 v7 v8 v13 v14 v15)
 unfold Zc6
 refine Mach.ok_ite (fun g0 => ?_) (fun g0 => ?_)
 ·
  refine Mach.ok_ite (fun g1 => ?_) (fun g1 => ?_)
  ·
   refine Mach.ok_ite (fun g2 => ?_) (fun g2 => ?_)
   ·
    refine Mach.ok_ite (fun g3 => ?_) (fun g3 => ?_)
    ·
     refine Mach.ok_bind (fun z4 c4 => ?_)
     cases z4 with
     | r0 y4_0 =>
      refine Mach.ok_ite (fun g5 => ?_) (fun g5 => ?_)
      ·
       exact Mach.ok_fin (M := Zak L0 n1 n2 N) (cd := 1000000) (cm := 0) (r := (.r0 (y4_0) : ZR)) (fu := 4000) (orc := (Zh [(1, true)] [(0, (L0.getD 0 0))] [(0, 0)] [(0, [.k .u8 (L0.getD 0 0)])] [(1, (Zdn ((L0.getD 0 0)) (v13) (v14) (v15)  y4_0  4))])) (live := [0]) (u := Value.tuple #[Value.agg #[vq, vq, vq, vq], vn, vi y4_0]) (bl := [some (.cells (Zc (Ze .u8) L0) 5)]) (ob := [((y4_0 != (0 : Int)), true), (dP (ZcH #[Value.agg #[vi (L0.getD 0 0), vi v13, vi v14, vi v15]] ((L0.getD 0 0)) (v13) (v14) (v15)  y4_0  4), true), ((IntKind.i64.wrap (L0.getD 0 0)) == (L0.getD 0 0), true), (Zan (Z4 1 (List.drop (0 + (0 * 1)) (Zc (Ze .u8) L0))) [.k .u8 (L0.getD 0 0)], true), (Nat.blt 0 n1, true), ((0 : Int) == Int.ofNat 0, true)]) (fun gv => by kernel_rfl) (oD <| Za (Zg (Zdo #[Value.agg #[vi (L0.getD 0 0), vi v13, vi v14, vi v15]] ((L0.getD 0 0)) (v13) (v14) (v15)  y4_0 N c4  4 rfl (by decide) (by decide))) <| Za (beq_iff_eq.2 (wrap_i64 ltA)) <| Za (ZbH (E := (Ze .u8)) (L := L0) (i := 0) (q := 0) (by omega) (show (0 + (0 * 1)) = 0 * 1 + 0 from by omega) (show 0 + 1 ≤ 1 from by decide) rfl rfl) <| oB <| oI Zb) rfl (by decide) (by rfl) rr ⟨(Zn (E := (Ze .u8)) (α := Int) _ L0 _), trivial⟩
      ·
       refine Mach.ok_ite (fun g6 => ?_) (fun g6 => ?_)
       ·
        exact Mach.ok_fin (M := Zak L0 n1 n2 N) (cd := 1000000) (cm := 0) (r := (.r1 (v13) (v14) (v15) (([] : List Int)) : ZR)) (fu := 4000) (orc := (Zh [(1, false)] [(0, (L0.getD 0 0))] [(0, 0)] [(0, [.k .u8 (L0.getD 0 0)])] [(1, (Zdn ((L0.getD 0 0)) (v13) (v14) (v15)  y4_0  4)), (2, .ap0)])) (live := [0, 4]) (u := Value.tuple #[Value.agg #[vi (L0.getD 0 0), vi v13, vi v14, vi v15], vs 4 0 0 0, vq]) (bl := [some (.cells (Zc (Ze .u8) L0) 5), some (.cells [] 5)]) (ob := [(dP (0 = v4 ∧ Z4 (v4 * 1) (List.drop v3 (Zc (Ze .u8) L0)) = some [] ∧ ZV Zbd [] = true), true), ((y4_0 != (0 : Int)), false), (dP (ZcH #[Value.agg #[vi (L0.getD 0 0), vi v13, vi v14, vi v15]] ((L0.getD 0 0)) (v13) (v14) (v15)  y4_0  4), true), ((IntKind.i64.wrap (L0.getD 0 0)) == (L0.getD 0 0), true), (Zan (Z4 1 (List.drop (0 + (0 * 1)) (Zc (Ze .u8) L0))) [.k .u8 (L0.getD 0 0)], true), (Nat.blt 0 n1, true), ((0 : Int) == Int.ofNat 0, true)]) (fun gv => by kernel_rfl) (Za (Zg ⟨by omega, by rw [show v4 = 0 by omega]; rfl, rfl⟩) <| oE <| Za (Zg (Zdo #[Value.agg #[vi (L0.getD 0 0), vi v13, vi v14, vi v15]] ((L0.getD 0 0)) (v13) (v14) (v15)  y4_0 N c4  4 rfl (by decide) (by decide))) <| Za (beq_iff_eq.2 (wrap_i64 ltA)) <| Za (ZbH (E := (Ze .u8)) (L := L0) (i := 0) (q := 0) (by omega) (show (0 + (0 * 1)) = 0 * 1 + 0 from by omega) (show 0 + 1 ≤ 1 from by decide) rfl rfl) <| oB <| oI Zb) rfl (by decide) (by rfl) ⟨Eq.trans (show (Value.tuple #[Value.agg #[vi (L0.getD 0 0), vi v13, vi v14, vi v15], vs 1 0 ([] : List Int).length ([] : List Int).length, vq] : Value) = Value.tuple #[Value.agg #[vi (L0.getD 0 0), vi v13, vi v14, vi v15], vs 1 0 0 0, vq] from (ZaD (Zf rfl (Zf (Z2 rfl eqA eqA) (Zf rfl rfl))))) (by rfl), by rfl⟩ ⟨(Zn (E := (Ze .u8)) (α := Int) _ L0 _), ⟨(Zaq (E := (Ze .u8)) _ (L := ([] : List Int)) _ (show ([] : List Value) = Zc (Ze .u8) ([] : List Int) from rfl)), trivial⟩⟩
       ·
        refine Mach.ok_ite (fun g7 => ?_) (fun g7 => ?_)
        ·
         refine Mach.ok_ite (fun g8 => ?_) (fun g8 => ?_)
         ·
          exact Mach.ok_fin (M := Zak L0 n1 n2 N) (cd := 1000000) (cm := 0) (r := (.r1 (v13) (v14) (v15) (((L0.drop v3).take v4)) : ZR)) (fu := 4000) (orc := (Zh [(1, false)] [(0, (L0.getD 0 0))] [(0, 0)] [(0, [.k .u8 (L0.getD 0 0)])] [(1, (Zdn ((L0.getD 0 0)) (v13) (v14) (v15)  y4_0  4)), (2, .ap v4 (Zc (Ze .u8) ((L0.drop v3).take v4)) (Zc (Ze .u8) ((L0.drop v3).take v4)))])) (live := [0, 5]) (u := Value.tuple #[Value.agg #[vi (L0.getD 0 0), vi v13, vi v14, vi v15], vs 5 0 (0 + v4) (0 + v4), vq]) (bl := [some (.cells (Zc (Ze .u8) L0) 5), some (.cells (Zc (Ze .u8) ((L0.drop v3).take v4)) 5)]) (ob := [(dP ((v4 = v4 ∧ Z4 (v4 * 1) (List.drop v3 (Zc (Ze .u8) L0)) = some (Zc (Ze .u8) ((L0.drop v3).take v4)) ∧ ZV Zbd (Zc (Ze .u8) ((L0.drop v3).take v4)) = true) ∧ 0 < v4 ∧ v4 ≤ 100000 ∧ 0 < 0 + v4 ∧ 0 ≤ 100000 ∧ 0 * 1 ≤ (List.length []) ∧ List.take (0 * 1) [] ++ (Zc (Ze .u8) ((L0.drop v3).take v4)) = (Zc (Ze .u8) ((L0.drop v3).take v4))), true), ((y4_0 != (0 : Int)), false), (dP (ZcH #[Value.agg #[vi (L0.getD 0 0), vi v13, vi v14, vi v15]] ((L0.getD 0 0)) (v13) (v14) (v15)  y4_0  4), true), ((IntKind.i64.wrap (L0.getD 0 0)) == (L0.getD 0 0), true), (Zan (Z4 1 (List.drop (0 + (0 * 1)) (Zc (Ze .u8) L0))) [.k .u8 (L0.getD 0 0)], true), (Nat.blt 0 n1, true), ((0 : Int) == Int.ofNat 0, true)]) (fun gv => by kernel_rfl) (Za (Zg ⟨⟨rfl, (ZnJ (E := (Ze .u8)) (L := L0) (a := v3) (n := v4) (by omega) (by show _ = _ * 1; omega) (show _ = _ * 1 from rfl) rfl)⟩, by omega, by omega, ltA, by omega, (Zci (E := (Ze .u8)) (L := ([] : List Int)) (M := ((L0.drop v3).take v4)) (n := 0) (show _ = _ * 1 from rfl) ltA (R := ((L0.drop v3).take v4)) (by rw [List.take_of_length_le ltA]; rfl))⟩) <| oE <| Za (Zg (Zdo #[Value.agg #[vi (L0.getD 0 0), vi v13, vi v14, vi v15]] ((L0.getD 0 0)) (v13) (v14) (v15)  y4_0 N c4  4 rfl (by decide) (by decide))) <| Za (beq_iff_eq.2 (wrap_i64 ltA)) <| Za (ZbH (E := (Ze .u8)) (L := L0) (i := 0) (q := 0) (by omega) (show (0 + (0 * 1)) = 0 * 1 + 0 from by omega) (show 0 + 1 ≤ 1 from by decide) rfl rfl) <| oB <| oI Zb) rfl (by decide) (by rfl) ⟨Eq.trans (show (Value.tuple #[Value.agg #[vi (L0.getD 0 0), vi v13, vi v14, vi v15], vs 1 0 ((L0.drop v3).take v4).length ((L0.drop v3).take v4).length, vq] : Value) = Value.tuple #[Value.agg #[vi (L0.getD 0 0), vi v13, vi v14, vi v15], vs 1 0 (0 + v4) (0 + v4), vq] from (ZaD (Zf rfl (Zf (Z2 rfl eqA eqA) (Zf rfl rfl))))) (by rfl), by rfl⟩ ⟨(Zn (E := (Ze .u8)) (α := Int) _ L0 _), ⟨(Zn (E := (Ze .u8)) (α := Int) _ ((L0.drop v3).take v4) _), trivial⟩⟩
         ·
          exact Mach.ok_none
        ·
         exact Mach.ok_none
    ·
     exact Mach.ok_none
   ·
    exact Mach.ok_none
  ·
   exact Mach.ok_none
 ·
  exact Mach.ok_none

theorem ZnT (L0 : List Int) (n1 n2 N : Nat) : (Zak L0 n1 n2 N).Enter Try.prog Zj #[vs 0 0 n1 n2] (Zeh L0 n1 n2 N) := by
 unfold Zeh
 refine Mach.en_ite (fun g0 => ?_) (fun g0 => ?_)
 ·
  exact Mach.en_fin (M := Zak L0 n1 n2 N) (cd := 1000000) (cm := 0) (r := (.r0 ((6 : Int)) : ZR)) (fu := 4000) (orc := (Zh [(0, true)] [] [] [] [])) (live := [0]) (u := Value.tuple #[Value.agg #[vq, vq, vq, vq], vn, vi (6 : Int)]) (bl := [some (.cells (Zc (Ze .u8) L0) 5)]) (ob := [(((n1 : Int) == (0 : Int)), true)]) (by kernel_rfl) (oT Zb) rfl (by decide) (by rfl) rr ⟨(Zn (E := (Ze .u8)) (α := Int) _ L0 _), trivial⟩
 ·
  refine Mach.en_ite (fun g1 => ?_) (fun g1 => ?_)
  ·
   refine Mach.en_ite (fun g2 => ?_) (fun g2 => ?_)
   ·
    refine Mach.en_ite (fun g3 => ?_) (fun g3 => ?_)
    ·
     refine Mach.en_bind (fun z4 c4 => ?_)
     cases z4 with
     | r0 y4_0 y4_1 y4_2 y4_3 =>
      refine Mach.en_ite (fun g5 => ?_) (fun g5 => ?_)
      ·
       exact Mach.en_fin (M := Zak L0 n1 n2 N) (cd := 1000000) (cm := 0) (r := (.r0 ((100 : Int)) : ZR)) (fu := 4000) (orc := (Zh [(0, false), (1, true)] [(0, (L0.getD 0 0))] [(0, 0)] [(0, [.k .u8 (L0.getD 0 0)])] [(0, (ZeV ((L0.getD 0 0))  y4_0 y4_1 y4_2 y4_3  2))])) (live := [0]) (u := Value.tuple #[Value.agg #[vq, vq, vq, vq], vn, vi (100 : Int)]) (bl := [some (.cells (Zc (Ze .u8) L0) 5)]) (ob := [(((Z5 y4_0).toList == (⟨#[]⟩ : ByteArray).toList), true), (dP (Zea #[vi (L0.getD 0 0)] ((L0.getD 0 0))  y4_0 y4_1 y4_2 y4_3  2), true), ((IntKind.i64.wrap (L0.getD 0 0)) == (L0.getD 0 0), true), (Zan (Z4 1 (List.drop (0 + (0 * 1)) (Zc (Ze .u8) L0))) [.k .u8 (L0.getD 0 0)], true), (Nat.blt 0 n1, true), ((0 : Int) == Int.ofNat 0, true), (((n1 : Int) == (0 : Int)), false)]) (by kernel_rfl) (Za (Zd9 (x := y4_0) (y := ([] : List Int)) (by assumption)) <| Za (Zg (ZeW #[vi (L0.getD 0 0)] ((L0.getD 0 0))  y4_0 y4_1 y4_2 y4_3 N c4  2 rfl (by decide) (by decide))) <| Za (beq_iff_eq.2 (wrap_i64 ltA)) <| Za (ZbH (E := (Ze .u8)) (L := L0) (i := 0) (q := 0) (by omega) (show (0 + (0 * 1)) = 0 * 1 + 0 from by omega) (show 0 + 1 ≤ 1 from by decide) rfl rfl) <| oB <| oI <| oF Zb) rfl (by decide) (by rfl) rr ⟨(Zn (E := (Ze .u8)) (α := Int) _ L0 _), trivial⟩
      ·
       refine Mach.en_ite (fun g6 => ?_) (fun g6 => ?_)
       ·
        exact Mach.en_head (bK := Zcc 1) (M := Zak L0 n1 n2 N) (cd := 1000000) (cm := 0) (y := (.h1m0 (y4_1) (y4_2) (y4_3) : ZJ)) (fu := 4000) (orc := (Zh [(0, false), (1, false)] [(0, (L0.getD 0 0))] [(0, 0)] [(0, [.k .u8 (L0.getD 0 0)])] [(0, (ZeV ((L0.getD 0 0))  y4_0 y4_1 y4_2 y4_3  2)), (2, .sl 1 n1)])) (live := [0, 1, 3]) (tv := [some (vs 0 0 n1 n2), some (vp 1 0), some (vp 3 0), some (Value.slice (some ⟨0, (0 + (1 * 1)), none⟩) (n1 - 1) (n2 - 1)), some (Value.agg #[vi y4_1, vi y4_2, vi y4_3]), some (vq)]) (bl := [some (.cells (Zc (Ze .u8) L0) 5), some (.cells [vq, vq, vq, vq] 44), some (.cells [vq, vq, vq] 52)]) (ob := [(dP (1 ≤ n1 ∧ n1 ≤ n2), true), (dS n1, true), ((1 : Int) == Int.ofNat 1, true), (((Z5 y4_0).toList == (⟨#[]⟩ : ByteArray).toList), false), (dP (Zea #[vi (L0.getD 0 0)] ((L0.getD 0 0))  y4_0 y4_1 y4_2 y4_3  2), true), ((IntKind.i64.wrap (L0.getD 0 0)) == (L0.getD 0 0), true), (Zan (Z4 1 (List.drop (0 + (0 * 1)) (Zc (Ze .u8) L0))) [.k .u8 (L0.getD 0 0)], true), (Nat.blt 0 n1, true), ((0 : Int) == Int.ofNat 0, true), (((n1 : Int) == (0 : Int)), false)]) rfl rfl (show Zq (Zcc 1).2 = [] from rfl) (by kernel_rfl) (Za (Zg ⟨ltA, ltA⟩) <| oR <| oI <| Za (Zgm (x := y4_0) (y := ([] : List Int)) (by assumption)) <| Za (Zg (ZeW #[vi (L0.getD 0 0)] ((L0.getD 0 0))  y4_0 y4_1 y4_2 y4_3 N c4  2 rfl (by decide) (by decide))) <| Za (beq_iff_eq.2 (wrap_i64 ltA)) <| Za (ZbH (E := (Ze .u8)) (L := L0) (i := 0) (q := 0) (by omega) (show (0 + (0 * 1)) = 0 * 1 + 0 from by omega) (show 0 + 1 ≤ 1 from by decide) rfl rfl) <| oB <| oI <| oF Zb) rfl (by decide) (by rfl) ⟨rr, ⟨rr, ⟨rr, ⟨⟨Eq.trans (show (vs 0 1 (n1 - 1) (n2 - 1) : Value) = Value.slice (some ⟨0, (0 + (1 * 1)), none⟩) (n1 - 1) (n2 - 1) from (Z2 eqA rfl rfl)) (by rfl), by rfl⟩, ⟨rr, ⟨rr, trivial⟩⟩⟩⟩⟩⟩ ⟨(Zn (E := (Ze .u8)) (α := Int) _ L0 _), ⟨⟨rfl, ⟨[], by rfl⟩, by rfl⟩, ⟨⟨rfl, ⟨[], by rfl⟩, by rfl⟩, trivial⟩⟩⟩
       ·
        exact Mach.en_none
    ·
     exact Mach.en_none
   ·
    exact Mach.en_none
  ·
   exact Mach.en_none

theorem ZgW (L0 : List Int) (n1 n2 N : Nat) (r : ZR) (h : Zcp L0 n1 n2 N = some r) : LSpec Try.prog 18 #[vs 0 0 n1 n2] [.cells (Zc (Ze .u8) L0) 5] (ZjB L0 n1 n2 r) (ZiW L0 n1 n2 r) :=
 Mach.spec ZaR (Zak L0 n1 n2 N) Try.func18 (by kernel_rfl) (by kernel_rfl) (fun x => by cases x <;> exact Zal _ rfl) (fun r => by cases r <;> exact Zal _ rfl) (fun x => by
  cases x with
  | h1m0 _ _ _ => exact fun _ => (show ¬ (1 ∈ Zq (Zcc 1).2) from by decide +kernel)
  | h1m1 _ _ _ _ _ _ _ => exact fun _ => (show ¬ (1 ∈ Zq (Zcc 1).2) from by decide +kernel)
  | h1m2 _ _ _ _ _ _ _ _ => exact fun _ => (show ¬ (1 ∈ Zq (Zcc 1).2) from by decide +kernel)
  | h1m3 _ _ _ _ _ _ _ _ _ => exact fun _ => (show ¬ (1 ∈ Zq (Zcc 1).2) from by decide +kernel)
  ) (fun x => (show (Zak L0 n1 n2 N).Ok Try.prog Zj x (Za5 L0 n1 n2 N x) from by
  cases x with
  | h1m0 v6 v7 v8 => exact Zll L0 n1 n2 v6 v7 v8 N
  | h1m1 v3 v4 v5 v6 v7 v8 v13 => exact Zlm L0 n1 n2 v3 v4 v5 v6 v7 v8 v13 N
  | h1m2 v3 v4 v5 v6 v7 v8 v13 v14 => exact Zln L0 n1 n2 v3 v4 v5 v6 v7 v8 v13 v14 N
  | h1m3 v3 v4 v5 v6 v7 v8 v13 v14 v15 => exact Zlo L0 n1 n2 v3 v4 v5 v6 v7 v8 v13 v14 v15 N
  )) (ZnT L0 n1 n2 N) (n := N) h

noncomputable def ZiY (L0 : List Int) (n1 n2 : Nat) (w5 : Int) (k0 n : Nat) : Za4 := .call [(k0, .cells (Zc (Ze .u8) L0) 5)] (Value.tuple #[Value.agg #[vq, vq, vq, vq], vn, vi w5]) [] 0
def Zgw (A : Array Value) (L0 : List Int) (n1 n2 : Nat) (w5 : Int) (k0 n : Nat) : Prop := ZB Try.prog 18 A [(k0, .cells (Zc (Ze .u8) L0) 5)] (Value.tuple #[Value.agg #[vq, vq, vq, vq], vn, vi w5]) [] n 0

theorem ZiZ (A : Array Value) (L0 : List Int) (n1 n2 : Nat) (w5 : Int) (N : Nat) (h : Zcp L0 n1 n2 N = some (.r0 w5)) (k0 n : Nat) (hA : A = #[vs k0 0 n1 n2]) (hnd : ([k0] : List Nat).Nodup) (hlt : ∀ k ∈ ([k0] : List Nat), k < n) : Zgw A L0 n1 n2 w5 k0 n :=
 ZQ hA (LSpec.callL (show LSpec Try.prog 18 #[vs 0 0 n1 n2] [.cells (Zc (Ze .u8) L0) 5] (Value.tuple #[Value.agg #[vq, vq, vq, vq], vn, vi w5]) [some (.cells (Zc (Ze .u8) L0) 5)] from ZgW L0 n1 n2 N _ h) [k0] n [] rfl hnd hlt (show 1 ≤ 1 from by decide) (show ∀ j ∈ ([] : List Nat), j < 1 from by decide) (by rfl) ⟨(ZaE _ _ _), trivial⟩ (by rfl) ⟨(ZaE _ _ _), trivial⟩ ⟨.inr rfl, trivial⟩ rfl rfl rfl (Zf (ZaJ rfl (ZbJ _ _ _)) rfl) rfl)

noncomputable def ZoK (L0 : List Int) (n1 n2 : Nat) (w2 w3 w4 : Int) (w5 : List Int) (k0 n : Nat) : Za4 := .call [(k0, .cells (Zc (Ze .u8) L0) 5)] (Value.tuple #[Value.agg #[vi (L0.getD 0 0), vi w2, vi w3, vi w4], vs n 0 w5.length w5.length, vq]) [(n, some (.cells (Zc (Ze .u8) w5) 5))] 1
def Zja (A : Array Value) (L0 : List Int) (n1 n2 : Nat) (w2 w3 w4 : Int) (w5 : List Int) (k0 n : Nat) : Prop := ZB Try.prog 18 A [(k0, .cells (Zc (Ze .u8) L0) 5)] (Value.tuple #[Value.agg #[vi (L0.getD 0 0), vi w2, vi w3, vi w4], vs n 0 w5.length w5.length, vq]) [(n, some (.cells (Zc (Ze .u8) w5) 5))] n 1

theorem ZoL (A : Array Value) (L0 : List Int) (n1 n2 : Nat) (w2 w3 w4 : Int) (w5 : List Int) (N : Nat) (h : Zcp L0 n1 n2 N = some (.r1 w2 w3 w4 w5)) (k0 n : Nat) (hA : A = #[vs k0 0 n1 n2]) (hnd : ([k0] : List Nat).Nodup) (hlt : ∀ k ∈ ([k0] : List Nat), k < n) : Zja A L0 n1 n2 w2 w3 w4 w5 k0 n :=
 ZQ hA (LSpec.callL (show LSpec Try.prog 18 #[vs 0 0 n1 n2] [.cells (Zc (Ze .u8) L0) 5] (Value.tuple #[Value.agg #[vi (L0.getD 0 0), vi w2, vi w3, vi w4], vs 1 0 w5.length w5.length, vq]) [some (.cells (Zc (Ze .u8) L0) 5), some (.cells (Zc (Ze .u8) w5) 5)] from ZgW L0 n1 n2 N _ h) [k0] n [1] rfl hnd hlt (show 1 ≤ 2 from by decide) (show ∀ j ∈ ([1] : List Nat), j < 2 from by decide) (by rfl) ⟨(ZaE _ _ _), trivial⟩ (by rfl) ⟨(ZaE _ _ _), ⟨(ZaE _ _ _), trivial⟩⟩ ⟨.inr rfl, ⟨(by decide), trivial⟩⟩ rfl rfl rfl (Zf (ZaJ rfl (ZbJ _ _ _)) rfl) (Zf (ZaJ rfl (ZeN (ZbJ _ _ _))) rfl))

noncomputable def Znk (o0 : Nat) (L1 : List Int) (n2 n3 : Nat) (O0 : Obj) : ZP → Value
 | .r0 w2 => Value.tuple #[vn, vi w2]
 | .r1 w2 => Value.tuple #[vs 1 0 w2.length w2.length, vq]
noncomputable def ZlT (o0 : Nat) (L1 : List Int) (n2 n3 : Nat) (O0 : Obj) : ZP → List (Option AObj)
 | .r0 w2 => [some (.ro O0)]
 | .r1 w2 => [some (.ro O0), some (.cells (Zc Zi w2) 44)]

def Zr4 : Zaj → Nat
 | .h1m0 => 1
 | .h1m1 v2 v4 => 1
 | .h1m2 v2 v3 v5 => 1
noncomputable def ZsN (o0 : Nat) (L1 : List Int) (n2 n3 : Nat) (O0 : Obj) : Zaj → List (Nat × Value)
 | .h1m0 => [(5, vs 0 (o0 + 6) ((n2 - 1) - 6) (n3 - 6)), (7, vn), (60, vi (IntKind.i64.wrap (((BitVec.ofInt IntKind.i64.bits (IntKind.i64.wrap ((L1.getD 4 0) * (2 ^ 8 : Int))) ||| BitVec.ofInt IntKind.i64.bits (L1.getD 5 0)).toNat : Nat) : Int))), (61, vq)]
 | .h1m1 v2 v4 => [(5, vn), (7, vs 1 0 v2.length v2.length), (60, vi (IntKind.i64.wrap (((BitVec.ofInt IntKind.i64.bits (IntKind.i64.wrap ((L1.getD 4 0) * (2 ^ 8 : Int))) ||| BitVec.ofInt IntKind.i64.bits (L1.getD 5 0)).toNat : Nat) : Int))), (61, vi (v4 : Int))]
 | .h1m2 v2 v3 v5 => [(5, vs 1 0 v2.length v2.length), (7, vs 2 0 v3.length v3.length), (60, vi (IntKind.i64.wrap (((BitVec.ofInt IntKind.i64.bits (IntKind.i64.wrap ((L1.getD 4 0) * (2 ^ 8 : Int))) ||| BitVec.ofInt IntKind.i64.bits (L1.getD 5 0)).toNat : Nat) : Int))), (61, vi (v5 : Int))]
noncomputable def ZsO (o0 : Nat) (L1 : List Int) (n2 n3 : Nat) (O0 : Obj) : Zaj → List (Option AObj)
 | .h1m0 => [some (.ro O0)]
 | .h1m1 v2 v4 => [some (.ro O0), some (.cells (Zc Zi v2) 44)]
 | .h1m2 v2 v3 v5 => [some (.ro O0), some (.cells (Zc (Ze .u8) v2) 5), some (.cells (Zc Zi v3) 44)]

noncomputable def ZdA : Nat → Code × List Za2
 | 1 => Zbz [1, 1, 1, 1, 1, 0, 1, 3] (Zbh Try.f9) []
 | _ => (.skip, [])
def ZlU : Nat → Bool
 | 1 => true
 | _ => true
noncomputable def ZgQ (i : Nat) : List Za2 := match ZlU i with | true => .rnd i :: (ZdA i).2 | false => (ZdA i).2

noncomputable def Zas (o0 : Nat) (L1 : List Int) (n2 n3 : Nat) (O0 : Obj) (N : Nat) : Mach := ⟨Try.f9, [.ro O0], Zaj, ZP, Zbl L1 n2 n3 N, Zr4, ZdA, ZlU, ZsN o0 L1 n2 n3 O0, ZsO o0 L1 n2 n3 O0, Znk o0 L1 n2 n3 O0, ZlT o0 L1 n2 n3 O0⟩

theorem ZnU (o0 : Nat) (L1 : List Int) (n2 n3 : Nat) (O0 : Obj) (F0 : ∀ i, i < L1.length → Zat O0 (o0 + i * 1) [.k .u8 (L1.getD i 0)]) (N : Nat) : (Zas o0 L1 n2 n3 O0 N).Ok Try.prog Zj (.h1m0 : Zaj) (Zbl L1 n2 n3 N (.h1m0 : Zaj)) := by
 show (Zas o0 L1 n2 n3 O0 N).Ok Try.prog Zj (.h1m0 : Zaj) (Zbo L1 n2 n3 N)
 unfold Zbo
 refine Mach.ok_ite (fun g0 => ?_) (fun g0 => ?_)
 ·
  refine Mach.ok_bind (fun z1 c1 => ?_)
  cases z1 with
  | r0 y1_0 =>
   refine Mach.ok_ite (fun g2 => ?_) (fun g2 => ?_)
   ·
    exact Mach.ok_fin (M := Zas o0 L1 n2 n3 O0 N) (cd := 1000000) (cm := 0) (r := (.r0 ((110 : Int)) : ZP)) (fu := 4000) (orc := (Zh [(0, true), (1, true)] [] [] [] [(0, (Zk9 (o0) (L1) (6) (((n2 - 1) - 6)) ((n3 - 6)) O0 y1_0 0 1))])) (live := [0]) (u := Value.tuple #[vn, vi (110 : Int)]) (bl := [some (.ro O0)]) (ob := [((y1_0 != (0 : Int)), true), (dP (Zhq #[vs 0 (o0 + 6) ((n2 - 1) - 6) (n3 - 6)] (o0) (L1) (6) (((n2 - 1) - 6)) ((n3 - 6)) O0 y1_0 0 1), true), (dS O0, true), ((decide ((0 : Int) < (IntKind.i64.wrap (((BitVec.ofInt IntKind.i64.bits (IntKind.i64.wrap ((L1.getD 4 0) * (2 ^ 8 : Int))) ||| BitVec.ofInt IntKind.i64.bits (L1.getD 5 0)).toNat : Nat) : Int)))), true)]) (fun gv => by kernel_rfl) (oD <| Za (Zg (ZkA #[vs 0 (o0 + 6) ((n2 - 1) - 6) (n3 - 6)] (o0) (L1) (6) (((n2 - 1) - 6)) ((n3 - 6)) O0 F0 y1_0 N c1 0 1 rfl (by decide) (by decide))) <| oR <| oY Zb) rfl (by decide) (by rfl) rr ⟨rfl, trivial⟩
   ·
    exact Mach.ok_next (M := Zas o0 L1 n2 n3 O0 N) (cd := 1000000) (cm := 0) (y := (.h1m1 (([(⟨(0 : Int), (0 : Int), (0 : Int), (0 : Int)⟩ : R_iiii)] : List R_iiii)) (1) : Zaj)) (fu := 4000) (orc := (Zh [(0, true), (1, false)] [] [] [] [(0, (Zk9 (o0) (L1) (6) (((n2 - 1) - 6)) ((n3 - 6)) O0 y1_0 0 1))])) (live := [0, 3]) (tv := fun _ => [some (vn), some (vs 3 0 1 1), some (vi (IntKind.i64.wrap (((BitVec.ofInt IntKind.i64.bits (IntKind.i64.wrap ((L1.getD 4 0) * (2 ^ 8 : Int))) ||| BitVec.ofInt IntKind.i64.bits (L1.getD 5 0)).toNat : Nat) : Int))), some (vi (1 : Int))]) (bl := [some (.ro O0), some (.cells [vq, vq, vq, vq] 44)]) (ob := [((y1_0 != (0 : Int)), false), (dP (Zhq #[vs 0 (o0 + 6) ((n2 - 1) - 6) (n3 - 6)] (o0) (L1) (6) (((n2 - 1) - 6)) ((n3 - 6)) O0 y1_0 0 1), true), (dS O0, true), ((decide ((0 : Int) < (IntKind.i64.wrap (((BitVec.ofInt IntKind.i64.bits (IntKind.i64.wrap ((L1.getD 4 0) * (2 ^ 8 : Int))) ||| BitVec.ofInt IntKind.i64.bits (L1.getD 5 0)).toNat : Nat) : Int)))), true)]) rfl (show 1 ∈ Zq (ZgQ 1) from by decide +kernel) (fun gv => by kernel_rfl) (oE <| Za (Zg (ZkA #[vs 0 (o0 + 6) ((n2 - 1) - 6) (n3 - 6)] (o0) (L1) (6) (((n2 - 1) - 6)) ((n3 - 6)) O0 F0 y1_0 N c1 0 1 rfl (by decide) (by decide))) <| oR <| oY Zb) rfl (by decide) (by rfl) (fun _ => ⟨rr, ⟨⟨Eq.trans (show (vs 1 0 ([(⟨(0 : Int), (0 : Int), (0 : Int), (0 : Int)⟩ : R_iiii)] : List R_iiii).length ([(⟨(0 : Int), (0 : Int), (0 : Int), (0 : Int)⟩ : R_iiii)] : List R_iiii).length : Value) = vs 1 0 1 1 from (Z2 rfl eqA eqA)) (by rfl), by rfl⟩, ⟨rr, ⟨⟨Eq.trans (show (vi ((1 : Nat) : Int) : Value) = vi (1 : Int) from (congrArg (Value.int .i64) (by first | rfl | omega))) (by rfl), by rfl⟩, trivial⟩⟩⟩⟩) ⟨rfl, ⟨(Zaq (E := Zi) _ (L := ([(⟨(0 : Int), (0 : Int), (0 : Int), (0 : Int)⟩ : R_iiii)] : List R_iiii)) _ (show ([vq, vq, vq, vq] : List Value) = Zc Zi ([(⟨(0 : Int), (0 : Int), (0 : Int), (0 : Int)⟩ : R_iiii)] : List R_iiii) from rfl)), trivial⟩⟩
  | r1 y1_0 y1_1 y1_2 y1_3 =>
   exact Mach.ok_next (M := Zas o0 L1 n2 n3 O0 N) (cd := 1000000) (cm := 0) (y := (.h1m2 (y1_3) (([(⟨(L1.getD 6 0), y1_0, y1_1, y1_2⟩ : R_iiii)] : List R_iiii)) (1) : Zaj)) (fu := 4000) (orc := (Zh [(0, true)] [] [] [] [(0, (Zqj (o0) (L1) (6) (((n2 - 1) - 6)) ((n3 - 6)) O0 y1_0 y1_1 y1_2 y1_3 0 1))])) (live := [0, 1, 4]) (tv := fun _ => [some (vs 1 0 y1_3.length y1_3.length), some (vs 4 0 1 1), some (vi (IntKind.i64.wrap (((BitVec.ofInt IntKind.i64.bits (IntKind.i64.wrap ((L1.getD 4 0) * (2 ^ 8 : Int))) ||| BitVec.ofInt IntKind.i64.bits (L1.getD 5 0)).toNat : Nat) : Int))), some (vi (1 : Int))]) (bl := [some (.ro O0), some (.cells (Zc (Ze .u8) y1_3) 5), some (.cells [vi (L1.getD 6 0), vi y1_0, vi y1_1, vi y1_2] 44)]) (ob := [(dP (ZkB #[vs 0 (o0 + 6) ((n2 - 1) - 6) (n3 - 6)] (o0) (L1) (6) (((n2 - 1) - 6)) ((n3 - 6)) O0 y1_0 y1_1 y1_2 y1_3 0 1), true), (dS O0, true), ((decide ((0 : Int) < (IntKind.i64.wrap (((BitVec.ofInt IntKind.i64.bits (IntKind.i64.wrap ((L1.getD 4 0) * (2 ^ 8 : Int))) ||| BitVec.ofInt IntKind.i64.bits (L1.getD 5 0)).toNat : Nat) : Int)))), true)]) rfl (show 1 ∈ Zq (ZgQ 1) from by decide +kernel) (fun gv => by kernel_rfl) (Za (Zg (Zqk #[vs 0 (o0 + 6) ((n2 - 1) - 6) (n3 - 6)] (o0) (L1) (6) (((n2 - 1) - 6)) ((n3 - 6)) O0 F0 y1_0 y1_1 y1_2 y1_3 N c1 0 1 rfl (by decide) (by decide))) <| oR <| oY Zb) rfl (by decide) (by rfl) (fun _ => ⟨rr, ⟨⟨Eq.trans (show (vs 2 0 ([(⟨(L1.getD 6 0), y1_0, y1_1, y1_2⟩ : R_iiii)] : List R_iiii).length ([(⟨(L1.getD 6 0), y1_0, y1_1, y1_2⟩ : R_iiii)] : List R_iiii).length : Value) = vs 2 0 1 1 from (Z2 rfl eqA eqA)) (by rfl), by rfl⟩, ⟨rr, ⟨⟨Eq.trans (show (vi ((1 : Nat) : Int) : Value) = vi (1 : Int) from (congrArg (Value.int .i64) (by first | rfl | omega))) (by rfl), by rfl⟩, trivial⟩⟩⟩⟩) ⟨rfl, ⟨(Zn (E := (Ze .u8)) (α := Int) _ y1_3 _), ⟨(Zaq (E := Zi) _ (L := ([(⟨(L1.getD 6 0), y1_0, y1_1, y1_2⟩ : R_iiii)] : List R_iiii)) _ (show ([vi (L1.getD 6 0), vi y1_0, vi y1_1, vi y1_2] : List Value) = Zc Zi ([(⟨(L1.getD 6 0), y1_0, y1_1, y1_2⟩ : R_iiii)] : List R_iiii) from rfl)), trivial⟩⟩⟩
 ·
  refine Mach.ok_ite (fun g1 => ?_) (fun g1 => ?_)
  ·
   exact Mach.ok_fin (M := Zas o0 L1 n2 n3 O0 N) (cd := 1000000) (cm := 0) (r := (.r0 ((110 : Int)) : ZP)) (fu := 4000) (orc := (Zh [(0, false), (1, true)] [] [] [] [])) (live := [0]) (u := Value.tuple #[vn, vi (110 : Int)]) (bl := [some (.ro O0)]) (ob := [((decide (((((n2 - 1) - 6) : Nat) : Int) > (0 : Int))), true), ((decide ((0 : Int) < (IntKind.i64.wrap (((BitVec.ofInt IntKind.i64.bits (IntKind.i64.wrap ((L1.getD 4 0) * (2 ^ 8 : Int))) ||| BitVec.ofInt IntKind.i64.bits (L1.getD 5 0)).toNat : Nat) : Int)))), false)]) (fun gv => by kernel_rfl) (oY <| oN Zb) rfl (by decide) (by rfl) rr ⟨rfl, trivial⟩
  ·
   exact Mach.ok_fin (M := Zas o0 L1 n2 n3 O0 N) (cd := 1000000) (cm := 0) (r := (.r0 ((0 : Int)) : ZP)) (fu := 4000) (orc := (Zh [(0, false), (1, false)] [] [] [] [])) (live := [0]) (u := Value.tuple #[vn, vq]) (bl := [some (.ro O0)]) (ob := [((decide (((((n2 - 1) - 6) : Nat) : Int) > (0 : Int))), false), ((decide ((0 : Int) < (IntKind.i64.wrap (((BitVec.ofInt IntKind.i64.bits (IntKind.i64.wrap ((L1.getD 4 0) * (2 ^ 8 : Int))) ||| BitVec.ofInt IntKind.i64.bits (L1.getD 5 0)).toNat : Nat) : Int)))), false)]) (fun gv => by kernel_rfl) (oN <| oN Zb) rfl (by decide) (by rfl) rr ⟨rfl, trivial⟩

theorem ZnV (o0 : Nat) (L1 : List Int) (n2 n3 : Nat) (O0 : Obj) (F0 : ∀ i, i < L1.length → Zat O0 (o0 + i * 1) [.k .u8 (L1.getD i 0)]) (v2 : List R_iiii) (v4 N : Nat) : (Zas o0 L1 n2 n3 O0 N).Ok Try.prog Zj (.h1m1 v2 v4 : Zaj) (Zbl L1 n2 n3 N (.h1m1 v2 v4 : Zaj)) := by
 show (Zas o0 L1 n2 n3 O0 N).Ok Try.prog Zj (.h1m1 v2 v4 : Zaj) (Zgv L1 n2 n3 N v2 v4)
 unfold Zgv
 refine Mach.ok_ite (fun g0 => ?_) (fun g0 => ?_)
 ·
  refine Mach.ok_bind (fun z1 c1 => ?_)
  cases z1 with
  | r0 =>
   exact Mach.ok_fin (M := Zas o0 L1 n2 n3 O0 N) (cd := 1000000) (cm := 0) (r := (.r0 ((110 : Int)) : ZP)) (fu := 4000) (orc := (Zh [(0, true)] [] [] [] [(0, (ZoH     2))])) (live := [0]) (u := Value.tuple #[vn, vi (110 : Int)]) (bl := [some (.ro O0)]) (ob := [(dP (ZiV #[vn]     2), true), ((decide ((v4 : Int) < (IntKind.i64.wrap (((BitVec.ofInt IntKind.i64.bits (IntKind.i64.wrap ((L1.getD 4 0) * (2 ^ 8 : Int))) ||| BitVec.ofInt IntKind.i64.bits (L1.getD 5 0)).toNat : Nat) : Int)))), true)]) (fun gv => by kernel_rfl) (Za (Zg (ZoI #[vn]    N c1  2 rfl (by decide) (by decide))) <| oY Zb) rfl (by decide) (by rfl) rr ⟨rfl, trivial⟩
 ·
  exact Mach.ok_fin (M := Zas o0 L1 n2 n3 O0 N) (cd := 1000000) (cm := 0) (r := (.r1 (v2) : ZP)) (fu := 4000) (orc := (Zh [(0, false)] [] [] [] [])) (live := [0, 1]) (u := Value.tuple #[vs 1 0 v2.length v2.length, vq]) (bl := [some (.ro O0), some (.cells (Zc Zi v2) 44)]) (ob := [((decide ((v4 : Int) < (IntKind.i64.wrap (((BitVec.ofInt IntKind.i64.bits (IntKind.i64.wrap ((L1.getD 4 0) * (2 ^ 8 : Int))) ||| BitVec.ofInt IntKind.i64.bits (L1.getD 5 0)).toNat : Nat) : Int)))), false)]) (fun gv => by kernel_rfl) (oN Zb) rfl (by decide) (by rfl) rr ⟨rfl, ⟨(Zn (E := Zi) (α := R_iiii) _ v2 _), trivial⟩⟩

end Ev
end Go.Proofs.Ytjfmadhcbgdakaa
