/- commonWord and simulate: steps of Euclid's. -/
import Derived.Test.YtlncagdekfjinaaGreatDoorBase
import Derived.Test.YtlncagdekfjinaaGreatDoorLehmer
import Derived.RegionTactic
import Derived.ChangeAlike
import Derived.StillTailTactics
namespace Go.Proofs.YtlncagdekfjinaaGreatDoor
open Go.RowKit Go.Sort Dg
theorem commonWord_any (x y : Nat) (hy : y < B) (w : World) :
    Calls Tryz.prog 186 #[u64 x, u64 y] w fun e w' => e = .returned (u64 (Nat.gcd x y)) ∧ ∃ q, w.drewN q = w' := by
  go_enter Tryz.func186, Tryz.ntmps186
  go_wp2
  go_loopw [0, 1] (fun v0 v1 wr => ∃ a b q : Nat, v0 = u64 a ∧ v1 = u64 b ∧ b < B ∧ Hid (Nat.gcd a b = Nat.gcd x y) ∧ wr = w.drewN q) (fun _ v1 _ => (intOf v1).toNat)
  case atStart => exact ⟨x, y, 0, rfl, rfl, hy, rfl, rfl⟩
  case round =>
    obtain ⟨a, b, q, rfl, rfl, hb, hg, rfl⟩ := hrel
    by_cases hb0 : b = 0
    · subst hb0
      go_wp2
      go_ret
      refine ⟨?_, q, rfl⟩
      have := hg.out
      rw [Nat.gcd_zero_right] at this
      rw [← this]; rfl
    · have hp : 0 < b := by omega
      have hm : (a : Int).tmod (b : Int) = ((a % b : Nat) : Int) := rfl
      have ht : ((b : Int) == 0) = false := by rw [beq_eq_false_iff_ne]; omega
      clear hb0
      go_wp2
      go_region
      go_wp2
      go_roundw
      case rel => exact ⟨b, a % b, q + 1, rfl, rfl, Nat.lt_trans (Nat.mod_lt _ hp) hb, Lib.hid (by rw [← hg.out, Nat.gcd_comm a b, Nat.gcd_rec b a, Nat.gcd_comm]), rfl⟩
      case measure => simp [intOf]; exact Nat.mod_lt _ hp
structure Six (w : World) (h a b a0 b0 a1 b1 : Nat) : Prop where
  c1 : w.cell? ⟨h + 1 + 1, 0, none⟩ = some (u64 a)
  c2 : w.cell? ⟨h + 1 + 1, 1, none⟩ = some (u64 b)
  c3 : w.cell? ⟨h + 1 + 1 + 1, 0, none⟩ = some (u64 a0)
  c4 : w.cell? ⟨h + 1 + 1 + 1, 1, none⟩ = some (u64 b0)
  c5 : w.cell? ⟨h + 1 + 1 + 1 + 1, 0, none⟩ = some (u64 a1)
  c6 : w.cell? ⟨h + 1 + 1 + 1 + 1, 1, none⟩ = some (u64 b1)
  f1 : w.frozen? ⟨h + 1 + 1, 0, none⟩ = false
  f2 : w.frozen? ⟨h + 1 + 1, 1, none⟩ = false
  f3 : w.frozen? ⟨h + 1 + 1 + 1, 0, none⟩ = false
  f4 : w.frozen? ⟨h + 1 + 1 + 1, 1, none⟩ = false
  f5 : w.frozen? ⟨h + 1 + 1 + 1 + 1, 0, none⟩ = false
  f6 : w.frozen? ⟨h + 1 + 1 + 1 + 1, 1, none⟩ = false
  c7 : w.cell? ⟨h, 0, none⟩ = some (.int .u64 0)
  c8 : w.cell? ⟨h, 1, none⟩ = some (.int .u64 0)
  c9 : w.cell? ⟨h + 1, 0, none⟩ = some (.int .u64 0)
  c10 : w.cell? ⟨h + 1, 1, none⟩ = some (.int .u64 0)
  f7 : w.frozen? ⟨h, 0, none⟩ = false
  f8 : w.frozen? ⟨h, 1, none⟩ = false
  f9 : w.frozen? ⟨h + 1, 0, none⟩ = false
  f10 : w.frozen? ⟨h + 1, 1, none⟩ = false
theorem Six.next {w : World} {h a b a0 b0 a1 b1 n1 n2 : Nat} (H : Six w h a b a0 b0 a1 b1) :
    Six ((((((w.setCell ⟨h + 1 + 1, 0, none⟩ (u64 a0)).setCell ⟨h + 1 + 1, 1, none⟩ (u64 b0)).setCell ⟨h + 1 + 1 + 1, 0, none⟩ (u64 a1)).setCell ⟨h + 1 + 1 + 1, 1, none⟩ (u64 b1)).setCell ⟨h + 1 + 1 + 1 + 1, 0, none⟩ (u64 n1)).setCell ⟨h + 1 + 1 + 1 + 1, 1, none⟩ (u64 n2)).drew h a0 b0 a1 b1 n1 n2 := by
  obtain ⟨c1, c2, c3, c4, c5, c6, f1, f2, f3, f4, f5, f6, c7, c8, c9, c10, f7, f8, f9, f10⟩ := H
  constructor <;> go_simp
def simW (w : World) : World := ((((w.alloc (Obj.cells #[Value.int IntKind.u64 0, Value.int IntKind.u64 0] 248)).alloc (Obj.cells #[Value.int IntKind.u64 0, Value.int IntKind.u64 0] 248)).alloc
  (Obj.cells #[Value.int IntKind.u64 0, Value.int IntKind.u64 0] 248)).alloc (Obj.cells #[Value.int IntKind.u64 1, Value.int IntKind.u64 0] 248)).alloc (Obj.cells #[Value.int IntKind.u64 0, Value.int IntKind.u64 1] 248)
theorem simW_below (w : World) : Below w.heap.size w (simW w) := by
  unfold simW
  refine (((((Below.refl _ _).alloc ?_ _).alloc ?_ _).alloc ?_ _).alloc ?_ _).alloc ?_ _ <;> simp <;> omega
theorem simW_six (w : World) : Six (simW w) w.heap.size 0 0 1 0 0 1 := by
  unfold simW
  constructor <;> go_simp
set_option maxRecDepth 100000 in
set_option maxHeartbeats 4000000 in
theorem simulate_any (X Y P ξ η xh yh : Nat) (hX : X = xh * P + ξ) (hY : Y = yh * P + η) (hξ : ξ < P) (hη : η < P) (hord : yh ≤ xh) (hxB : xh < B) (hYX : Y ≤ X) (w : World) :
    Calls Tryz.prog 181 #[u64 xh, u64 yh] w fun e w' =>
      ∃ a b c d : Nat, e = .returned (.tuple #[.agg #[u64 a, u64 b], .agg #[u64 c, u64 d]]) ∧ a < B ∧ b < B ∧ c < B ∧ d < B ∧ (b = 0 ∨ Lehmer X Y a b c d) ∧ Below w.heap.size w w' := by
  have HX := Lib.hid hX
  have HY := Lib.hid hY
  clear hX hY
  go_enter Tryz.func181, Tryz.ntmps181
  have H6 := Lib.hid (simW_six w)
  have HB := Lib.hid (simW_below w)
  unfold simW at H6 HB
  go_wp2
  go_loopw [0, 1] (fun v0 v1 wr => ∃ x y a b a0 b0 a1 b1 : Nat, v0 = u64 x ∧ v1 = u64 y ∧ a < B ∧ b < B ∧ a0 < B ∧ b0 < B ∧ a1 < B ∧ b1 < B ∧ x < B ∧ Hid (Euc xh yh x y a0 b0 a1 b1) ∧ Hid (b = 0 ∨ Lehmer X Y a b a0 b0) ∧ Hid (far X Y a0 b0 ≤ X ∧ (b0 = 0 ∨ far X Y a0 b0 ≤ Y)) ∧ Hid (Six wr w.heap.size a b a0 b0 a1 b1) ∧ Hid (Below w.heap.size w wr)) (fun _ v1 _ => (intOf v1).toNat)
  case atStart => exact ⟨xh, yh, 0, 0, 1, 0, 0, 1, rfl, rfl, B_pos, B_pos, by unfold B; omega, B_pos, B_pos, by unfold B; omega, hxB, Lib.hid (Euc.start hord), Lib.hid (.inl rfl), Lib.hid ⟨by unfold far; omega, .inl rfl⟩, H6, HB⟩
  case round =>
    clear H6 HB
    obtain ⟨x, y, a, b, a0, b0, a1, b1, rfl, rfl, ha, hb, ha0, hb0, ha1, hb1, hx, HE, HL, HF, H6, HB⟩ := hrel
    obtain ⟨c1, c2, c3, c4, c5, c6, f1, f2, f3, f4, f5, f6, c7, c8, c9, c10, f7, f8, f9, f10⟩ := H6.out
    have ho := HE.out.ord
    by_cases t1 : b1 ≤ y
    · have hy1 : 1 ≤ y := Nat.le_trans HE.out.pos t1
      have hb01 : b0 + b1 < B := Nat.lt_of_le_of_lt ((HE.out.bounds (by omega)).2.2.2 hy1) hxB
      have k0 : decide ((b1 : Int) ≤ (y : Int)) = true := by simp; omega
      have k1 : IntKind.u64.wrap ((b0 : Int) + (b1 : Int)) = ((b0 + b1 : Nat) : Int) := by rw [show (b0 : Int) + b1 = ((b0 + b1 : Nat) : Int) by omega, wrapU, Nat.mod_eq_of_lt hb01]
      have k2 : IntKind.u64.wrap ((x : Int) - (y : Int)) = ((x - y : Nat) : Int) := by rw [show (x : Int) - y = ((x - y : Nat) : Int) by omega, wrapU, Nat.mod_eq_of_lt (by omega)]
      by_cases t2 : b0 + b1 ≤ x - y
      · have k3 : decide ((b0 : Int) + (b1 : Int) ≤ ((x - y : Nat) : Int)) = true := by simp; omega
        have hE2 := HE.out.step hy1
        have hL2 := HE.out.lehmer (X := X) (Y := Y) (euc_true HE.out HX.out HY.out hξ hη t1 t2) HF.out.1 HF.out.2
        have hF2 : far X Y a1 b1 ≤ X ∧ (b1 = 0 ∨ far X Y a1 b1 ≤ Y) := ⟨Nat.le_trans hL2.ley hYX, .inr hL2.ley⟩
        have hbd := hE2.bounds hy1
        have hqI : IntKind.u64.wrap ((x : Int) / (y : Int)) = ((x / y : Nat) : Int) := by
          rw [show (x : Int) / y = ((x / y : Nat) : Int) from rfl, wrapU, Nat.mod_eq_of_lt (Nat.lt_of_le_of_lt (Nat.div_le_self _ _) hx)]
        have hrI : (x : Int) % (y : Int) = ((x % y : Nat) : Int) := rfl
        have hrl : x % y < y := Nat.mod_lt _ hy1
        have hyt : ((y : Int) == 0) = false := by rw [beq_eq_false_iff_ne]; omega
        generalize x / y = q at *
        generalize x % y = r at *
        obtain ⟨m1, e1⟩ : ∃ m, q * a1 = m := ⟨_, rfl⟩
        obtain ⟨m2, e2⟩ : ∃ m, q * b1 = m := ⟨_, rfl⟩
        rw [e1, e2] at hE2 hbd
        have w1 : IntKind.u64.wrap ((q : Int) * (a1 : Int)) = (m1 : Int) := by rw [← Int.natCast_mul, e1, wrapU, Nat.mod_eq_of_lt (by omega)]
        have w2 : IntKind.u64.wrap ((q : Int) * (b1 : Int)) = (m2 : Int) := by rw [← Int.natCast_mul, e2, wrapU, Nat.mod_eq_of_lt (by omega)]
        have w3 : a0 + m1 < 18446744073709551616 := by have := B_eq; omega
        have w4 : b0 + m2 < 18446744073709551616 := by have := B_eq; omega
        have HE2 := Lib.hid hE2
        have HL2 := Lib.hid hL2
        have HF2 := Lib.hid hF2
        clear hE2 hL2 hF2 hbd e1 e2 HE HL HF
        go_wp2
        go_region
        go_wp2
        have HS : Hid (Six wr.drew w.heap.size a b a0 b0 a1 b1) := Lib.hid ⟨c1, c2, c3, c4, c5, c6, f1, f2, f3, f4, f5, f6, c7, c8, c9, c10, f7, f8, f9, f10⟩
        have HB2 := Lib.hid HB.out.drew
        clear c1 c2 c3 c4 c5 c6 f1 f2 f3 f4 f5 f6 c7 c8 c9 c10 f7 f8 f9 f10 H6 HB
        generalize wr.drew = w2 at *
        obtain ⟨c1, c2, c3, c4, c5, c6, f1, f2, f3, f4, f5, f6, c7, c8, c9, c10, f7, f8, f9, f10⟩ := HS.out
        go_region
        go_wp2
        go_roundw
        case rel =>
          refine ⟨y, r, a0, b0, a1, b1, a0 + m1, b0 + m2, rfl, congrArg (Value.int .u64) hrI, ha0, hb0, ha1, hb1, by rw [B_eq]; exact w3, by rw [B_eq]; exact w4, by omega, HE2, Lib.hid (.inr HL2.out), HF2, Lib.hid HS.out.next, Lib.hid ?_⟩
          exact ((((((HB2.out.setCell (by first | omega | (simp; omega) | simp) _).setCell (by first | omega | (simp; omega) | simp) _).setCell (by first | omega | (simp; omega) | simp) _).setCell (by first | omega | (simp; omega) | simp) _).setCell (by first | omega | (simp; omega) | simp) _).setCell (by first | omega | (simp; omega) | simp) _).drew
        case measure =>
          show ((x : Int) % (y : Int)).toNat < ((y : Nat) : Int).toNat
          rw [hrI]; omega
      · have k3 : decide ((b0 : Int) + (b1 : Int) ≤ ((x - y : Nat) : Int)) = false := by simp; omega
        go_wp2
        go_region
        go_wp2
        refine bodyPost_ret (v := .tuple #[.agg #[Go.Proofs.YtlncagdekfjinaaGreatDoor.u64 a, Go.Proofs.YtlncagdekfjinaaGreatDoor.u64 b], .agg #[Go.Proofs.YtlncagdekfjinaaGreatDoor.u64 a0, Go.Proofs.YtlncagdekfjinaaGreatDoor.u64 b0]]) (by simp [results, Tryz.results181, go_sem, c7, c8, c9, c10]) rfl ⟨a, b, a0, b0, rfl, ha, hb, ha0, hb0, HL.out, ?_⟩
        exact ((((HB.out.setCell (by simp) _).setCell (by simp) _).setCell (by simp) _).setCell (by simp) _).drew
    · have k0 : decide ((b1 : Int) ≤ (y : Int)) = false := by simp; omega
      go_wp2
      go_region
      go_wp2
      refine bodyPost_ret (v := .tuple #[.agg #[Go.Proofs.YtlncagdekfjinaaGreatDoor.u64 a, Go.Proofs.YtlncagdekfjinaaGreatDoor.u64 b], .agg #[Go.Proofs.YtlncagdekfjinaaGreatDoor.u64 a0, Go.Proofs.YtlncagdekfjinaaGreatDoor.u64 b0]]) (by simp [results, Tryz.results181, go_sem, c7, c8, c9, c10]) rfl ⟨a, b, a0, b0, rfl, ha, hb, ha0, hb0, HL.out, ?_⟩
      exact ((((HB.out.setCell (by simp) _).setCell (by simp) _).setCell (by simp) _).setCell (by simp) _).drew
end Go.Proofs.YtlncagdekfjinaaGreatDoor
