/- The reference's texts; law01.Is. -/
import Derived.Test.YtpchihhngpdblaaGreatDoorRefN
import Derived.Test.YtpchihhngpdblaaGreatDoorTextA
import Derived.Test.YtpchihhngpdblaaGreatDoorRefF
namespace Go.Proofs.YtpchihhngpdblaaGreatDoor
namespace R3
open Go.RowKit Go.Sort D3 D10
def GivesT (w : World) (l : List UInt8) (e : Ending) (w' : World) : Prop := e = .returned (.string ⟨l.toArray⟩) ∧ Below w.heap.size w w'
theorem ext_digit (r : Nat) (hr : r < 10) : ((⟨#[48, 49, 50, 51, 52, 53, 54, 55, 56, 57]⟩ : ByteArray).extract r (r + 1)) = ⟨#[UInt8.ofNat (48 + r)]⟩ := by
  have e : ∀ r : Fin 10, ((⟨#[48, 49, 50, 51, 52, 53, 54, 55, 56, 57]⟩ : ByteArray).extract r.val (r.val + 1)) = ⟨#[UInt8.ofNat (48 + r.val)]⟩ := by decide +kernel
  exact e ⟨r, hr⟩
theorem digit_cat (d : UInt8) (s : List UInt8) : (⟨#[d]⟩ : ByteArray) ++ ⟨s.toArray⟩ = ⟨(d :: s).toArray⟩ := by
  apply ByteArray.ext
  simp
set_option maxHeartbeats 4000000 in
set_option maxRecDepth 100000 in
theorem digits_any (a : Option Addr) (ca N : Nat) (w : World) (h : DigsAt w a (nl N) ca N) (hn : nl N ≤ 1073741824) (hlen : (Lib.decDigits N).length ≤ 1099511627776) :
    Calls Tryz.prog 168 #[.slice a (nl N) ca] w (GivesT w (Lib.decDigits N)) := by
  by_cases h0 : N = 0
  · subst h0
    rw [nl_zero, show Lib.decDigits 0 = [48] by decide +kernel]
    go_enter Tryz.func168, Tryz.ntmps168
    go_wp2
    go_ret
    exact ⟨rfl, Below.refl _ _⟩
  · have hp := nl_pos h0
    have g0 : ((nl N : Int) == 0) = false := by rw [beq_eq_false_iff_ne]; omega
    have HS := Lib.hid (Rem10.start h0)
    have HL := Lib.hid hlen
    have HN := Lib.hid (And.intro hn h0)
    have HD := Lib.hid h
    clear h hn hlen h0 hp
    go_enter Tryz.func168, Tryz.ntmps168
    go_wp2
    go_loopg [0, 3] N (fun k v0 v3 wr => ∃ (a' : Option Addr) (c' : Nat) (s : List UInt8), v0 = .slice a' (nl k) c' ∧ v3 = .string ⟨s.toArray⟩ ∧ Hid (DigsAt wr a' (nl k) c' k) ∧ Hid (Rem10 N k s) ∧ Hid (k ≤ N) ∧ Hid (Below w.heap.size w wr))
    case atStart => exact ⟨a, ca, [], rfl, rfl, HD, HS, Nat.le_refl _, Below.refl _ _⟩
    case round =>
      obtain ⟨a', c', s, rfl, rfl, HK, HT, HLE, HB⟩ := hrel
      clear HS HD g0
      by_cases hk : gk = 0
      · subst hk
        have HE := Lib.hid (HT.out.2 rfl)
        have hz : nl 0 = 0 := nl_zero
        clear HT HK HLE
        rw [hz]
        go_wp2_with fail
        go_ret
        exact ⟨by rw [HE.out]; rfl, HB.out⟩
      · have hp : 0 < nl gk := nl_pos hk
        have hp2 : (0 : Int) < (nl gk : Int) := by omega
        have hnk : nl gk ≤ 1073741824 := Nat.le_trans (nl_mono HLE.out) HN.out.1
        have HQ := Lib.hid (byDigit_any a' c' gk 1000000000 wr HK.out hnk (by decide) (by unfold B; decide))
        obtain ⟨q, hq⟩ : ∃ q, q = gk / 1000000000 := ⟨_, rfl⟩
        obtain ⟨r, hr⟩ : ∃ r, r = gk % 1000000000 := ⟨_, rfl⟩
        rw [← hq, ← hr] at HQ
        have HKV := Lib.hid (show gk = q * 10 ^ 9 + r ∧ r < 10 ^ 9 ∧ q < gk by
          have e : (10 : Nat) ^ 9 = 1000000000 := by decide
          rw [e]; omega)
        have HK0 := Lib.hid hk
        clear hp hnk HK hq hr hk
        go_wp2_with fail
        refine HQ.out.mono ?_
        rintro e w1 ⟨a1, c1, rfl, hd1, hb1⟩
        have HD1 := Lib.hid hd1
        have HB1 := Lib.hid (HB.out.trans (hb1.mono HB.out.size))
        clear hd1 hb1 HQ HB
        have HT1 := Lib.hid (show Rem10 N (q * 10 ^ 9 + r) s by rw [← HKV.out.1]; exact HT.out)
        clear HT
        go_wp2_with fail
        go_loopg [3, 5, 6] 9 (fun j v3 v5 v6 wr => ∃ (r : Nat) (s : List UInt8), v3 = .string ⟨s.toArray⟩ ∧ v5 = .int .u32 (r : Nat) ∧ v6 = .int .i64 (9 - (j : Int)) ∧ j ≤ 9 ∧ Hid (r < 10 ^ j) ∧ Hid (Rem10 N (q * 10 ^ j + r) s) ∧ w1 = wr)
        case atStart => exact ⟨r, s, rfl, rfl, by go_num, Nat.le_refl _, HKV.out.2.1, HT1, rfl⟩
        case round =>
          obtain ⟨r, s, rfl, rfl, rfl, hj, hr, hT, rfl⟩ := hrel
          clear HT1
          have HEnd := Lib.hid (fun (s : List UInt8) (h : Rem10 N q s) => show ∃ (a' : Option Addr) (c' : Nat) (s' : List UInt8), Value.slice a1 (nl q) c1 = .slice a' (nl q) c' ∧ Value.string ⟨s.toArray⟩ = .string ⟨s'.toArray⟩ ∧ Hid (DigsAt w1 a' (nl q) c' q) ∧ Hid (Rem10 N q s') ∧ Hid (q ≤ N) ∧ Hid (Below w.heap.size w w1) from
            ⟨a1, c1, s, rfl, rfl, HD1, h, Nat.le_trans (Nat.le_of_lt HKV.out.2.2) HLE.out, HB1⟩)
          by_cases hg : gk = 0
          · have hfin := Lib.hid (show Rem10 N q s by
              have h1 := hT.out
              have h2 := hr.out
              rw [hg] at h1 h2
              have : r = 0 := by simpa using h2
              rw [this] at h1
              simpa using h1)
            have g1 : (9 : Int) - ((gk : Nat) : Int) = 9 := by omega
            clear hT hr
            rw [g1]
            go_wp2_with fail
            go_roundg q
            case measure => exact HKV.out.2.2
            case rel => exact HEnd.out s hfin.out
          · obtain ⟨m, hm⟩ : ∃ m, gk = m + 1 := ⟨gk - 1, by omega⟩
            have g1 : (9 : Int) - ((gk : Nat) : Int) < 9 := by omega
            by_cases hz : q = 0 ∧ r = 0
            · obtain ⟨hz1, hz2⟩ := hz
              have hfin := Lib.hid (show Rem10 N q s by
                have h1 := hT.out
                rw [hz1, hz2] at h1
                rw [hz1]
                simpa using h1)
              have g2 : ((nl q : Nat) : Int) = 0 := by rw [hz1, nl_zero]; rfl
              have g3 : ((r : Nat) : Int) = 0 := by rw [hz2]; rfl
              clear hT hr hz1 hz2
              go_wp2_with fail
              go_roundg q
              case measure => exact HKV.out.2.2
              case rel => exact HEnd.out s hfin.out
            · obtain ⟨s1, s2⟩ := step_num q r m
              have hM : q * 10 ^ (m + 1) + r ≠ 0 := by
                intro e
                have e1 : q * 10 ^ (m + 1) = 0 := by omega
                have hp : 10 ^ (m + 1) ≠ 0 := Nat.pos_iff_ne_zero.1 (Nat.pow_pos (by decide))
                rcases Nat.mul_eq_zero.1 e1 with h | h
                · exact hz ⟨h, by omega⟩
                · exact hp h
              have h1 := hT.out
              rw [hm] at h1
              have h2 := h1.step hM
              rw [s1, s2] at h2
              have hl : s.length ≤ 1099511627776 := by
                have := HL.out
                rw [h1.1 hM] at this
                simp at this
                omega
              have hrr := hr.out
              have hp9 : 10 ^ gk ≤ 10 ^ 9 := Nat.pow_le_pow_right (by decide) hj
              have e9 : (10 : Nat) ^ 9 = 1000000000 := by decide
              have hr32 : r < 1000000000 := by omega
              have hr2 : r / 10 < 10 ^ m := by
                rw [hm, Nat.pow_succ] at hrr
                omega
              have hlen2 : ¬ 9223372036854775807 < 1 + s.length := by omega
              have HT2 := Lib.hid h2
              have HR2 := Lib.hid hr2
              have HM9 := Lib.hid (show m ≤ 9 by omega)
              clear h1 h2 hT hr hl hrr hp9 e9 hr2 s1 s2 hM
              by_cases hq0 : q = 0
              · have g2 : ((nl q : Nat) : Int) = 0 := by rw [hq0, nl_zero]; rfl
                have g3 : (0 : Int) < ((r : Nat) : Int) := by omega
                clear hq0 hz
                go_wp2_with fail
                go_roundg m
                case measure => omega
                case rel => exact ⟨r / 10, UInt8.ofNat (48 + r % 10) :: s, by rw [ext_digit _ (Nat.mod_lt _ (by decide)), digit_cat], rfl, by congr 1; omega, HM9.out, HR2, HT2, rfl⟩
              · have g2 : (0 : Int) < ((nl q : Nat) : Int) := by have := nl_pos hq0; omega
                clear hq0 hz
                go_wp2_with fail
                go_roundg m
                case measure => omega
                case rel => exact ⟨r / 10, UInt8.ofNat (48 + r % 10) :: s, by rw [ext_digit _ (Nat.mod_lt _ (by decide)), digit_cat], rfl, by congr 1; omega, HM9.out, HR2, HT2, rfl⟩
end R3
end Go.Proofs.YtpchihhngpdblaaGreatDoor
namespace Go.Proofs.YtpchihhngpdblaaGreatDoor
namespace R3
open Go.RowKit Go.Sort D3 Fr
theorem join_r1 (a : List UInt8) : Ending.returned (.string (⟨#[45]⟩ ++ ⟨a.toArray⟩)) = .returned (.string ⟨((if true = true then [45] else []) ++ a ++ []).toArray⟩) := by
  rw [join_ni]; simp
theorem join_r2 (a b : List UInt8) : Ending.returned (.string (⟨a.toArray⟩ ++ ⟨#[47]⟩ ++ ⟨b.toArray⟩)) = .returned (.string ⟨((if false = true then [45] else []) ++ a ++ 47 :: b).toArray⟩) := by
  rw [show (⟨#[47]⟩ : ByteArray) = ⟨[47].toArray⟩ from rfl, bytes_add, bytes_add]; simp
theorem join_r3 (a b : List UInt8) : Ending.returned (.string (⟨#[45]⟩ ++ ⟨a.toArray⟩ ++ ⟨#[47]⟩ ++ ⟨b.toArray⟩)) = .returned (.string ⟨((if true = true then [45] else []) ++ a ++ 47 :: b).toArray⟩) := by
  rw [show (⟨#[45]⟩ : ByteArray) = ⟨[45].toArray⟩ from rfl, show (⟨#[47]⟩ : ByteArray) = ⟨[47].toArray⟩ from rfl, bytes_add, bytes_add, bytes_add]; simp
set_option maxHeartbeats 4000000 in
theorem rtext_case (s : Bool) (a b : Option Addr) (c k n d : Nat) {w : World} (v : Value) (hv : v = .agg #[.bool s, .slice a (nl n) c, .slice b (nl d) k]) (hn : DigsAt w a (nl n) c n) (h1 : (Lib.decDigits n).length ≤ TL) (h2 : (Lib.decDigits d).length ≤ TL) (l1 : nl n ≤ 1048576) (l2 : nl d ≤ 1048576) (hd0 : d ≠ 0)
    (hU : ∀ W, Below w.heap.size w W → Calls Tryz.prog 143 #[v] W (GivesA W d)) :
    Calls Tryz.prog 99 #[v] w (GivesT w ((if s then [45] else []) ++ Lib.decDigits n ++ (if d = 1 then [] else 47 :: Lib.decDigits d))) := by
  subst hv
  unfold TL at h1 h2
  obtain ⟨R, hR⟩ : ∃ R, R = (if s then [45] else []) ++ Lib.decDigits n ++ (if d = 1 then [] else 47 :: Lib.decDigits d) := ⟨_, rfl⟩
  rw [← hR]
  have HR := Lib.hid hR
  clear hR
  have HT := Lib.hid (fun W (hW : Below w.heap.size w W) => digits_any a c n W (hn.mono hW) (by omega) (by omega))
  have HDd := Lib.hid (fun W a k (h : DigsAt W a (nl d) k d) => digits_any a k d W h (by omega) (by omega))
  have HN1 := Lib.hid (fun W => nat_any 1 (by omega) W)
  have HOr := Lib.hid (fun W a1 k1 a2 k2 (x1 : DigsAt W a1 (nl d) k1 d) (x2 : DigsAt W a2 (nl 1) k2 1) => order_any a1 a2 k1 k2 d 1 W x1 x2 (by omega))
  have HU := Lib.hid hU
  have HM0 := Lib.hid ((Mem.start w).new 35 [.bool s, .slice a (nl n) c, .slice b (nl d) k])
  have b1 : ¬ 9223372036854775807 < 1 + (Lib.decDigits n).length := by omega
  have b2 : ¬ 9223372036854775807 < (Lib.decDigits n).length + 1 + (Lib.decDigits d).length := by omega
  have b3 : ¬ 9223372036854775807 < 1 + (Lib.decDigits n).length + 1 + (Lib.decDigits d).length := by omega
  have b4 : ¬ 9223372036854775807 < (Lib.decDigits n).length + 1 := by omega
  have b5 : ¬ 9223372036854775807 < 1 + (Lib.decDigits n).length + 1 := by omega
  clear hn h1 h2 l1 l2 hU
  go_enter Tryz.func99, Tryz.ntmps99
  go_wp2_with fail
  refine (HT.out _ HM0.out.d).mono ?_
  rintro e w1 ⟨rfl, hb1⟩
  have HM1 := Lib.hid (HM0.out.call hb1)
  obtain ⟨k0, k1, k2⟩ := S3 (HM1.out.box (i := 0) rfl)
  clear hb1
  cases s with
  | false =>
    go_wp2_with fail
    refine (HU.out _ HM1.out.d).mono ?_
    rintro e w2 ⟨a2, c2, rfl, hd2, hb2⟩
    have HM2 := Lib.hid (HM1.out.call hb2)
    have HD2 := Lib.hid hd2
    obtain ⟨k0, k1, k2⟩ := S3 (HM2.out.box (i := 0) rfl)
    clear hb2 hd2
    go_wp2_with fail
    refine (HN1.out w2).mono ?_
    rintro e w3 ⟨a3, c3, rfl, hd3, hb3, -⟩
    have HM3 := Lib.hid (HM2.out.call hb3)
    have HD2 := Lib.hid (HD2.out.mono hb3)
    have HD3 := Lib.hid hd3
    clear hb3 hd3
    go_wp2_with fail
    refine (HOr.out _ _ _ _ _ HD2.out HD3.out).mono ?_
    rintro e w4 ⟨rfl, q, hq⟩
    have m4 := HM3.out.call (below_dn (Below.refl _ _) q)
    rw [hq] at m4
    have HM4 := Lib.hid m4
    obtain ⟨k0, k1, k2⟩ := S3 (HM4.out.box (i := 0) rfl)
    clear m4 hq HM1 HM2 HM3
    by_cases hd1 : d = 1
    · have g : cmpN d 1 = 0 := cmpN_eq hd1
      have HD1 := Lib.hid hd1
      clear hd1
      go_wp2_with fail
      go_ret
      have hd1 := HD1.out
      exact ⟨by rw [HR.out, if_pos hd1]; simp, HM4.out.d⟩
    · have g : cmpN d 1 = 1 := cmpN_gt (by omega)
      have HD1 := Lib.hid hd1
      clear hd1 hd0
      go_wp2_with fail
      refine (HU.out _ HM4.out.d).mono ?_
      rintro e w5 ⟨a5, c5, rfl, hd5, hb5⟩
      have HM5 := Lib.hid (HM4.out.call hb5)
      have HD5 := Lib.hid hd5
      clear hb5 hd5
      go_wp2_with fail
      refine (HDd.out _ _ _ HD5.out).mono ?_
      rintro e w6 ⟨rfl, hb6⟩
      have HM6 := Lib.hid (HM5.out.call hb6)
      clear hb6
      go_wp2_with fail
      go_ret
      have hd1 := HD1.out
      exact ⟨by rw [HR.out, if_neg hd1]; exact join_r2 _ _, HM6.out.d⟩
  | true =>
    go_wp2_with fail
    refine (HU.out _ HM1.out.d).mono ?_
    rintro e w2 ⟨a2, c2, rfl, hd2, hb2⟩
    have HM2 := Lib.hid (HM1.out.call hb2)
    have HD2 := Lib.hid hd2
    obtain ⟨k0, k1, k2⟩ := S3 (HM2.out.box (i := 0) rfl)
    clear hb2 hd2
    go_wp2_with fail
    refine (HN1.out w2).mono ?_
    rintro e w3 ⟨a3, c3, rfl, hd3, hb3, -⟩
    have HM3 := Lib.hid (HM2.out.call hb3)
    have HD2 := Lib.hid (HD2.out.mono hb3)
    have HD3 := Lib.hid hd3
    clear hb3 hd3
    go_wp2_with fail
    refine (HOr.out _ _ _ _ _ HD2.out HD3.out).mono ?_
    rintro e w4 ⟨rfl, q, hq⟩
    have m4 := HM3.out.call (below_dn (Below.refl _ _) q)
    rw [hq] at m4
    have HM4 := Lib.hid m4
    obtain ⟨k0, k1, k2⟩ := S3 (HM4.out.box (i := 0) rfl)
    clear m4 hq HM1 HM2 HM3
    by_cases hd1 : d = 1
    · have g : cmpN d 1 = 0 := cmpN_eq hd1
      have HD1 := Lib.hid hd1
      clear hd1
      go_wp2_with fail
      go_ret
      have hd1 := HD1.out
      exact ⟨by rw [HR.out, if_pos hd1]; exact join_r1 _, HM4.out.d⟩
    · have g : cmpN d 1 = 1 := cmpN_gt (by omega)
      have HD1 := Lib.hid hd1
      clear hd1 hd0
      go_wp2_with fail
      refine (HU.out _ HM4.out.d).mono ?_
      rintro e w5 ⟨a5, c5, rfl, hd5, hb5⟩
      have HM5 := Lib.hid (HM4.out.call hb5)
      have HD5 := Lib.hid hd5
      clear hb5 hd5
      go_wp2_with fail
      refine (HDd.out _ _ _ HD5.out).mono ?_
      rintro e w6 ⟨rfl, hb6⟩
      have HM6 := Lib.hid (HM5.out.call hb6)
      clear hb6
      go_wp2_with fail
      go_ret
      have hd1 := HD1.out
      exact ⟨by rw [HR.out, if_neg hd1]; exact join_r3 _ _, HM6.out.d⟩
theorem rtext_any {w : World} {v : Value} {q : Rat} (h : RefAt w v q) (h1 : (Lib.decDigits (top q)).length ≤ TL) (h2 : (Lib.decDigits q.den).length ≤ TL) (l1 : nl (top q) ≤ 1048576) (l2 : nl q.den ≤ 1048576) :
    Calls Tryz.prog 99 #[v] w (GivesT w (textQ q)) := by
  have hU := fun W (hW : Below w.heap.size w W) => under_any (h.mono hW)
  obtain ⟨a, c, b, d, e, hn, _⟩ := h
  exact rtext_case (neg q) a b c d (top q) q.den v e hn h1 h2 l1 l2 (Rat.den_nz q) hU
end R3
end Go.Proofs.YtpchihhngpdblaaGreatDoor
namespace Go.Proofs.YtpchihhngpdblaaGreatDoor
open Go.RowKit Go.Sort Fr
theorem d3_nl {x : Nat} (h : Dg.nl x ≤ 38) : D3.nl x ≤ 1048576 := by
  unfold Dg.nl at h
  unfold D3.nl
  split
  · omega
  · rename_i h0; rw [if_neg h0] at h; omega
set_option maxHeartbeats 4000000 in
theorem Is_any {w : World} {u v : Value} {q : Rat} (hx : FracAt w u q) (hy : R3.RefAt w v q) (hs : Small q) (_hsr : R3.SmallR q) (htab : Lib.TabIs Tryz.prog w "internal/strconv.uint64pow10" .u64 Lib.pow10Tab) :
    Calls Tryz.prog 32 #[u, v] w fun e w' => e = .returned (.bool true) ∧ Below w.heap.size w w' := by
  obtain ⟨s1, s2⟩ := hs
  have hl1 := dec_short (show Dg.nl (top q) ≤ 40 by omega)
  have hl2 := dec_short (show Dg.nl q.den ≤ 40 by omega)
  have r1 : D3.nl (top q) ≤ 1048576 := d3_nl s1
  have r2 : D3.nl q.den ≤ 1048576 := d3_nl s2
  have HTx := Lib.hid (fun W (hW : Below w.heap.size w W) => Text_any (hx.mono hW) (by omega) (by omega) (Lib.tabBelow_of_tabIs htab W hW))
  have HTy := Lib.hid (fun W (hW : Below w.heap.size w W) => R3.rtext_any (hy.mono hW) hl1 hl2 r1 r2)
  obtain ⟨ax, cx, bx, nx, kx, rfl, _, _⟩ := hx
  obtain ⟨ay, cy, bY, ky, rfl, _, _⟩ := hy
  clear hl1 hl2 r1 r2 s1 s2 htab
  generalize neg q = sx at *
  generalize Dg.nl (top q) = mx at *
  generalize D3.nl (top q) = my at *
  generalize D3.nl q.den = dy at *
  generalize textQ q = tx at *
  have HM0 := Lib.hid (((Mem.start w).new' (n := w.heap.size) (by simp) 30 [.bool sx, .slice ax mx cx, .slice bx nx kx]).new' (n := w.heap.size + 1) (by simp) 35 [.bool sx, .slice ay my cy, .slice bY dy ky])
  go_enter Tryz.func32, Tryz.ntmps32
  go_wp2_with fail
  generalize hW : (w.alloc (.cells _ 30)).alloc (.cells _ 35) = W at HM0 ⊢
  clear hW
  obtain ⟨j0, j1, j2⟩ := S3 (HM0.out.box (i := 0) rfl)
  obtain ⟨k0, k1, k2⟩ := S3 (HM0.out.box (i := 1) rfl)
  go_region_held3 (fun w' => w'.cell? ⟨w.heap.size + 1, 0, none⟩ = some (.bool sx) ∧ w'.cell? ⟨w.heap.size + 1, 1, none⟩ = some (.slice ay my cy) ∧ w'.cell? ⟨w.heap.size + 1, 2, none⟩ = some (.slice bY dy ky) ∧ w'.cell? ⟨w.heap.size, 0, none⟩ = some (.bool sx) ∧ w'.cell? ⟨w.heap.size, 1, none⟩ = some (.slice ax mx cx) ∧ w'.cell? ⟨w.heap.size, 2, none⟩ = some (.slice bx nx kx)) (first | exact ⟨j0, j1, j2, k0, k1, k2⟩ | go_keep)
    (first
      | (go_at_call 63; (with_reducible refine (HTx.out _ HM0.out.drew.d).mono ?_); rintro e w1 ⟨rfl, hb1⟩; have HM1 := Lib.hid (HM0.out.drew.call hb1); obtain ⟨j0, j1, j2⟩ := S3 (HM1.out.box (i := 0) rfl); obtain ⟨k0, k1, k2⟩ := S3 (HM1.out.box (i := 1) rfl))
      | (go_at_call 99; (with_reducible refine (HTy.out _ HM1.out.d).mono ?_); rintro e w2 ⟨rfl, hb2⟩; have HM2 := Lib.hid (HM1.out.call hb2); obtain ⟨j0, j1, j2⟩ := S3 (HM2.out.box (i := 0) rfl); obtain ⟨k0, k1, k2⟩ := S3 (HM2.out.box (i := 1) rfl)))
  go_wp2_with fail
  go_ret
  exact ⟨rfl, HM2.out.d⟩
end Go.Proofs.YtpchihhngpdblaaGreatDoor
