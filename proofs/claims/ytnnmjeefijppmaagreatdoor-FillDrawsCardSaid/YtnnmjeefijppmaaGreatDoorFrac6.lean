/- Abs, inverse, over, Div, Cmp. -/
import Derived.Test.YtnnmjeefijppmaaGreatDoorFrac2
namespace Go.Proofs.YtnnmjeefijppmaaGreatDoor
open Go.RowKit Go.Sort Dg Fr

theorem Small.inv {q : Rat} (h : Small q) : Small q⁻¹ := by
  obtain ⟨h1, h2⟩ := inv_parts q
  unfold Small top
  rw [h1, h2]
  split
  · exact ⟨by decide, by decide⟩
  · exact ⟨h.2, h.1⟩
theorem Small.neg {q : Rat} (h : Small q) : Small (-q) := by
  unfold Small top
  rw [show (-q).num = -q.num from rfl, show (-q).den = q.den from rfl, Int.natAbs_neg]; exact h
/-- The absolute value. -/
def absQ (q : Rat) : Rat := frac false (top q) q.den
theorem absQ_eq (q : Rat) : absQ q = if q.num < 0 then -q else q := by
  unfold absQ
  split
  · rename_i h
    have : neg q = true := by unfold neg; simpa using h
    rw [show false = !(neg q) by rw [this]; rfl, frac_opp_self]
  · rename_i h
    have : neg q = false := by unfold neg; simpa using h
    rw [← this]; exact frac_self q

/-- One fraction that is handed in, and its parts. -/
structure Parts (w : World) (v : Value) (q : Rat) (s : Bool) (a : Option Addr) (c n : Nat) (b : Option Addr) (m k d : Nat) : Prop where
  v : v = .agg #[.bool s, .slice a (nl n) c, .slice b m k]
  at_ : FracAt w (.agg #[.bool s, .slice a (nl n) c, .slice b m k]) q
  hs : neg q = s
  hn : top q = n
  hd : q.den = d
  digs : DigsAt w a (nl n) c n
  bot : BotAt w (.slice b m k) d
theorem FracAt.parts {w : World} {v : Value} {q : Rat} (h : FracAt w v q) : ∃ s a c n b m k d, Parts w v q s a c n b m k d := by
  have h0 := h
  obtain ⟨a, c, b, m, k, rfl, hd, hB⟩ := h
  exact ⟨_, a, c, _, b, m, k, _, rfl, h0, rfl, rfl, rfl, hd, hB⟩

end Go.Proofs.YtnnmjeefijppmaaGreatDoor
