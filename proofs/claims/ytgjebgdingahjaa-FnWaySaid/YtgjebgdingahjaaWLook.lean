/-
  Looking a number up in a window's map, and taking it out. No condition but small numbers.
-/
import Derived.Test.YtgjebgdingahjaaWin
namespace Go.Proofs.Ytgjebgdingahjaa
open Go.RowKit Go.Maps

theorem zero_piece (w : World) : (zeroValue 36).run Try.prog w = .ok (.agg #[.int .i64 0, .string ByteArray.empty]) w := by
  obtain ⟨i0, hi, hz0, hz1, hz2⟩ := info_parts Try.infoPc
  simp [zeroValue, typeInfo, hi, hz0]
theorem look_yes {w : World} {mb n : Nat} {D : DataW Unit} {ps : List Pc} {p : Pc} (hD : w.ownsMap Try.prog 3 pcR mb n D) (hM : MapIs D ps) (hp : p ∈ ps) (h0 : 0 ≤ p.n) (h1 : p.n ≤ 1000000) :
    (Instr.lookup 47 (.map (some mb)) (.int .i64 p.n) true).run Try.prog w = .ok (.tuple #[.agg #[.int .i64 p.n, .string p.s], .bool true]) w := by
  obtain ⟨v, ps', hrun, hv⟩ := hD.look_ok Try.keyedInt Try.underlying47 (zero_piece w) (pcR_mk 0 ByteArray.empty) (key_int (wf_small h0 h1))
  have hh := ((hM.2 p.n).1).2 ⟨p, hp, rfl⟩
  rw [(hM.2 p.n).2 p hp rfl] at hv
  rw [hh, pcR_inv hv] at hrun
  exact hrun
theorem look_no {w : World} {mb n : Nat} {D : DataW Unit} {ps : List Pc} {x : Int} (hD : w.ownsMap Try.prog 3 pcR mb n D) (hM : MapIs D ps) (hp : ∀ p ∈ ps, p.n ≠ x) (h0 : 0 ≤ x) (h1 : x ≤ 1000000) :
    (Instr.lookup 47 (.map (some mb)) (.int .i64 x) true).run Try.prog w = .ok (.tuple #[.agg #[.int .i64 0, .string ByteArray.empty], .bool false]) w := by
  obtain ⟨v, ps', hrun, hv⟩ := hD.look_ok Try.keyedInt Try.underlying47 (zero_piece w) (pcR_mk 0 ByteArray.empty) (key_int (wf_small h0 h1))
  have hh : Maps.has D (.int .i64 x) = false := by
    cases hc : Maps.has D (.int .i64 x) with
    | false => rfl
    | true =>
      obtain ⟨p, hp', e⟩ := ((hM.2 x).1).1 hc
      exact absurd e (hp p hp')
  rw [atKey_of_not_has hh] at hv
  rw [hh, pcR_inv hv] at hrun
  exact hrun
end Go.Proofs.Ytgjebgdingahjaa
