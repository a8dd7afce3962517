/-
  What GetFrame tells of a right frame's bytes, and of bytes that can't be read.
-/
import Derived.Test.YtgbdmpfojiihnaaDoorGetW
import Derived.Test.YtgbdmpfojiihnaaDoorFrmB
namespace Go.Proofs.YtgbdmpfojiihnaaDoor.Frm
open Go.RowKit Go.Proofs.YtgbdmpfojiihnaaDoor.Num
set_option linter.unusedVariables false

theorem got_back {k d e s i : Int} {b S : ByteArray} {en : Ending} (h : FOk k d e s i b.size) (hS : S.data.toList = frBytes k d e s i b.data.toList) (hg : GotE S en) :
    en = .returned (.tuple #[.agg #[.int .i64 k, .int .i64 d, .int .i64 e, .int .i64 s, .int .i64 i, .string b], .int .i64 0]) := by
  obtain ⟨h0, h1, h2, h3, h4, h5, h6, _⟩ := back h hS
  rcases hg with ⟨hc, rfl⟩ | ⟨hc, rfl⟩
  · rw [h1, h2, h3, h4, h5, h6]
  · exact absurd h0 hc
theorem got_bad {S : ByteArray} {en : Ending} (h : gcode S ≠ 0) (hg : GotE S en) :
    en = .returned (.tuple #[.agg #[.int .i64 0, .int .i64 0, .int .i64 0, .int .i64 0, .int .i64 0, .string ByteArray.empty], .int .i64 (gcode S)]) := by
  rcases hg with ⟨hc, rfl⟩ | ⟨hc, rfl⟩
  · exact absurd hc h
  · rfl
theorem put_text {k d e s i : Int} {b : ByteArray} (h : FOk k d e s i b.size) : (⟨(putF k d e s i b.data.toList).toArray⟩ : ByteArray).data.toList = frBytes k d e s i b.data.toList := by
  rw [putF_yes (by rw [len_size]; exact h)]
theorem put_size {k d e s i : Int} {b S : ByteArray} (h : FOk k d e s i b.size) (hS : S.data.toList = frBytes k d e s i b.data.toList) : S.size = 11 + b.size := (back h hS).2.2.2.2.2.2.2
end Go.Proofs.YtgbdmpfojiihnaaDoor.Frm
