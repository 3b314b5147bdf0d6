/- A byte made a text; small facts of decimal digits. -/
import Derived.Test.YtnojigofojjopaaDoorRows
import Derived.Test.YtnojigofojjopaaDoorBase
import Derived.WalkKit
import Derived.WalkSpells
import Derived.WalkLawsBesides
import Derived.WalkSmall
import Derived.Laws.BytesString
namespace Go.Proofs.YtnojigofojjopaaDoor
open Go.RowKit

theorem conv1 (W : World) (n : Int) : (convert 35 9 (.slice (some ⟨W.heap.size, 0, none⟩) 1 1)).run Tryd.prog (W.alloc (.cells #[.int .u8 n] 5)) = .ok (.string ⟨#[UInt8.ofNat n.toNat]⟩) (W.alloc (.cells #[.int .u8 n] 5)) := by
  rw [run_convert_bytes_string _ 35 9 5 _ _ _ Tryd.underlying35 Tryd.underlying5 Tryd.underlying9]
  rw [run_bytesToString _ ⟨W.heap.size, 0, none⟩ 1 1 [n] (by simp [loadCells, go_sem])]
  rfl
theorem toList_snoc (x : UInt8) (out : ByteArray) : ((⟨#[x]⟩ : ByteArray) ++ out).data.toList = x :: out.data.toList := by
  rw [ByteArray.data_append]; simp
theorem size_snoc (x : UInt8) (out : ByteArray) : ((⟨#[x]⟩ : ByteArray) ++ out).size = out.size + 1 := by
  rw [ByteArray.size_append]; show 1 + out.size = _; omega

/-- A number of so many places: 'f' bounds how many rounds there are. -/
theorem div_ten_lt (m f : Nat) (h : m < 10 ^ (f + 1)) : m / 10 < 10 ^ f := by
  rw [Nat.pow_succ] at h; omega

end Go.Proofs.YtnojigofojjopaaDoor
