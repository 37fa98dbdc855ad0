/- How many bytes the disk's answers hold. -/
import Derived.Test.YtdggbjhfbimebaaDisk1
namespace Go.Proofs.Ytdggbjhfbimebaa

theorem diskWrite_bulk (d : MDisk) (b : List Int) : (diskWrite d b).bulk ≤ d.bulk + b.length := by
  unfold diskWrite
  split
  · simp only [MDisk.bulk, List.length_append]; omega
  · simp [MDisk.bulk, diskZ]
theorem diskAll_len (d : MDisk) : (diskAll d).length ≤ d.bulk := by simp [diskAll, MDisk.bulk]
theorem diskSync_bulk (d : MDisk) : (diskSync d).bulk ≤ d.bulk := by simp [diskSync, MDisk.bulk]
theorem diskFall_bulk (d : MDisk) (n : Int) : (diskFall d n).bulk ≤ d.bulk := by
  simp only [diskFall, MDisk.bulk, List.length_append, List.length_take, List.length_nil]; omega
theorem diskReset_bulk (d : MDisk) (b : List Int) : (diskReset d b).bulk ≤ b.length := by
  unfold diskReset
  split
  · simp [MDisk.bulk]
  · simp [MDisk.bulk, diskZ]

end Go.Proofs.Ytdggbjhfbimebaa
