/- Texts of ours that stand together: ImplSum, SpecSum, Alive -/
import Derived.Test.YtoiblfjafjoaeabGreatCore
import Derived.WalkSpells
/- The contract of the program's SumOf. -/
namespace Go.Proofs.YtoiblfjafjoaeabGreat
open Go.RowKit
end Go.Proofs.YtoiblfjafjoaeabGreat
/- The contract of the model's SumOf. -/
namespace Go.Proofs.YtoiblfjafjoaeabGreat
open Go.RowKit
end Go.Proofs.YtoiblfjafjoaeabGreat
/- The contract of the laws' own alive. -/
namespace Go.Proofs.YtoiblfjafjoaeabGreat
open Go.RowKit
end Go.Proofs.YtoiblfjafjoaeabGreat
