/- no contract of the library is wanted here -/
import Derived.Test.YtogffkgihjdbkaaProg
namespace Go.Proofs.Ytogffkgihjdbkaa
end Go.Proofs.Ytogffkgihjdbkaa
