/- parcel's reader: items (what they are: ItM). -/
import Derived.Test.YtjpkhefegpbooaaPt3
import Derived.Test.YtjpkhefegpbooaaItM
namespace Go.Proofs.Ytjpkhefegpbooaa
end Go.Proofs.Ytjpkhefegpbooaa
