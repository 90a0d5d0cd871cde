/- Package option: what its functions answer, gathered: Right, Of, Turned (XOpR), Take (XOpT), Put (XOpQ). -/
import Derived.Test.YtjhicdinhcfbjaaOpQ
namespace Go.Proofs.Ytjhicdinhcfbjaa
end Go.Proofs.Ytjhicdinhcfbjaa
