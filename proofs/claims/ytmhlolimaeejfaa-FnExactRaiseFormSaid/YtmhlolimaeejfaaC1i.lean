/- Chapter 1: primitive parts. -/
import Derived.Test.YtmhlolimaeejfaaC1h
namespace Go.Proofs.Ytmhlolimaeejfaa
open Go.RowKit



end Go.Proofs.Ytmhlolimaeejfaa
