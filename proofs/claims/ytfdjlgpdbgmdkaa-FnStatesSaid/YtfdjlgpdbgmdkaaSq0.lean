/- Words: parts of texts in walks. No program. -/
import Derived.Test.YtfdjlgpdbgmdkaaBase
import Derived.ProofKit
import Derived.BigQuiet
import Derived.WalkLawsBesides
import Derived.Laws.IdiomStrings
import Derived.Laws.Strings3
import Derived.Laws.DeepStrings4
