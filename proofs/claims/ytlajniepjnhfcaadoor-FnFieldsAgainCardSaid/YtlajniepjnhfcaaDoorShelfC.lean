/- The contract of strings.Clone lies in the text of the shelf. -/
import Derived.Test.YtlajniepjnhfcaaDoorShelf
